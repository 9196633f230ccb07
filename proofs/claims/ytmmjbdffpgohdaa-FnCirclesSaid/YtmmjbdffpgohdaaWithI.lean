/- spec.l1Own, spec.l8With. Condition: sizes. -/
import Derived.Test.YtmmjbdffpgohdaaCirP
import Derived.Test.YtmmjbdffpgohdaaAppAny
import Derived.Deep.RegionHeld3
import Derived.StillTailTactics
namespace Go.Proofs.Ytmmjbdffpgohdaa
open Go.RowKit
set_option linter.unusedVariables false
theorem iv_cells (a : List Int) : ∀ v ∈ intVs a, v.oneCell' = true := by
  intro v hv
  obtain ⟨x, _, rfl⟩ := List.mem_map.1 hv
  rfl
theorem Rd.news {w : World} {v : Value} {l : List Int} (h : Rd w v (intVs l)) :
    ∃ ao c, v = .slice ao l.length c ∧ (0 < l.length → ∃ ad : Addr, ao = some ad ∧ ad.block < w.heap.size ∧ ∀ j u, (intVs l)[j]? = some u → w.cell? (ad.add j) = some u) := by
  have hl : (intVs l).length = l.length := by simp [intVs]
  rcases h with ⟨h0, a, cap, rfl⟩ | ⟨b, off, cap, rfl, hlt, hm, hc⟩
  · have : l.length = 0 := by rw [← hl, h0]; rfl
    exact ⟨a, cap, by rw [this], fun h => by omega⟩
  · exact ⟨_, cap, by rw [hl], fun _ => ⟨⟨b, off, none⟩, rfl, hlt, fun j u hu => by rw [gs_addr]; exact hc j u hu⟩⟩
set_option maxRecDepth 100000 in
set_option maxHeartbeats 1000000 in
theorem l1Own_c (v : Value) (l : List Int) (w : World) (hr : Rd w v (intVs l)) (hn : l.length ≤ 1048576) :
    Calls Try.prog 88 #[v] w fun e w' => ∃ g, e = .returned g ∧ w'.ownsRow w.heap.size 3 1 g l.length (intVs l) ∧ g.ownBlock ≠ none ∧ Below w.heap.size w w' := by
  obtain ⟨i0, hi, hz0, hz1, hz2⟩ := info_parts Try.infoInt8
  obtain ⟨ao, c, rfl, hnew⟩ := hr.news
  have HN := Lib.hid hnew
  have hll : (intVs l).length = l.length * 1 := by simp [intVs]
  have HC := Lib.hid (iv_cells l)
  clear hr hnew
  go_enter Try.func88, Try.ntmps88
  go_wp2_with (at_builtin; go_loud (refine wpList_append_any _ rfl _ _ 49 rfl w.heap.size 3 i0 (.int .i64 0) 1 8 Try.underlying49 hi hz0 hz1 hz2 rfl (by omega) (.slice (some ⟨w.heap.size, 0, none⟩) 0 0) 0 [] rfl (World.ownsRow_made w #[] 0 (Nat.le_refl _) (by decide) rfl) ao l.length c (intVs l) rfl hll (fun h => by
    obtain ⟨ad, e, hb, hx⟩ := HN.out h
    exact ⟨ad, e, fun j u hu => (World.cell?_alloc_some w _ _ (by rw [hx j u hu]; rfl)).trans (hx j u hu)⟩) HC.out (by unfold maxLen; omega) (by omega) (by simp) ?_; intro v' w1 hown hgrow hat))
  go_ret
  refine ⟨v', rfl, ?_, ?_, ?_⟩
  · simpa using hown
  · rcases hat with h | h <;> rw [h] <;> simp [Value.ownBlock]
  · exact ((Below.refl _ _).alloc (Nat.le_refl _) _).grown hgrow (by simp) (fun j hj => by simp [Value.ownBlock] at hj; omega)
set_option maxRecDepth 100000 in
set_option maxHeartbeats 2000000 in
theorem l8With_c (L S : Int) (v u : Value) (l m : List Int) (w : World) (hr : Rd w v (intVs l)) (hu : Rd w u (intVs m)) (hm : m.length ≤ 1048576) :
    Calls Try.prog 86 #[.agg #[.int .i64 L, .int .i64 S, v], u] w fun e w' => ∃ g, e = .returned (.agg #[.int .i64 L, .int .i64 S, g]) ∧ w'.ownsRow w.heap.size 3 1 g m.length (intVs m) ∧ g.ownBlock ≠ none ∧ Below w.heap.size w w' := by
  have HU := Lib.hid hu
  obtain ⟨a, ca, rfl⟩ := hr.isl
  obtain ⟨a2, c2, rfl⟩ := hu.isl
  have hb0 := ((Below.refl w.heap.size w).alloc (Nat.le_refl _) (.cells #[.int .i64 L, .int .i64 S, .slice a l.length ca] 55)).alloc (by simp) (.cells #[.int .i64 0, .int .i64 0, .slice none 0 0] 55)
  have hk0 := blk_stay (o' := .cells #[.int .i64 0, .int .i64 0, .slice none 0 0] 55) (blk_new3 w (.int .i64 L) (.int .i64 S) (.slice a l.length ca) 55)
  have hk1 := blk_new3 (w.alloc (.cells #[.int .i64 L, .int .i64 S, .slice a l.length ca] 55)) (.int .i64 0) (.int .i64 0) (.slice none 0 0) 55
  simp only [World.size_alloc] at hk1
  clear hr hu
  go_enter Try.func86, Try.ntmps86
  go_wp2_with fail
  generalize hW0 : (w.alloc (.cells #[.int .i64 L, .int .i64 S, .slice a l.length ca] 55)).alloc (.cells #[.int .i64 0, .int .i64 0, .slice none 0 0] 55) = W0 at *
  have hs0 : W0.heap.size = w.heap.size + 2 := by rw [← hW0]; simp
  clear hW0
  have HK1 := Lib.hid hk1
  have HU0 := Lib.hid (fun W (hW : Below W0.heap.size W0 W) => HU.out.below (hb0.trans (hW.mono hb0.size)) rfl)
  have HB0 := Lib.hid hb0
  have HKS : Hid (∀ W, Below (w.heap.size + 1) W0 W → Below (w.heap.size + 1) W0 W ∧ W.cell? ⟨w.heap.size, 0, none⟩ = some (.int .i64 L) ∧ W.cell? ⟨w.heap.size, 1, none⟩ = some (.int .i64 S)) := Lib.hid (fun W hW => by
    obtain ⟨d0, d1, _⟩ := blk_cell3 (blk_keep hk0 hW (by omega))
    exact ⟨hW, d0, d1⟩)
  clear hk0 hk1 hb0
  go_region_held3 (fun w' => Below (w.heap.size + 1) W0 w' ∧ w'.cell? ⟨w.heap.size, 0, none⟩ = some (.int .i64 L) ∧ w'.cell? ⟨w.heap.size, 1, none⟩ = some (.int .i64 S))
    (exact HKS.out _ (by first | exact Below.refl _ _ | exact (Below.refl _ _).drew | exact b1t.mono (by omega) | exact below_all3 (b1t.mono (by omega)) (by omega) _ _ _ | fail))
    (first
      | (go_at_call 88; refine (l1Own_c _ m _ (HU0.out _ (by first | exact Below.refl _ _ | exact (Below.refl _ _).drew | fail)) hm).mono ?_; rintro e W1 ⟨g, rfl, o1, hg, b1⟩; obtain ⟨ga, gc, rfl⟩ := (Rs.of_own o1).shape; have b1t : Below W0.heap.size W0 W1 := (Below.refl _ _).drew.trans b1; have K1 := blk_keep HK1.out b1t (by omega); obtain ⟨r0, r1, r2⟩ := blk_cell3 K1; obtain ⟨s0, s1, s2⟩ := blk_froz3 K1)
      | fail)
  have Z := blk_all3 (x := .int .i64 L) (y := .int .i64 S) (z := .slice ga m.length gc) K1
  obtain ⟨z0, z1, z2⟩ := blk_cell3 Z
  have Z0 := Lib.hid z0
  have Z1 := Lib.hid z1
  have Z2 := Lib.hid z2
  have HOF := Lib.hid (own_by (b := w.heap.size + 1) (own_mono o1 (show w.heap.size ≤ W0.drew.heap.size by show w.heap.size ≤ W0.heap.size; omega)) (grown_all3 W1 (w.heap.size + 1) (.int .i64 L) (.int .i64 S) (.slice ga m.length gc)) (fun h => by have := (o1.lt _ h).1; have : W0.heap.size ≤ w.heap.size + 1 := this; omega))
  have HTF := Lib.hid (below_all3 (HB0.out.trans (b1t.mono HB0.out.size)) (b := w.heap.size + 1) (by omega) (.int .i64 L) (.int .i64 S) (.slice ga m.length gc))
  clear Z z0 z1 z2 K1 r0 r1 r2 s0 s1 s2
  go_wp2
  refine bodyPost_ret (v := .agg #[.int .i64 L, .int .i64 S, .slice ga m.length gc]) (by simp [results, Try.results86, go_sem, Z0.out, Z1.out, Z2.out]) rfl ⟨_, rfl, HOF.out, hg, HTF.out⟩
end Go.Proofs.Ytmmjbdffpgohdaa
