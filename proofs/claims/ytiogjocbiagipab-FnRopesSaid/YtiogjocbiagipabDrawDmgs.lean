/- The drawn damages. Condition: sizes. -/
import Derived.Test.YtiogjocbiagipabDrawDmg
import Derived.Test.YtiogjocbiagipabAddSpecC
namespace Go.Proofs.Ytiogjocbiagipab
open Go.RowKit
set_option linter.unusedVariables false
theorem grown_of_below {w w' : World} {b : Nat} (h : Below w.heap.size w w') : w.grownBy w' (some b) := ⟨h.os, h.tape, h.output, h.size, fun k hk _ => h.block k hk⟩
theorem grown_of_below0 {w w' : World} (h : Below w.heap.size w w') : w.grownBy w' none := ⟨h.os, h.tape, h.output, h.size, fun k hk _ => h.block k hk⟩
abbrev StD (B b k : Nat) (w W : World) (v : Value) (l : List Dmg) : Prop := St 34 3 B b k w W v l.length (dmgs l)
/-- What drawing damages leaves. -/
def DsPost (B b k : Nat) (w : World) (e : Ending) (w' : World) : Prop := ∃ (v : Value) (l : List Dmg), e = .returned v ∧ StD B b (k + 400) w w' v l ∧ l.length ≤ 17
theorem DsPost.mk {B b k kk : Nat} {w w' : World} {v : Value} {l : List Dmg} (h : StD B b (k + kk) w w' v l) (hk : kk ≤ 400) (hl : l.length ≤ 17) : DsPost B b k w (.returned v) w' := ⟨v, l, rfl, h.more (by omega), hl⟩
theorem box5 {W : World} {g : Nat} {x0 x1 x2 x3 x4 : Value} {t : TypeId} (K : W.heap[g]? = some (.cells #[x0, x1, x2, x3, x4] t (0, 0))) :
    W.cell? ⟨g, 0, none⟩ = some x0 ∧ W.cell? ⟨g, 1, none⟩ = some x1 ∧ W.cell? ⟨g, 2, none⟩ = some x2 ∧ W.cell? ⟨g, 3, none⟩ = some x3 ∧ W.cell? ⟨g, 4, none⟩ = some x4 := by
  have p0 := cell_of_row W g 0 _ _ _ K
  have p1 := cell_of_row W g 1 _ _ _ K
  have p2 := cell_of_row W g 2 _ _ _ K
  have p3 := cell_of_row W g 3 _ _ _ K
  have p4 := cell_of_row W g 4 _ _ _ K
  simp at p0 p1 p2 p3 p4
  exact ⟨p0, p1, p2, p3, p4⟩
set_option maxRecDepth 100000 in
set_option maxHeartbeats 8000000 in
theorem damages_any (B b k : Nat) (x : RK) (w : World) (h : Cur B b k w) (hk : k ≤ 700000000) (hx : (0 ≤ x.s ∧ x.s ≤ 9) ∧ (0 ≤ x.w ∧ x.w ≤ 41)) :
    Calls Try.prog 50 #[.pointer (some ⟨b, 0, none⟩), .agg #[.int .i64 x.i, .int .i64 x.s, .int .i64 x.w, .int .i64 x.g, .int .i64 x.p]] w (DsPost B b k w) := by
  obtain ⟨i0, hi, hz0, hz1, hz2⟩ := info_parts Try.infoDmg
  have HH := Lib.hid h
  have hb := h.2.1
  have HXX := Lib.hid hx
  clear h hx
  go_enter Try.func50, Try.ntmps50
  go_upto_region 2 with fail
  have S0 : Hid (StD B b k w ((w.alloc (.cells #[.int .i64 x.i, .int .i64 x.s, .int .i64 x.w, .int .i64 x.g, .int .i64 x.p] 25)).alloc (.cells #[] 34)) (.slice (some ⟨w.heap.size + 1, 0, none⟩) 0 0) []) := Lib.hid ⟨(HH.out.alloc _).alloc _, by
      have := World.ownsRow_made (w.alloc (.cells #[.int .i64 x.i, .int .i64 x.s, .int .i64 x.w, .int .i64 x.g, .int .i64 x.p] 25)) (e := 34) (base := w.heap.size) (size := 3) #[] 0 (by simp) (by decide) rfl
      rw [← aszD] at this
      exact this, grown_trans (World.grownBy_alloc _ _ _) (World.grownBy_alloc _ _ _), hb⟩
  have K0 := Lib.hid (old_allocD (o' := .cells #[] 34) (heap_alloc_new w (.cells #[.int .i64 x.i, .int .i64 x.s, .int .i64 x.w, .int .i64 x.g, .int .i64 x.p] 25)))
  have hs0 : ((w.alloc (.cells #[.int .i64 x.i, .int .i64 x.s, .int .i64 x.w, .int .i64 x.g, .int .i64 x.p] 25)).alloc (.cells #[] 34)).heap.size = w.heap.size + 2 := by simp
  generalize hw0 : (w.alloc (.cells #[.int .i64 x.i, .int .i64 x.s, .int .i64 x.w, .int .i64 x.g, .int .i64 x.p] 25)).alloc (.cells #[] 34) = w0 at *
  clear hw0 HH
  go_wp2_with fail
  refine (pick_any B b k 9 w0 S0.out.cur (by omega) (by omega) (by omega)).mono ?_
  rintro e w1 ⟨m0, rfl, hm0, hc, hg⟩
  have S1 := Lib.hid (S0.out.call hc hg)
  have K1 := Lib.hid (keepD hg (by omega) K0.out)
  have hs1 := hg.size
  clear hc hg S0 K0
  go_wp2_with fail
  go_loopw [5, 6, 7, 8] (fun out n _ _ wr => ∃ (m : Nat) (a : Option Addr) (ca : Nat) (l : List Dmg), n = .int .i64 (m : Int) ∧ out = .slice a l.length ca ∧ (l.length ≤ 15 ∧ m ≤ 8) ∧ w.heap.size < wr.heap.size ∧ Hid (StD B b (k + 2 + 20 * (8 - m)) w wr (.slice a l.length ca) l) ∧ Hid (wr.heap[w.heap.size]? = some (.cells #[.int .i64 x.i, .int .i64 x.s, .int .i64 x.w, .int .i64 x.g, .int .i64 x.p] 25 (0, 0)))) (fun _ n _ _ _ => (intOf n).toNat)
  case atStart => exact ⟨m0, _, _, [], rfl, rfl, ⟨by simp, by omega⟩, by omega, Lib.hid (S1.out.more (by omega)), K1⟩
  case round =>
    obtain ⟨m, a, ca, l, rfl, rfl, hlm, hsz, S2, K2⟩ := hrel
    by_cases hm : 0 < m
    · have hmi : (0 : Int) < (m : Int) := by omega
      obtain ⟨y0, y1, y2, y3, y4⟩ := box5 K2.out
      have hgd : ∀ W : World, wr.grownBy W (some b) → w.heap.size < W.heap.size ∧ W.heap[w.heap.size]? = some (.cells #[.int .i64 x.i, .int .i64 x.s, .int .i64 x.w, .int .i64 x.g, .int .i64 x.p] 25 (0, 0)) := fun W hW => ⟨Nat.lt_of_lt_of_le hsz hW.size, keepD hW (by omega) K2.out⟩
      have hkp : ∀ W : World, wr.grownBy W (some b) → W.cell? ⟨w.heap.size, 0, none⟩ = some (.int .i64 x.i) ∧ W.cell? ⟨w.heap.size, 1, none⟩ = some (.int .i64 x.s) ∧ W.cell? ⟨w.heap.size, 2, none⟩ = some (.int .i64 x.w) ∧ W.cell? ⟨w.heap.size, 3, none⟩ = some (.int .i64 x.g) ∧ W.cell? ⟨w.heap.size, 4, none⟩ = some (.int .i64 x.p) := fun W hW => box5 (hgd W hW).2
      have g0 : wr.grownBy wr (some b) := ⟨rfl, rfl, rfl, Nat.le_refl _, fun _ _ _ => rfl⟩
      have gdw : ∀ W : World, wr.grownBy W (some b) → wr.grownBy W.drew (some b) := fun W hW => grown_trans hW ⟨rfl, rfl, rfl, Nat.le_refl _, fun _ _ _ => rfl⟩
      have HD := Lib.hid (fun W hW => damage_any B b (k + 2 + 20 * (8 - m)) x W hW (by omega) HXX.out)
      have HGd := Lib.hid hgd
      clear hgd
      go_wp2_with fail
      go_region_held3 (fun w' => w'.cell? ⟨w.heap.size, 0, none⟩ = some (.int .i64 x.i) ∧ w'.cell? ⟨w.heap.size, 1, none⟩ = some (.int .i64 x.s) ∧ w'.cell? ⟨w.heap.size, 2, none⟩ = some (.int .i64 x.w) ∧ w'.cell? ⟨w.heap.size, 3, none⟩ = some (.int .i64 x.g) ∧ w'.cell? ⟨w.heap.size, 4, none⟩ = some (.int .i64 x.p)) (first | with_reducible exact hkp _ g2 | with_reducible exact hkp _ g1 | with_reducible exact hkp _ g0 | with_reducible exact hkp _ (gdw _ g0))
        (first
        | (go_at_call 90; refine (HD.out _ (by first | exact S2.out.cur | exact S2.out.cur.drewD 1 | fail)).mono ?_; rintro e w2 ⟨d, rfl, hc1, hg1, hwf⟩; have g1 : wr.grownBy w2 (some b) := (by first | exact hg1 | exact grown_trans (gdw _ g0) hg1 | fail))
        | (go_at_call 89; refine (specAddDamage_c x (.slice a l.length ca) l d w2 w.heap.size (S2.out.call hc1 g1).own (by omega)).mono ?_; rintro e w3 ⟨v3, rfl, o3, bb3⟩; have g2 : wr.grownBy w3 (some b) := grown_trans g1 (grown_of_below bb3))
        | fail)
      have S3 := S2.out.call hc1 g1
      have hne3 : v3.ownBlock ≠ some b := fun e => by have h1 := (o3.lt b e).1; have h2 := hc1.2.1; omega
      have hlen3 := adR_len x l d
      obtain ⟨a3, ca3, rfl⟩ := (Rs.of_own o3).shape
      have S4 : Hid (StD B b (k + 2 + 20 * (8 - m) + 20) w w3 (.slice a3 (adR x l d).length ca3) (adR x l d)) := Lib.hid ⟨hc1.grown (grown_of_below0 bb3) (fun j hj => by cases hj), own_mono o3 (Nat.le_trans S2.out.size g1.size), grown_trans S2.out.gr g2, S2.out.lt⟩
      have hz3 : w.heap.size < w3.heap.size := (HGd.out w3 g2).1
      have K4 := Lib.hid (HGd.out w3 g2).2
      have q1 : IntKind.i64.wrap ((m : Int) - 1) = ((m - 1 : Nat) : Int) := by rw [show ((m : Int) - 1) = ((m - 1 : Nat) : Int) by omega]; exact IntWalk.i64_in _ (by omega)
      cases hok : adOk x l d with
      | true =>
        clear hok S3 y0 y1 y2 y3 y4 hkp g0 gdw hc1 hg1 g1 g2 bb3 o3 hne3
        go_wp2
        go_roundw
        case rel => exact ⟨m - 1, _, _, adR x l d, rfl, rfl, by omega, hz3, Lib.hid (S4.out.more (by omega)), K4⟩
        case measure => simp [intOf]; omega
      | false =>
        have S5 : Hid (StD B b (k + 2 + 20 * (8 - m) + 20) w w3 (.slice a l.length ca) l) := Lib.hid ⟨hc1.grown (grown_of_below0 bb3) (fun j hj => by cases hj), owns_below S3.own bb3, grown_trans S2.out.gr g2, S2.out.lt⟩
        clear S3 y0 y1 y2 y3 y4 hkp g0 gdw hc1 hg1 g1 g2 bb3 o3 hne3
        go_wp2
        go_roundw
        case rel => exact ⟨m - 1, _, _, l, rfl, rfl, by omega, hz3, Lib.hid (S5.out.more (by omega)), K4⟩
        case measure => simp [intOf]; omega
    · obtain rfl : m = 0 := by omega
      have hsk : k + 2 + 20 * (8 - 0) = k + 162 := by omega
      rw [hsk] at S2
      clear hsk
      go_wp2_with fail
      refine (pick_any B b (k + 162) 30 wr S2.out.cur (by omega) (by omega) (by omega)).mono ?_
      rintro e w6 ⟨r, rfl, hr, hc, hg⟩
      have S6 := Lib.hid (S2.out.call hc hg)
      have K6 := Lib.hid (keepD hg (by omega) K2.out)
      have hz6 := hg.size
      clear hc hg S2 K2
      by_cases e0 : r = 0
      · have t0 : ((r : Int) == 0) = true := by rw [beq_iff_eq]; omega
        obtain ⟨y0, y1, y2, y3, y4⟩ := box5 K6.out
        go_wp2_with fail
        refine (damage_any B b (k + 162 + 2) x w6 S6.out.cur (by omega) HXX.out).mono ?_
        rintro e w7 ⟨d, rfl, hc, hg, hwf⟩
        have S7 := Lib.hid (S6.out.call hc hg)
        clear hc hg S6 K6 y0 y1 y2 y3 y4
        have hown := (S7.out.alloc (.cells #[.int .i64 d.a, .int .i64 d.s, .int .i64 d.w] 34)).own
        have S8 := Lib.hid (S7.out.alloc (.cells #[.int .i64 d.a, .int .i64 d.s, .int .i64 d.w] 34))
        have hsz8 := S8.out.size
        clear S7
        go_wp2_with (at_builtin; refine wpList_append_own _ rfl _ _ 26 rfl w.heap.size 34 i0 (.agg #[.int .i64 0, .int .i64 0, .int .i64 0]) 3 24 Try.underlying26 hi hz0 hz1 hz2 rfl (by decide) _ _ _ rfl hown ⟨w7.heap.size, 0, none⟩ 1 1 [.int .i64 d.a, .int .i64 d.s, .int .i64 d.w] rfl rfl (World.news_of_block (cs := #[.int .i64 d.a, .int .i64 d.s, .int .i64 d.w]) (t := 34) (fr := (0, 0)) (heap_alloc_new w7 _)) (by simp [Value.oneCell']) (by unfold maxLen; omega) (by omega) hsz8 ?_; intro v' w8 hown' hgrow _)
        have S9 := St.app S8.out hown' hgrow
        go_ret
        refine DsPost.mk (kk := 200) (l := l ++ [d]) ?_ (by omega) (by simp; omega)
        have h9 := S9.more (k' := k + 200) (by omega)
        unfold StD
        rw [dmgs_append, dmgs_one, List.length_append]
        exact h9
      · have t0 : ((r : Int) == 0) = false := by rw [beq_eq_false_iff_ne]; omega
        by_cases e1 : r = 1
        · have t1 : ((r : Int) == 1) = true := by rw [beq_iff_eq]; omega
          have hb6 := S6.out.cur.2.1
          have S7 : Hid (StD B b (k + 164) w (w6.alloc (.cells #[] 34)) (.slice (some ⟨w6.heap.size, 0, none⟩) 0 0) []) := Lib.hid ⟨(S6.out.cur.alloc _), own_mono (World.ownsRow_made w6 (e := 34) (base := w6.heap.size) (size := 3) #[] 0 (Nat.le_refl _) (by decide) rfl) S6.out.size, grown_trans S6.out.gr (World.grownBy_alloc _ _ _), S6.out.lt⟩
          clear S6 K6
          go_wp2_with fail
          go_loopw [5, 9] (fun out n wr => ∃ (j : Nat) (a : Option Addr) (ca : Nat) (l : List Dmg), n = .int .i64 (j : Int) ∧ out = .slice a l.length ca ∧ l.length = j ∧ j ≤ 16 ∧ Hid (StD B b (k + 164 + 2 * j) w wr (.slice a l.length ca) l)) (fun _ n _ => 17 - (intOf n).toNat)
          case atStart => exact ⟨0, _, _, [], rfl, rfl, rfl, by omega, S7⟩
          case round =>
            obtain ⟨j, a2, ca2, l2, rfl, rfl, hlj, hj16, S8⟩ := hrel
            have hl16 : l2.length ≤ 16 := by omega
            have HLJ := Lib.hid hlj
            clear hlj
            go_wp2_with fail
            refine (pick_any B b (k + 164 + 2 * j) 2 wr S8.out.cur (by omega) (by omega) (by omega)).mono ?_
            rintro e w7 ⟨y, rfl, hy, hc, hg⟩
            have S9 := Lib.hid (S8.out.call hc hg)
            clear hc hg S8
            have q1 : IntKind.i64.wrap (15 + (y : Int)) = 15 + (y : Int) := IntWalk.i64_in _ (by omega)
            by_cases hlt : (j : Int) < 15 + (y : Int)
            · have q2 : IntKind.i64.wrap (20 * (j : Int)) = 20 * (j : Int) := IntWalk.i64_in _ (by omega)
              obtain ⟨p1, p2, p3⟩ := succ_in j (by omega)
              have hown := (S9.out.alloc (.cells #[.int .i64 (20 * (j : Int)), .int .i64 0, .int .i64 1] 34)).own
              have Sa := Lib.hid (S9.out.alloc (.cells #[.int .i64 (20 * (j : Int)), .int .i64 0, .int .i64 1] 34))
              have hsza := Sa.out.size
              clear S9
              go_wp2_with (at_builtin; refine wpList_append_own _ rfl _ _ 26 rfl w.heap.size 34 i0 (.agg #[.int .i64 0, .int .i64 0, .int .i64 0]) 3 24 Try.underlying26 hi hz0 hz1 hz2 rfl (by decide) _ _ _ rfl hown ⟨w7.heap.size, 0, none⟩ 1 1 [.int .i64 (20 * (j : Int)), .int .i64 0, .int .i64 1] rfl rfl (World.news_of_block (cs := #[.int .i64 (20 * (j : Int)), .int .i64 0, .int .i64 1]) (t := 34) (fr := (0, 0)) (heap_alloc_new w7 _)) (by simp [Value.oneCell']) (by unfold maxLen; omega) (by omega) hsza ?_; intro v' w8 hown' hgrow _)
              have Sb := Lib.hid (St.app Sa.out hown' hgrow)
              clear Sa hown' hgrow hown
              obtain ⟨a3, ca3, rfl⟩ : ∃ (a3 : Option Addr) (ca3 : Nat), v' = .slice a3 (l2 ++ [(⟨20 * (j : Int), 0, 1⟩ : Dmg)]).length ca3 := by
                obtain ⟨a3, ca3, hv'⟩ := (Rs.of_own Sb.out.own).shape
                exact ⟨a3, ca3, by rw [hv', List.length_append]; rfl⟩
              have Sc : Hid (StD B b (k + 164 + 2 * (j + 1)) w w8 (.slice a3 (l2 ++ [(⟨20 * (j : Int), 0, 1⟩ : Dmg)]).length ca3) (l2 ++ [(⟨20 * (j : Int), 0, 1⟩ : Dmg)])) := Lib.hid (by
                have h9 := Sb.out.more (k' := k + 164 + 2 * (j + 1)) (by omega)
                unfold StD
                rw [dmgs_append, dmgs_one]
                rw [List.length_append] at h9 ⊢
                exact h9)
              have hgl : (l2 ++ [(⟨20 * (j : Int), 0, 1⟩ : Dmg)]).length = j + 1 := by rw [List.length_append, HLJ.out]; rfl
              clear Sb
              generalize l2 ++ [(⟨20 * (j : Int), 0, 1⟩ : Dmg)] = l3 at *
              have HGL := Lib.hid hgl
              clear hgl
              go_wp2
              go_roundw
              case rel => exact ⟨j + 1, a3, ca3, l3, by go_num, rfl, HGL.out, by omega, Sc⟩
              case measure => simp [intOf]; omega
            · go_wp2
              go_ret
              exact DsPost.mk (kk := 400) (S9.out.more (by omega)) (by omega) (by omega)
        · have t1 : ((r : Int) == 1) = false := by rw [beq_eq_false_iff_ne]; omega
          go_wp2
          go_ret
          exact DsPost.mk (kk := 164) S6.out (by omega) (by omega)
end Go.Proofs.Ytiogjocbiagipab
