/- The drawn drive and the drawn speed. Condition: sizes. -/
import Derived.Test.YthmoogkllpcebaaDoorDrawKit
import Derived.Test.YthmoogkllpcebaaDoorBrkM
import Derived.Test.YthmoogkllpcebaaDoorBlk3
import Derived.Test.YthmoogkllpcebaaDoorAppAny
import Derived.Deep.RegionHeld3
import Derived.Deep.RegionLaw
import Derived.Deep.AppendLies
import Derived.WalkArith
namespace Go.Proofs.YthmoogkllpcebaaDoor
open Go.RowKit
set_option linter.unusedVariables false
theorem Cur.drew1 {B b k : Nat} {w : World} (h : Cur B b k w) : Cur B b k w.drew := h.grown (row := none) ⟨rfl, rfl, rfl, Nat.le_refl _, fun _ _ _ => rfl⟩ (fun j hj => by cases hj)
theorem gr_al {w W : World} {row : Option Nat} (h : w.grownBy W row) (o : Obj) : w.grownBy (W.alloc o) row := grown_trans h (World.grownBy_alloc W o row)
theorem gr_drew {w W : World} {row : Option Nat} (h : w.grownBy W row) : w.grownBy W.drew row := grown_trans h ⟨rfl, rfl, rfl, Nat.le_refl _, fun _ _ _ => rfl⟩
theorem lit_cells {W : World} {t : TypeId} {l : List Int} {cs : Array Value} {g : Nat} (hcs : cs = (l.map (Value.int .i64)).toArray) (h : W.heap[g]? = some (.cells cs t (0, 0))) :
    ∀ (i : Nat) (hi : i < l.length), W.cell? ⟨g, i, none⟩ = some (.int .i64 l[i]) := by
  intro i hi
  subst hcs
  simp [World.cell?, h, hi]
theorem nalD {W : World} {o : Obj} {g : Nat} (hg : g = W.heap.size) : (W.alloc o).heap[g]? = some o := by subst hg; exact heap_alloc_new W o
theorem odrewD1 {W : World} {o : Obj} {g : Nat} (h : W.heap[g]? = some o) : W.drew.heap[g]? = some o := h
/-- What drawing a drive leaves. -/
def DrvPost (B b k : Nat) (w : World) (e : Ending) (w' : World) : Prop := ∃ (M P : Int) (v : Value) (l : List Brk), e = .returned (.agg #[.int .i64 M, .int .i64 P, v]) ∧ l.length ≤ 9 ∧ w'.ownsRow w.heap.size 35 2 v l.length (brks l) ∧ Cur B b (k + 60) w' ∧ Below B w w'
set_option maxRecDepth 100000 in
set_option maxHeartbeats 8000000 in
theorem drive_any (B b k : Nat) (w : World) (h : Cur B b k w) (hk : k ≤ 700000000) :
    Calls Tryd.prog 47 #[.pointer (some ⟨b, 0, none⟩)] w (DrvPost B b k w) := by
  obtain ⟨i0, hi, hz0, hz1, hz2⟩ := info_parts Tryd.infoBrk
  have hBb := h.1
  have hbw := h.2.1
  have HH := Lib.hid h
  clear h
  go_enter Tryd.func47, Tryd.ntmps47
  go_wp2_with fail
  refine (among_any B b k (w.heap.size + 1) 6 6 [1, 100, 1000, 5000, 20000, 100000] _ ((HH.out.alloc _).alloc _) (by omega) rfl (by omega) (by omega) (by omega) (num_cells1 _ 3 [1, 100, 1000, 5000, 20000, 100000] _ rfl _ (aszD _ _))).mono ?_
  rintro e w1 ⟨M, hx, rfl, hc, hg⟩
  have R1 := Lib.hid (keepD hg (show w.heap.size ≠ b by omega) (blk_stay (o' := .cells #[.int .i64 1, .int .i64 100, .int .i64 1000, .int .i64 5000, .int .i64 20000, .int .i64 100000] 3) (blk_new3 w (.int .i64 0) (.int .i64 0) (.slice none 0 0) 26)))
  have T1 := Lib.hid (Below.trans (((Below.refl B w).alloc (by omega) (.cells #[.int .i64 0, .int .i64 0, .slice none 0 0] 26)).alloc (by simp; omega) (.cells #[.int .i64 1, .int .i64 100, .int .i64 1000, .int .i64 5000, .int .i64 20000, .int .i64 100000] 3)) (grown_below hg (by simp; omega) (fun k hk => by cases hk; exact hBb)))
  have C1 := Lib.hid hc
  have hz1' := hg.size
  simp at hz1'
  clear hc hg hx
  go_wp2_with fail
  refine (among_any B b (k + 2) w1.heap.size 8 8 [0, 0, 100, -100, 1000, 5000, -5000, 300] _ (C1.out.alloc _) (by omega) rfl (by omega) (by omega) (by omega) (num_cells w1 3 [0, 0, 100, -100, 1000, 5000, -5000, 300] _ rfl)).mono ?_
  rintro e w2 ⟨P, hx, rfl, hc, hg⟩
  have R2 := Lib.hid (keepD hg (show w.heap.size ≠ b by omega) (blk_stay (o' := .cells #[.int .i64 0, .int .i64 0, .int .i64 100, .int .i64 (-100), .int .i64 1000, .int .i64 5000, .int .i64 (-5000), .int .i64 300] 3) R1.out))
  have T2 := Lib.hid (Below.trans (T1.out.alloc (by omega) (.cells #[.int .i64 0, .int .i64 0, .int .i64 100, .int .i64 (-100), .int .i64 1000, .int .i64 5000, .int .i64 (-5000), .int .i64 300] 3)) (grown_below hg (by simp; omega) (fun k hk => by cases hk; exact hBb)))
  have C2 := Lib.hid hc
  have hz2' := hg.size
  simp at hz2'
  clear hc hg hx R1 T1 C1
  have hw2 : w.heap.size + 3 ≤ w2.heap.size := by omega
  have hk8 := blk_new3 (w2.alloc (.cells #[] 35)) (.int .i64 M) (.int .i64 P) (.slice (some ⟨w2.heap.size, 0, none⟩) 0 0) 26
  simp only [World.size_alloc] at hk8
  have HK3 := Lib.hid hk8
  have HO3 := Lib.hid ((World.ownsRow_made w2 #[] 0 (base := w.heap.size + 1) (e := 35) (size := 2) (by omega) (by decide) rfl).alloc (.cells #[.int .i64 M, .int .i64 P, .slice (some ⟨w2.heap.size, 0, none⟩) 0 0] 26))
  have T3 := Lib.hid ((T2.out.alloc (by omega) (.cells #[] 35)).alloc (by simp; omega) (.cells #[.int .i64 M, .int .i64 P, .slice (some ⟨w2.heap.size, 0, none⟩) 0 0] 26))
  have R3 := Lib.hid (blk_stay (o' := .cells #[.int .i64 M, .int .i64 P, .slice (some ⟨w2.heap.size, 0, none⟩) 0 0] 26) (blk_stay (o' := .cells #[] 35) R2.out))
  have C3 := Lib.hid ((C2.out.alloc (.cells #[] 35)).alloc (.cells #[.int .i64 M, .int .i64 P, .slice (some ⟨w2.heap.size, 0, none⟩) 0 0] 26))
  clear hk8 T2 R2 C2
  go_wp2_with fail
  refine (pick_any B b _ 5 _ C3.out (by omega) (by omega) (by omega)).mono ?_
  rintro e w5 ⟨m0, rfl, hm0, hc, hg⟩
  have R5 := Lib.hid (keepD hg (show w.heap.size ≠ b by omega) R3.out)
  have K5 := Lib.hid (keepD hg (show w2.heap.size + 1 ≠ b by omega) HK3.out)
  have O5 := Lib.hid (HO3.out.kept hg (.inr (fun e => by have := (HO3.out.lt _ e).1; omega)))
  have T5 := Lib.hid (Below.trans T3.out (grown_below hg (by simp; omega) (fun k hk => by cases hk; exact hBb)))
  have C5 := Lib.hid hc
  have hz5 := hg.size
  simp at hz5
  clear hc hg R3 HK3 HO3 T3 C3
  go_wp2
  go_loopw [4] (fun n wr => ∃ (m : Nat) (l : List Brk) (o : Value), n = .int .i64 (m : Int) ∧ m ≤ 4 ∧ l.length + m ≤ 4 ∧ wr.ownsRow (w.heap.size + 1) 35 2 o l.length (brks l) ∧ Hid (o.ownBlock ≠ some (w2.heap.size + 1)) ∧ Hid (Cur B b (k + 6 + 4 * (4 - m)) wr ∧ Below B w wr) ∧ Hid (wr.heap[w.heap.size]? = some (.cells #[.int .i64 0, .int .i64 0, .slice none 0 0] 26 (0, 0))) ∧ Hid (wr.heap[w2.heap.size + 1]? = some (.cells #[.int .i64 M, .int .i64 P, o] 26 (0, 0)))) (fun n _ => (intOf n).toNat)
  case atStart => exact ⟨m0, [], _, rfl, by omega, by simp; omega, O5.out, Lib.hid (by simp [Value.ownBlock]), Lib.hid ⟨C5.out.mono (by omega), T5.out⟩, R5, K5⟩
  case round =>
    obtain ⟨m, l, o, rfl, hm4, hlm, hown, hne, HS, KR, K8⟩ := hrel
    obtain ⟨oa, oc, rfl⟩ := (Rs.of_own hown).shape
    have HOW := Lib.hid hown
    clear hown
    have hl8 := blk_lt K8.out
    have hlR := blk_lt KR.out
    by_cases hm : 0 < m
    · have hmi : (0 : Int) < (m : Int) := by omega
      have p2 : IntKind.i64.wrap ((m : Int) - 1) = ((m - 1 : Nat) : Int) := by rw [show (m : Int) - 1 = ((m - 1 : Nat) : Int) by omega]; exact IntWalk.i64_in _ (by omega)
      have F1 : Hid (∀ W g, Cur B b (k + 6 + 4 * (4 - m)) W → g ≠ b → W.heap[g]? = some (.cells #[.int .i64 0, .int .i64 100, .int .i64 500, .int .i64 2000, .int .i64 8000, .int .i64 30000, .int .i64 100000] 3 (0, 0)) → Calls Tryd.prog 49 #[.pointer (some ⟨b, 0, none⟩), .slice (some ⟨g, 0, none⟩) 7 7] W (AmPost B b (k + 6 + 4 * (4 - m)) [0, 100, 500, 2000, 8000, 30000, 100000] W)) := Lib.hid (fun W g hW hg hc => among_any B b (k + 6 + 4 * (4 - m)) g 7 7 [0, 100, 500, 2000, 8000, 30000, 100000] W hW (by omega) rfl (by omega) (by omega) hg (lit_cells (cs := #[.int .i64 0, .int .i64 100, .int .i64 500, .int .i64 2000, .int .i64 8000, .int .i64 30000, .int .i64 100000]) rfl hc))
      have F2 : Hid (∀ W g, Cur B b (k + 6 + 4 * (4 - m) + 2) W → g ≠ b → W.heap[g]? = some (.cells #[.int .i64 0, .int .i64 0, .int .i64 1, .int .i64 2, .int .i64 5, .int .i64 10] 3 (0, 0)) → Calls Tryd.prog 49 #[.pointer (some ⟨b, 0, none⟩), .slice (some ⟨g, 0, none⟩) 6 6] W (AmPost B b (k + 6 + 4 * (4 - m) + 2) [0, 0, 1, 2, 5, 10] W)) := Lib.hid (fun W g hW hg hc => among_any B b (k + 6 + 4 * (4 - m) + 2) g 6 6 [0, 0, 1, 2, 5, 10] W hW (by omega) rfl (by omega) (by omega) hg (lit_cells (cs := #[.int .i64 0, .int .i64 0, .int .i64 1, .int .i64 2, .int .i64 5, .int .i64 10]) rfl hc))
      obtain ⟨k0, k1, k2⟩ := blk_cell3 K8.out
      obtain ⟨ka0, ka1, ka2⟩ := blk_cell3 (blk_stay (o' := .cells #[.int .i64 0, .int .i64 100, .int .i64 500, .int .i64 2000, .int .i64 8000, .int .i64 30000, .int .i64 100000] 3) K8.out)
      obtain ⟨kb0, kb1, kb2⟩ := blk_cell3 (blk_stay (o' := .cells #[.int .i64 0, .int .i64 0, .int .i64 1, .int .i64 2, .int .i64 5, .int .i64 10] 3) K8.out)
      obtain ⟨kd0, kd1, kd2⟩ := blk_cell3 (blk_stay (o' := .cells #[.int .i64 0, .int .i64 0, .int .i64 1, .int .i64 2, .int .i64 5, .int .i64 10] 3) (blk_stay (o' := .cells #[.int .i64 0, .int .i64 100, .int .i64 500, .int .i64 2000, .int .i64 8000, .int .i64 30000, .int .i64 100000] 3) K8.out))
      obtain ⟨ke0, ke1, ke2⟩ := blk_cell3 (blk_stay (o' := .cells #[.int .i64 0, .int .i64 100, .int .i64 500, .int .i64 2000, .int .i64 8000, .int .i64 30000, .int .i64 100000] 3) (blk_stay (o' := .cells #[.int .i64 0, .int .i64 0, .int .i64 1, .int .i64 2, .int .i64 5, .int .i64 10] 3) K8.out))
      have hbb : b < wr.heap.size := by omega
      have CW := HS.out.1
      go_wp2_with fail
      go_region_law (first
        | (refine step_append_lies _ (by rfl) _ _ _ (by rfl) (w.heap.size + 1) 35 i0 (.agg #[.int .i64 0, .int .i64 0]) 2 16 Tryd.underlying24 hi hz0 hz1 hz2 rfl (by omega) (.slice oa l.length oc) l.length (brks l) (by rfl) (O7.alloc _) ⟨W7.heap.size, 0, none⟩ 1 1 [.int .i64 x, .int .i64 y] (by rfl) (by rfl) (World.news_of_block (cs := #[.int .i64 x, .int .i64 y]) (t := 35) (fr := (0, 0)) (heap_alloc_new W7 _)) (by simp [Value.oneCell']) (by omega) (by unfold maxLen; omega) (by omega) (by simp; omega) (W7.heap.size + 1) (by simp) ?_; intro gg cap w8 hown' hgrow hat hlt8; have KG := (hgrow.block (w2.heap.size + 1) (by simp; omega) (fun e => hne.out e.symm)).trans (blk_stay (o' := .cells #[.int .i64 x, .int .i64 y] 35) K7); obtain ⟨g0, g1, g2⟩ := blk_cell3 KG; obtain ⟨f0, f1, f2⟩ := blk_froz3 KG)
        | (go_simp; go_at_call 49; (with_reducible (show Calls _ _ #[_, Value.slice _ 6 _] _ _)); refine (F2.out _ _ (by (repeat (first | with_reducible exact hc1 | with_reducible refine Cur.alloc ?_ _ | with_reducible refine Cur.drew1 ?_)); first | done | fail) (by first | omega | (simp; omega)) (by (repeat (first | with_reducible exact nalD (by first | (simp; done) | omega | fail) | with_reducible refine old_allocD ?_ | with_reducible refine odrewD1 ?_ | with_reducible refine keepD hg1 (by first | omega | (simp; omega)) ?_)); first | done | fail)).mono ?_; rintro e W7 ⟨y, hy, rfl, hc2, hg2⟩; have G7 : wr.grownBy W7 (some b) := grown_trans (by (repeat (first | exact World.grownBy.refl _ _ | exact G1 | refine gr_drew ?_ | refine gr_al ?_ _)); first | done | fail) hg2; have hz8 := G7.size; have K7 : W7.heap[w2.heap.size + 1]? = some (.cells #[.int .i64 M, .int .i64 P, .slice oa l.length oc] 26 (0, 0)) := keepD G7 (show w2.heap.size + 1 ≠ b by omega) K8.out; have R7 : W7.heap[w.heap.size]? = some (.cells #[.int .i64 0, .int .i64 0, .slice none 0 0] 26 (0, 0)) := keepD G7 (show w.heap.size ≠ b by omega) KR.out; have O7 : W7.ownsRow (w.heap.size + 1) 35 2 (.slice oa l.length oc) l.length (brks l) := World.ownsRow.kept HOW.out G7 (.inr (fun e => by have := (HOW.out.lt _ e).1; omega)); have T7 : Below B w W7 := Below.trans HS.out.2 (grown_below G7 (by omega) (fun k hk => by cases hk; exact hBb)); obtain ⟨d0, d1, d2⟩ := blk_cell3 K7; obtain ⟨e0, e1, e2⟩ := blk_cell3 (blk_stay (o' := .cells #[.int .i64 x, .int .i64 y] 35) K7))
        | (go_simp; go_at_call 49; (with_reducible (show Calls _ _ #[_, Value.slice _ 7 _] _ _)); refine (F1.out _ _ (by (repeat (first | with_reducible exact CW | with_reducible refine Cur.alloc ?_ _ | with_reducible refine Cur.drew1 ?_)); first | done | fail) (by first | omega | (simp; omega)) (by (repeat (first | with_reducible exact nalD (by first | (simp; done) | omega | fail) | with_reducible refine old_allocD ?_ | with_reducible refine odrewD1 ?_)); first | done | fail)).mono ?_; rintro e W1 ⟨x, hx, rfl, hc1, hg1⟩; have G1 : wr.grownBy W1 (some b) := grown_trans (by (repeat (first | exact World.grownBy.refl _ _ | refine gr_drew ?_ | refine gr_al ?_ _)); first | done | fail) hg1; have hz1' := G1.size; have K1' : W1.heap[w2.heap.size + 1]? = some (.cells #[.int .i64 M, .int .i64 P, .slice oa l.length oc] 26 (0, 0)) := keepD G1 (show w2.heap.size + 1 ≠ b by omega) K8.out; obtain ⟨p0, p1, p2⟩ := blk_cell3 K1'; obtain ⟨q0, q1, q2⟩ := blk_cell3 (blk_stay (o' := .cells #[.int .i64 0, .int .i64 0, .int .i64 1, .int .i64 2, .int .i64 5, .int .i64 10] 3) K1'))
        | fail)
      all_goals (
        have hgn : gg ≠ w2.heap.size + 1 := by
          rcases hat with h | h
          · intro e; exact hne.out (by rw [h, e])
          · omega
        have hlw := hgrow.size
        simp at hlw
        have hgr : (W7.alloc (.cells #[.int .i64 x, .int .i64 y] 35)).grownBy w8 (Value.slice oa l.length oc).ownBlock := hgrow
        have hlo := fun j hj => (O7.lt j hj).1
        have KP : Hid ((w8.setCell ⟨w2.heap.size + 1, 2, none⟩ (.slice (some ⟨gg, 0, none⟩) (l.length + 1) cap)).heap[w2.heap.size + 1]? = some (.cells #[.int .i64 M, .int .i64 P, .slice (some ⟨gg, 0, none⟩) (l.length + 1) cap] 26 (0, 0))) := Lib.hid (by simpa using blk_put (i := 2) (v := .slice (some ⟨gg, 0, none⟩) (l.length + 1) cap) KG)
        have RP : Hid ((w8.setCell ⟨w2.heap.size + 1, 2, none⟩ (.slice (some ⟨gg, 0, none⟩) (l.length + 1) cap)).heap[w.heap.size]? = some (.cells #[.int .i64 0, .int .i64 0, .slice none 0 0] 26 (0, 0))) := Lib.hid ((blk_by (by omega)).trans ((hgrow.block w.heap.size (by simp; omega) (fun e => by have := hlo _ e.symm; omega)).trans (blk_stay R7)))
        have CP := Lib.hid (Cur.grown ((hc2.alloc _).grown hgr (fun j hj => by have := hlo j hj; omega)) (grown_put w8 ⟨w2.heap.size + 1, 2, none⟩ (.slice (some ⟨gg, 0, none⟩) (l.length + 1) cap)) (fun j hj => by cases hj; first | omega | (show b < w2.heap.size + 1; omega) | (show b < w.heap.size; omega)))
        have TP := Lib.hid (((T7.alloc (by omega) _).grown hgr (by simp; omega) (fun j hj => by have := hlo j hj; omega)).setCell (p := ⟨w2.heap.size + 1, 2, none⟩) (by show B ≤ w2.heap.size + 1; omega) (.slice (some ⟨gg, 0, none⟩) (l.length + 1) cap))
        have hon : w8.ownsRow (w.heap.size + 1) 35 2 (.slice (some ⟨gg, 0, none⟩) (l ++ [(⟨x, y⟩ : Brk)]).length cap) (l ++ [(⟨x, y⟩ : Brk)]).length (brks (l ++ [(⟨x, y⟩ : Brk)])) := by
          rw [show (l ++ [(⟨x, y⟩ : Brk)]).length = l.length + 1 by simp, brks_append, brks_one]; exact hown'
        have OP := Lib.hid (own_by hon (grown_put w8 ⟨w2.heap.size + 1, 2, none⟩ (.slice (some ⟨gg, 0, none⟩) (l.length + 1) cap)) (fun h => by simp [Value.ownBlock] at h; omega))
        have hl1 : (l ++ [(⟨x, y⟩ : Brk)]).length = l.length + 1 := by simp
        rw [hl1] at OP
        have HGN : Hid ((Value.slice (some ⟨gg, 0, none⟩) (l.length + 1) cap).ownBlock ≠ some (w2.heap.size + 1)) := Lib.hid (fun h => by simp [Value.ownBlock] at h; omega)
        clear hown' hgrow hgr hon KG g0 g1 g2 f0 f1 f2 K7 R7 O7 T7 hc2 hg2 hy hx hc1 hg1 d0 d1 d2 e0 e1 e2 p0 p1 p2 q0 q1 q2 K1' k0 k1 k2 ka0 ka1 ka2 kb0 kb1 kb2 kd0 kd1 kd2 ke0 ke1 ke2 F1 F2 CW G1 G7 hat
        go_wp2
        go_roundw
        case rel => exact ⟨m - 1, l ++ [(⟨x, y⟩ : Brk)], _, by go_num, by omega, by rw [hl1]; omega, by rw [hl1]; exact OP.out, HGN, Lib.hid ⟨CP.out.mono (by omega), TP.out⟩, RP, KP⟩
        case measure => simp [intOf]; omega)
    · obtain rfl : m = 0 := by omega
      go_wp2_with fail
      refine (pick_any B b _ 32 wr HS.out.1 (by omega) (by omega) (by omega)).mono ?_
      rintro e w6 ⟨r, rfl, hr, hc, hg⟩
      have T6 := Lib.hid (Below.trans HS.out.2 (grown_below hg (by omega) (fun k hk => by cases hk; exact hBb)))
      have C6 := Lib.hid (hc.mono (show _ ≤ k + 24 by omega))
      have R6 := Lib.hid (keepD hg (show w.heap.size ≠ b by omega) KR.out)
      have K6 := Lib.hid (keepD hg (show w2.heap.size + 1 ≠ b by omega) K8.out)
      have O6 := Lib.hid (HOW.out.kept hg (.inr (fun e => by have := (HOW.out.lt _ e).1; omega)))
      have hz6 := hg.size
      clear hc hg HS KR K8 HOW
      by_cases r0 : r = 0
      · have t3 : ((r : Int) == 0) = true := by rw [beq_iff_eq]; omega
        go_wp2_with fail
        refine (among_any B b _ w6.heap.size 2 2 [0, 100001] _ (C6.out.alloc _) (by omega) rfl (by omega) (by omega) (by omega) (num_cells w6 3 [0, 100001] _ rfl)).mono ?_
        rintro e w7 ⟨x, hx, rfl, hc, hg⟩
        have hz7 := hg.size
        simp at hz7
        have T7 := Lib.hid (Below.trans (T6.out.alloc (by omega) (.cells #[.int .i64 0, .int .i64 100001] 3)) (grown_below hg (by simp; omega) (fun k hk => by cases hk; exact hBb)))
        have C7 := Lib.hid hc
        have R7 := Lib.hid (keepD hg (show w.heap.size ≠ b by omega) (blk_stay (o' := .cells #[.int .i64 0, .int .i64 100001] 3) R6.out))
        have K7 := Lib.hid (keepD hg (show w2.heap.size + 1 ≠ b by omega) (blk_stay (o' := .cells #[.int .i64 0, .int .i64 100001] 3) K6.out))
        have O7 := Lib.hid ((O6.out.alloc (.cells #[.int .i64 0, .int .i64 100001] 3)).kept hg (.inr (fun e => by have := (O6.out.lt _ e).1; omega)))
        obtain ⟨k0, k1, k2⟩ := blk_cell3 K7.out
        obtain ⟨f0, f1, f2⟩ := blk_froz3 K7.out
        have KP : Hid ((w7.setCell ⟨w2.heap.size + 1, 0, none⟩ (.int .i64 x)).heap[w2.heap.size + 1]? = some (.cells #[.int .i64 x, .int .i64 P, .slice oa l.length oc] 26 (0, 0))) := Lib.hid (by simpa using blk_put (i := 0) (v := .int .i64 x) K7.out)
        have RP : Hid ((w7.setCell ⟨w2.heap.size + 1, 0, none⟩ (.int .i64 x)).heap[w.heap.size]? = some (.cells #[.int .i64 0, .int .i64 0, .slice none 0 0] 26 (0, 0))) := Lib.hid ((blk_by (by omega)).trans R7.out)
        have CP := Lib.hid (Cur.grown C7.out (grown_put w7 ⟨w2.heap.size + 1, 0, none⟩ (.int .i64 x)) (fun j hj => by cases hj; first | omega | (show b < w2.heap.size + 1; omega) | (show b < w.heap.size; omega)))
        have TP := Lib.hid (T7.out.setCell (p := ⟨w2.heap.size + 1, 0, none⟩) (by show B ≤ w2.heap.size + 1; omega) (.int .i64 x))
        have OP := Lib.hid (own_by O7.out (grown_put w7 ⟨w2.heap.size + 1, 0, none⟩ (.int .i64 x)) (fun h => hne.out h))
        clear hc hg hx
        have KQ := KP.out
        obtain ⟨q0, q1, q2⟩ := blk_cell3 KQ
        have KZ := RP.out
        obtain ⟨r0, r1, r2⟩ := blk_cell3 KZ
        obtain ⟨s0, s1, s2⟩ := blk_froz3 KZ
        have Z := blk_all3 (x := .int .i64 x) (y := .int .i64 P) (z := .slice oa l.length oc) KZ
        obtain ⟨z0, z1, z2⟩ := blk_cell3 Z
        have Z0 := Lib.hid z0
        have Z1 := Lib.hid z1
        have Z2 := Lib.hid z2
        have HTF := Lib.hid (below_all3 TP.out (b := w.heap.size) (by omega) (.int .i64 x) (.int .i64 P) (.slice oa l.length oc))
        have HCF := Lib.hid (Cur.grown CP.out (grown_all3 _ w.heap.size (.int .i64 x) (.int .i64 P) (.slice oa l.length oc)) (fun j hj => by cases hj; first | omega | (show b < w2.heap.size + 1; omega) | (show b < w.heap.size; omega)))
        have HOF := Lib.hid (own_mono (own_by OP.out (grown_all3 _ w.heap.size (.int .i64 x) (.int .i64 P) (.slice oa l.length oc)) (fun h => by have := (OP.out.lt _ h).1; omega)) (show w.heap.size ≤ w.heap.size + 1 by omega))
        clear Z z0 z1 z2 KZ KQ
        go_wp2
        refine bodyPost_ret (v := .agg #[.int .i64 x, .int .i64 P, .slice oa l.length oc]) (by simp [results, Tryd.results47, go_sem, Z0.out, Z1.out, Z2.out]) rfl ⟨_, _, _, l, rfl, (by omega), HOF.out, HCF.out.mono (by omega), HTF.out⟩
      · by_cases r1 : r = 1
        · have t3 : ((r : Int) == 0) = false := by rw [beq_eq_false_iff_ne]; omega
          have t4 : ((r : Int) == 1) = true := by rw [beq_iff_eq]; omega
          go_wp2_with fail
          refine (among_any B b _ w6.heap.size 3 3 [-100001, 100001, 100000] _ (C6.out.alloc _) (by omega) rfl (by omega) (by omega) (by omega) (num_cells w6 3 [-100001, 100001, 100000] _ rfl)).mono ?_
          rintro e w7 ⟨x, hx, rfl, hc, hg⟩
          have hz7 := hg.size
          simp at hz7
          have T7 := Lib.hid (Below.trans (T6.out.alloc (by omega) (.cells #[.int .i64 (-100001), .int .i64 100001, .int .i64 100000] 3)) (grown_below hg (by simp; omega) (fun k hk => by cases hk; exact hBb)))
          have C7 := Lib.hid hc
          have R7 := Lib.hid (keepD hg (show w.heap.size ≠ b by omega) (blk_stay (o' := .cells #[.int .i64 (-100001), .int .i64 100001, .int .i64 100000] 3) R6.out))
          have K7 := Lib.hid (keepD hg (show w2.heap.size + 1 ≠ b by omega) (blk_stay (o' := .cells #[.int .i64 (-100001), .int .i64 100001, .int .i64 100000] 3) K6.out))
          have O7 := Lib.hid ((O6.out.alloc (.cells #[.int .i64 (-100001), .int .i64 100001, .int .i64 100000] 3)).kept hg (.inr (fun e => by have := (O6.out.lt _ e).1; omega)))
          obtain ⟨k0, k1, k2⟩ := blk_cell3 K7.out
          obtain ⟨f0, f1, f2⟩ := blk_froz3 K7.out
          have KP : Hid ((w7.setCell ⟨w2.heap.size + 1, 1, none⟩ (.int .i64 x)).heap[w2.heap.size + 1]? = some (.cells #[.int .i64 M, .int .i64 x, .slice oa l.length oc] 26 (0, 0))) := Lib.hid (by simpa using blk_put (i := 1) (v := .int .i64 x) K7.out)
          have RP : Hid ((w7.setCell ⟨w2.heap.size + 1, 1, none⟩ (.int .i64 x)).heap[w.heap.size]? = some (.cells #[.int .i64 0, .int .i64 0, .slice none 0 0] 26 (0, 0))) := Lib.hid ((blk_by (by omega)).trans R7.out)
          have CP := Lib.hid (Cur.grown C7.out (grown_put w7 ⟨w2.heap.size + 1, 1, none⟩ (.int .i64 x)) (fun j hj => by cases hj; first | omega | (show b < w2.heap.size + 1; omega) | (show b < w.heap.size; omega)))
          have TP := Lib.hid (T7.out.setCell (p := ⟨w2.heap.size + 1, 1, none⟩) (by show B ≤ w2.heap.size + 1; omega) (.int .i64 x))
          have OP := Lib.hid (own_by O7.out (grown_put w7 ⟨w2.heap.size + 1, 1, none⟩ (.int .i64 x)) (fun h => hne.out h))
          clear hc hg hx
          have KQ := KP.out
          obtain ⟨q0, q1, q2⟩ := blk_cell3 KQ
          have KZ := RP.out
          obtain ⟨r0, r1, r2⟩ := blk_cell3 KZ
          obtain ⟨s0, s1, s2⟩ := blk_froz3 KZ
          have Z := blk_all3 (x := .int .i64 M) (y := .int .i64 x) (z := .slice oa l.length oc) KZ
          obtain ⟨z0, z1, z2⟩ := blk_cell3 Z
          have Z0 := Lib.hid z0
          have Z1 := Lib.hid z1
          have Z2 := Lib.hid z2
          have HTF := Lib.hid (below_all3 TP.out (b := w.heap.size) (by omega) (.int .i64 M) (.int .i64 x) (.slice oa l.length oc))
          have HCF := Lib.hid (Cur.grown CP.out (grown_all3 _ w.heap.size (.int .i64 M) (.int .i64 x) (.slice oa l.length oc)) (fun j hj => by cases hj; first | omega | (show b < w2.heap.size + 1; omega) | (show b < w.heap.size; omega)))
          have HOF := Lib.hid (own_mono (own_by OP.out (grown_all3 _ w.heap.size (.int .i64 M) (.int .i64 x) (.slice oa l.length oc)) (fun h => by have := (OP.out.lt _ h).1; omega)) (show w.heap.size ≤ w.heap.size + 1 by omega))
          clear Z z0 z1 z2 KZ KQ
          go_wp2
          refine bodyPost_ret (v := .agg #[.int .i64 M, .int .i64 x, .slice oa l.length oc]) (by simp [results, Tryd.results47, go_sem, Z0.out, Z1.out, Z2.out]) rfl ⟨_, _, _, l, rfl, (by omega), HOF.out, HCF.out.mono (by omega), HTF.out⟩
        · by_cases r2 : r = 2
          · have t3 : ((r : Int) == 0) = false := by rw [beq_eq_false_iff_ne]; omega
            have t4 : ((r : Int) == 1) = false := by rw [beq_eq_false_iff_ne]; omega
            have t5 : ((r : Int) == 2) = true := by rw [beq_iff_eq]; omega
            have F1 : Hid (∀ W g, Cur B b (k + 24) W → g ≠ b → W.heap[g]? = some (.cells #[.int .i64 (-1), .int .i64 100001] 3 (0, 0)) → Calls Tryd.prog 49 #[.pointer (some ⟨b, 0, none⟩), .slice (some ⟨g, 0, none⟩) 2 2] W (AmPost B b (k + 24) [-1, 100001] W)) := Lib.hid (fun W g hW hg hc => among_any B b (k + 24) g 2 2 [-1, 100001] W hW (by omega) rfl (by omega) (by omega) hg (lit_cells (cs := #[.int .i64 (-1), .int .i64 100001]) rfl hc))
            have F2 : Hid (∀ W g, Cur B b (k + 24 + 2) W → g ≠ b → W.heap[g]? = some (.cells #[.int .i64 0, .int .i64 11] 3 (0, 0)) → Calls Tryd.prog 49 #[.pointer (some ⟨b, 0, none⟩), .slice (some ⟨g, 0, none⟩) 2 2] W (AmPost B b (k + 24 + 2) [0, 11] W)) := Lib.hid (fun W g hW hg hc => among_any B b (k + 24 + 2) g 2 2 [0, 11] W hW (by omega) rfl (by omega) (by omega) hg (lit_cells (cs := #[.int .i64 0, .int .i64 11]) rfl hc))
            obtain ⟨k0, k1, k2⟩ := blk_cell3 K6.out
            obtain ⟨ka0, ka1, ka2⟩ := blk_cell3 (blk_stay (o' := .cells #[.int .i64 (-1), .int .i64 100001] 3) K6.out)
            obtain ⟨kb0, kb1, kb2⟩ := blk_cell3 (blk_stay (o' := .cells #[.int .i64 0, .int .i64 11] 3) K6.out)
            obtain ⟨kd0, kd1, kd2⟩ := blk_cell3 (blk_stay (o' := .cells #[.int .i64 0, .int .i64 11] 3) (blk_stay (o' := .cells #[.int .i64 (-1), .int .i64 100001] 3) K6.out))
            obtain ⟨ke0, ke1, ke2⟩ := blk_cell3 (blk_stay (o' := .cells #[.int .i64 (-1), .int .i64 100001] 3) (blk_stay (o' := .cells #[.int .i64 0, .int .i64 11] 3) K6.out))
            have hbb : b < w6.heap.size := by omega
            have CW := C6.out
            go_wp2_with fail
            go_region_law (first
              | (refine step_append_lies _ (by rfl) _ _ _ (by rfl) (w.heap.size + 1) 35 i0 (.agg #[.int .i64 0, .int .i64 0]) 2 16 Tryd.underlying24 hi hz0 hz1 hz2 rfl (by omega) (.slice oa l.length oc) l.length (brks l) (by rfl) (O7.alloc _) ⟨W7.heap.size, 0, none⟩ 1 1 [.int .i64 x, .int .i64 y] (by rfl) (by rfl) (World.news_of_block (cs := #[.int .i64 x, .int .i64 y]) (t := 35) (fr := (0, 0)) (heap_alloc_new W7 _)) (by simp [Value.oneCell']) (by omega) (by unfold maxLen; omega) (by omega) (by simp; omega) (W7.heap.size + 1) (by simp) ?_; intro gg cap w8 hown' hgrow hat hlt8; have KG := (hgrow.block (w2.heap.size + 1) (by simp; omega) (fun e => hne.out e.symm)).trans (blk_stay (o' := .cells #[.int .i64 x, .int .i64 y] 35) K7); obtain ⟨g0, g1, g2⟩ := blk_cell3 KG; obtain ⟨f0, f1, f2⟩ := blk_froz3 KG)
              | (go_simp; go_at_call 49; (with_reducible (show Calls _ _ #[_, Value.slice _ 2 _] _ _)); refine (F2.out _ _ (by (repeat (first | with_reducible exact hc1 | with_reducible refine Cur.alloc ?_ _ | with_reducible refine Cur.drew1 ?_)); first | done | fail) (by first | omega | (simp; omega)) (by (repeat (first | with_reducible exact nalD (by first | (simp; done) | omega | fail) | with_reducible refine old_allocD ?_ | with_reducible refine odrewD1 ?_ | with_reducible refine keepD hg1 (by first | omega | (simp; omega)) ?_)); first | done | fail)).mono ?_; rintro e W7 ⟨y, hy, rfl, hc2, hg2⟩; have G7 : w6.grownBy W7 (some b) := grown_trans (by (repeat (first | exact World.grownBy.refl _ _ | exact G1 | refine gr_drew ?_ | refine gr_al ?_ _)); first | done | fail) hg2; have hz8 := G7.size; have K7 : W7.heap[w2.heap.size + 1]? = some (.cells #[.int .i64 M, .int .i64 P, .slice oa l.length oc] 26 (0, 0)) := keepD G7 (show w2.heap.size + 1 ≠ b by omega) K6.out; have R7 : W7.heap[w.heap.size]? = some (.cells #[.int .i64 0, .int .i64 0, .slice none 0 0] 26 (0, 0)) := keepD G7 (show w.heap.size ≠ b by omega) R6.out; have O7 : W7.ownsRow (w.heap.size + 1) 35 2 (.slice oa l.length oc) l.length (brks l) := World.ownsRow.kept O6.out G7 (.inr (fun e => by have := (O6.out.lt _ e).1; omega)); have T7 : Below B w W7 := Below.trans T6.out (grown_below G7 (by omega) (fun k hk => by cases hk; exact hBb)); obtain ⟨d0, d1, d2⟩ := blk_cell3 K7; obtain ⟨e0, e1, e2⟩ := blk_cell3 (blk_stay (o' := .cells #[.int .i64 x, .int .i64 y] 35) K7))
              | (go_simp; go_at_call 49; (with_reducible (show Calls _ _ #[_, Value.slice _ 2 _] _ _)); refine (F1.out _ _ (by (repeat (first | with_reducible exact CW | with_reducible refine Cur.alloc ?_ _ | with_reducible refine Cur.drew1 ?_)); first | done | fail) (by first | omega | (simp; omega)) (by (repeat (first | with_reducible exact nalD (by first | (simp; done) | omega | fail) | with_reducible refine old_allocD ?_ | with_reducible refine odrewD1 ?_)); first | done | fail)).mono ?_; rintro e W1 ⟨x, hx, rfl, hc1, hg1⟩; have G1 : w6.grownBy W1 (some b) := grown_trans (by (repeat (first | exact World.grownBy.refl _ _ | refine gr_drew ?_ | refine gr_al ?_ _)); first | done | fail) hg1; have hz1' := G1.size; have K1' : W1.heap[w2.heap.size + 1]? = some (.cells #[.int .i64 M, .int .i64 P, .slice oa l.length oc] 26 (0, 0)) := keepD G1 (show w2.heap.size + 1 ≠ b by omega) K6.out; obtain ⟨p0, p1, p2⟩ := blk_cell3 K1'; obtain ⟨q0, q1, q2⟩ := blk_cell3 (blk_stay (o' := .cells #[.int .i64 0, .int .i64 11] 3) K1'))
              | fail)
            all_goals (
              have hgn : gg ≠ w2.heap.size + 1 := by
                rcases hat with h | h
                · intro e; exact hne.out (by rw [h, e])
                · omega
              have hlw := hgrow.size
              simp at hlw
              have hgr : (W7.alloc (.cells #[.int .i64 x, .int .i64 y] 35)).grownBy w8 (Value.slice oa l.length oc).ownBlock := hgrow
              have hlo := fun j hj => (O7.lt j hj).1
              have KP : Hid ((w8.setCell ⟨w2.heap.size + 1, 2, none⟩ (.slice (some ⟨gg, 0, none⟩) (l.length + 1) cap)).heap[w2.heap.size + 1]? = some (.cells #[.int .i64 M, .int .i64 P, .slice (some ⟨gg, 0, none⟩) (l.length + 1) cap] 26 (0, 0))) := Lib.hid (by simpa using blk_put (i := 2) (v := .slice (some ⟨gg, 0, none⟩) (l.length + 1) cap) KG)
              have RP : Hid ((w8.setCell ⟨w2.heap.size + 1, 2, none⟩ (.slice (some ⟨gg, 0, none⟩) (l.length + 1) cap)).heap[w.heap.size]? = some (.cells #[.int .i64 0, .int .i64 0, .slice none 0 0] 26 (0, 0))) := Lib.hid ((blk_by (by omega)).trans ((hgrow.block w.heap.size (by simp; omega) (fun e => by have := hlo _ e.symm; omega)).trans (blk_stay R7)))
              have CP := Lib.hid (Cur.grown ((hc2.alloc _).grown hgr (fun j hj => by have := hlo j hj; omega)) (grown_put w8 ⟨w2.heap.size + 1, 2, none⟩ (.slice (some ⟨gg, 0, none⟩) (l.length + 1) cap)) (fun j hj => by cases hj; first | omega | (show b < w2.heap.size + 1; omega) | (show b < w.heap.size; omega)))
              have TP := Lib.hid (((T7.alloc (by omega) _).grown hgr (by simp; omega) (fun j hj => by have := hlo j hj; omega)).setCell (p := ⟨w2.heap.size + 1, 2, none⟩) (by show B ≤ w2.heap.size + 1; omega) (.slice (some ⟨gg, 0, none⟩) (l.length + 1) cap))
              have hon : w8.ownsRow (w.heap.size + 1) 35 2 (.slice (some ⟨gg, 0, none⟩) (l ++ [(⟨x, y⟩ : Brk)]).length cap) (l ++ [(⟨x, y⟩ : Brk)]).length (brks (l ++ [(⟨x, y⟩ : Brk)])) := by
                rw [show (l ++ [(⟨x, y⟩ : Brk)]).length = l.length + 1 by simp, brks_append, brks_one]; exact hown'
              have OP := Lib.hid (own_by hon (grown_put w8 ⟨w2.heap.size + 1, 2, none⟩ (.slice (some ⟨gg, 0, none⟩) (l.length + 1) cap)) (fun h => by simp [Value.ownBlock] at h; omega))
              have hl1 : (l ++ [(⟨x, y⟩ : Brk)]).length = l.length + 1 := by simp
              rw [hl1] at OP
              have HGN : Hid ((Value.slice (some ⟨gg, 0, none⟩) (l.length + 1) cap).ownBlock ≠ some (w2.heap.size + 1)) := Lib.hid (fun h => by simp [Value.ownBlock] at h; omega)
              clear hown' hgrow hgr hon KG g0 g1 g2 f0 f1 f2 K7 R7 O7 T7 hc2 hg2 hy hx hc1 hg1 d0 d1 d2 e0 e1 e2 p0 p1 p2 q0 q1 q2 K1' k0 k1 k2 ka0 ka1 ka2 kb0 kb1 kb2 kd0 kd1 kd2 ke0 ke1 ke2 F1 F2 CW G1 G7 hat
              have KQ := KP.out
              obtain ⟨q0, q1, q2⟩ := blk_cell3 KQ
              have KZ := RP.out
              obtain ⟨r0, r1, r2⟩ := blk_cell3 KZ
              obtain ⟨s0, s1, s2⟩ := blk_froz3 KZ
              have Z := blk_all3 (x := .int .i64 M) (y := .int .i64 P) (z := .slice (some ⟨gg, 0, none⟩) (l.length + 1) cap) KZ
              obtain ⟨z0, z1, z2⟩ := blk_cell3 Z
              have Z0 := Lib.hid z0
              have Z1 := Lib.hid z1
              have Z2 := Lib.hid z2
              have HTF := Lib.hid (below_all3 TP.out (b := w.heap.size) (by omega) (.int .i64 M) (.int .i64 P) (.slice (some ⟨gg, 0, none⟩) (l.length + 1) cap))
              have HCF := Lib.hid (Cur.grown CP.out (grown_all3 _ w.heap.size (.int .i64 M) (.int .i64 P) (.slice (some ⟨gg, 0, none⟩) (l.length + 1) cap)) (fun j hj => by cases hj; first | omega | (show b < w2.heap.size + 1; omega) | (show b < w.heap.size; omega)))
              have HOF := Lib.hid (own_mono (own_by OP.out (grown_all3 _ w.heap.size (.int .i64 M) (.int .i64 P) (.slice (some ⟨gg, 0, none⟩) (l.length + 1) cap)) (fun h => by have := (OP.out.lt _ h).1; omega)) (show w.heap.size ≤ w.heap.size + 1 by omega))
              clear Z z0 z1 z2 KZ KQ
              go_wp2
              refine bodyPost_ret (v := .agg #[.int .i64 M, .int .i64 P, .slice (some ⟨gg, 0, none⟩) (l.length + 1) cap]) (by simp [results, Tryd.results47, go_sem, Z0.out, Z1.out, Z2.out]) rfl ⟨_, _, _, l ++ [(⟨x, y⟩ : Brk)], rfl, (by rw [hl1]; omega), (by rw [hl1]; exact HOF.out), HCF.out.mono (by omega), HTF.out⟩)
          · by_cases r3 : r = 3
            · have t3 : ((r : Int) == 0) = false := by rw [beq_eq_false_iff_ne]; omega
              have t4 : ((r : Int) == 1) = false := by rw [beq_eq_false_iff_ne]; omega
              have t5 : ((r : Int) == 2) = false := by rw [beq_eq_false_iff_ne]; omega
              have t6 : ((r : Int) == 3) = true := by rw [beq_iff_eq]; omega
              go_wp2
              go_loopg [62] 8 (fun G v wr => ∃ (j : Nat) (l : List Brk) (o : Value), j + 2 * G ≤ 16 ∧ 6 - l.length ≤ G ∧ l.length ≤ 5 ∧ wr.ownsRow (w.heap.size + 1) 35 2 o l.length (brks l) ∧ Hid (o.ownBlock ≠ some (w2.heap.size + 1)) ∧ Hid (Cur B b (k + 24 + j) wr ∧ Below B w wr) ∧ Hid (wr.heap[w.heap.size]? = some (.cells #[.int .i64 0, .int .i64 0, .slice none 0 0] 26 (0, 0))) ∧ Hid (wr.heap[w2.heap.size + 1]? = some (.cells #[.int .i64 M, .int .i64 P, o] 26 (0, 0))))
              case atStart => exact ⟨0, l, _, by omega, by omega, by omega, O6.out, hne, Lib.hid ⟨C6.out, T6.out⟩, R6, K6⟩
              case round =>
                clear hne R6 K6 O6 C6 T6
                obtain ⟨j, l, o, hj, hG, hl5, hown, hne, HS, KR, K8⟩ := hrel
                obtain ⟨oa, oc, rfl⟩ := (Rs.of_own hown).shape
                have HOW := Lib.hid hown
                clear hown
                have hl8 := blk_lt K8.out
                have hlR := blk_lt KR.out
                obtain ⟨k0, k1, k2⟩ := blk_cell3 K8.out
                have HKC : Hid (∀ W, wr.grownBy W (some b) → W.cell? ⟨w2.heap.size + 1, 2, none⟩ = some (.slice oa l.length oc)) := Lib.hid (fun W hW => (blk_cell3 (keepD hW (by omega) K8.out)).2.2)
                have PK := Lib.hid (fun W (hW : Cur B b (k + 24 + j) W) => pick_any B b (k + 24 + j) 2 W hW (by omega) (by omega) (by omega))
                have CW := HS.out.1
                go_wp2_with fail
                go_region_held3 (fun w' => w'.cell? ⟨w2.heap.size + 1, 2, none⟩ = some (.slice oa l.length oc)) (first | exact k2 | exact HKC.out _ G1 | exact HKC.out _ (by (repeat (first | exact World.grownBy.refl _ _ | refine gr_drew ?_ | refine gr_al ?_ _)); first | done | fail))
                  (first
                    | (go_at_call 63; refine (PK.out _ (by (repeat (first | with_reducible exact CW | with_reducible refine Cur.alloc ?_ _ | with_reducible refine Cur.drew1 ?_)); first | done | fail)).mono ?_; rintro e W1 ⟨r9, rfl, hr9, hc, hg⟩; have q4 : IntKind.i64.wrap (4 + (r9 : Int)) = 4 + (r9 : Int) := IntWalk.i64_in _ (by omega); have G1 : wr.grownBy W1 (some b) := grown_trans (by (repeat (first | exact World.grownBy.refl _ _ | refine gr_drew ?_ | refine gr_al ?_ _)); first | done | fail) hg)
                    | fail)
                all_goals (
                  have hsz1 := G1.size
                  have R1 := Lib.hid (keepD G1 (show w.heap.size ≠ b by omega) KR.out)
                  have K1 := Lib.hid (keepD G1 (show w2.heap.size + 1 ≠ b by omega) K8.out)
                  have O1 := Lib.hid (HOW.out.kept G1 (.inr (fun e => by have := (HOW.out.lt _ e).1; omega)))
                  have T1 := Lib.hid (Below.trans HS.out.2 (grown_below G1 (by omega) (fun k hk => by cases hk; exact hBb)))
                  have C1 := Lib.hid hc
                  clear hc hg G1 HKC PK CW k0 k1 k2
                  obtain ⟨k0, k1, k2⟩ := blk_cell3 K1.out
                  by_cases hlt : l.length < 4 + r9
                  · have t8 : decide ((l.length : Int) < 4 + (r9 : Int)) = true := by simp; omega
                    go_wp2_with (at_builtin; go_loud (refine wpList_append_any _ rfl _ _ 24 rfl (w.heap.size + 1) 35 i0 (.agg #[.int .i64 0, .int .i64 0]) 2 16 Tryd.underlying24 hi hz0 hz1 hz2 rfl (by omega) _ _ _ rfl (O1.out.alloc _) (some ⟨W1.heap.size, 0, none⟩) 1 1 [.int .i64 100, .int .i64 0] rfl rfl (fun _ => ⟨⟨W1.heap.size, 0, none⟩, rfl, (World.news_of_block (cs := #[.int .i64 100, .int .i64 0]) (t := 35) (fr := (0, 0)) (heap_alloc_new W1 _))⟩) (by simp [Value.oneCell']) (by unfold maxLen; omega) (by omega) (by simp; omega) ?_); intro v' w8 hown' hgrow hat; have KG := (hgrow.block (w2.heap.size + 1) (by simp; omega) (fun e => hne.out e.symm)).trans (blk_stay (o' := .cells #[.int .i64 100, .int .i64 0] 35) K1.out); obtain ⟨g0, g1, g2⟩ := blk_cell3 KG; obtain ⟨f0, f1, f2⟩ := blk_froz3 KG; obtain ⟨ga, gc, rfl⟩ := (Rs.of_own hown').shape)
                    have hgn : (Value.slice ga (l.length + 1) gc).ownBlock ≠ some (w2.heap.size + 1) := by
                      rcases hat with h | h
                      · intro e; exact hne.out (h.symm.trans e)
                      · intro e; rw [h] at e; have := Option.some.inj e; simp at this; omega
                    have hlw := hgrow.size
                    simp at hlw
                    have hgr : (W1.alloc (.cells #[.int .i64 100, .int .i64 0] 35)).grownBy w8 (Value.slice oa l.length oc).ownBlock := hgrow
                    have hlo := fun j hj => (O1.out.lt j hj).1
                    have KP : Hid ((w8.setCell ⟨w2.heap.size + 1, 2, none⟩ (.slice ga (l.length + 1) gc)).heap[w2.heap.size + 1]? = some (.cells #[.int .i64 M, .int .i64 P, .slice ga (l.length + 1) gc] 26 (0, 0))) := Lib.hid (by simpa using blk_put (i := 2) (v := .slice ga (l.length + 1) gc) KG)
                    have RP : Hid ((w8.setCell ⟨w2.heap.size + 1, 2, none⟩ (.slice ga (l.length + 1) gc)).heap[w.heap.size]? = some (.cells #[.int .i64 0, .int .i64 0, .slice none 0 0] 26 (0, 0))) := Lib.hid ((blk_by (by omega)).trans ((hgrow.block w.heap.size (by simp; omega) (fun e => by have := hlo _ e.symm; omega)).trans (blk_stay R1.out)))
                    have CP := Lib.hid (Cur.grown ((C1.out.alloc _).grown hgr (fun j hj => by have := hlo j hj; omega)) (grown_put w8 ⟨w2.heap.size + 1, 2, none⟩ (.slice ga (l.length + 1) gc)) (fun j hj => by cases hj; first | omega | (show b < w2.heap.size + 1; omega) | (show b < w.heap.size; omega)))
                    have TP := Lib.hid (((T1.out.alloc (by omega) _).grown hgr (by simp; omega) (fun j hj => by have := hlo j hj; omega)).setCell (p := ⟨w2.heap.size + 1, 2, none⟩) (by show B ≤ w2.heap.size + 1; omega) (.slice ga (l.length + 1) gc))
                    have OP := Lib.hid (own_by hown' (grown_put w8 ⟨w2.heap.size + 1, 2, none⟩ (.slice ga (l.length + 1) gc)) hgn)
                    have HGN := Lib.hid hgn
                    have hl1 : (l ++ [(⟨100, 0⟩ : Brk)]).length = l.length + 1 := by simp
                    clear hown' hgrow hgr hgn KG g0 g1 g2 f0 f1 f2 k0 k1 k2 hat
                    go_roundg (5 - l.length)
                    case measure => omega
                    case rel => exact ⟨j + 2, l ++ [(⟨100, 0⟩ : Brk)], _, by omega, by rw [hl1]; omega, by rw [hl1]; omega, by rw [hl1, brks_append, brks_one]; exact OP.out, HGN, Lib.hid ⟨CP.out.mono (by omega), TP.out⟩, RP, KP⟩
                  · have t8 : decide ((l.length : Int) < 4 + (r9 : Int)) = false := by simp; omega
                    have KQ := K1.out
                    obtain ⟨q0, q1, q2⟩ := blk_cell3 KQ
                    have KZ := R1.out
                    obtain ⟨r0, r1, r2⟩ := blk_cell3 KZ
                    obtain ⟨s0, s1, s2⟩ := blk_froz3 KZ
                    have Z := blk_all3 (x := .int .i64 M) (y := .int .i64 P) (z := .slice oa l.length oc) KZ
                    obtain ⟨z0, z1, z2⟩ := blk_cell3 Z
                    have Z0 := Lib.hid z0
                    have Z1 := Lib.hid z1
                    have Z2 := Lib.hid z2
                    have HTF := Lib.hid (below_all3 T1.out (b := w.heap.size) (by omega) (.int .i64 M) (.int .i64 P) (.slice oa l.length oc))
                    have HCF := Lib.hid (Cur.grown C1.out (grown_all3 _ w.heap.size (.int .i64 M) (.int .i64 P) (.slice oa l.length oc)) (fun j hj => by cases hj; first | omega | (show b < w2.heap.size + 1; omega) | (show b < w.heap.size; omega)))
                    have HOF := Lib.hid (own_mono (own_by O1.out (grown_all3 _ w.heap.size (.int .i64 M) (.int .i64 P) (.slice oa l.length oc)) (fun h => by have := (O1.out.lt _ h).1; omega)) (show w.heap.size ≤ w.heap.size + 1 by omega))
                    clear Z z0 z1 z2 KZ KQ
                    go_wp2
                    refine bodyPost_ret (v := .agg #[.int .i64 M, .int .i64 P, .slice oa l.length oc]) (by simp [results, Tryd.results47, go_sem, Z0.out, Z1.out, Z2.out]) rfl ⟨_, _, _, l, rfl, (by omega), HOF.out, HCF.out.mono (by omega), HTF.out⟩)
            · have t3 : ((r : Int) == 0) = false := by rw [beq_eq_false_iff_ne]; omega
              have t4 : ((r : Int) == 1) = false := by rw [beq_eq_false_iff_ne]; omega
              have t5 : ((r : Int) == 2) = false := by rw [beq_eq_false_iff_ne]; omega
              have t6 : ((r : Int) == 3) = false := by rw [beq_eq_false_iff_ne]; omega
              have KQ := K6.out
              obtain ⟨q0, q1, q2⟩ := blk_cell3 KQ
              have KZ := R6.out
              obtain ⟨r0, r1, r2⟩ := blk_cell3 KZ
              obtain ⟨s0, s1, s2⟩ := blk_froz3 KZ
              have Z := blk_all3 (x := .int .i64 M) (y := .int .i64 P) (z := .slice oa l.length oc) KZ
              obtain ⟨z0, z1, z2⟩ := blk_cell3 Z
              have Z0 := Lib.hid z0
              have Z1 := Lib.hid z1
              have Z2 := Lib.hid z2
              have HTF := Lib.hid (below_all3 T6.out (b := w.heap.size) (by omega) (.int .i64 M) (.int .i64 P) (.slice oa l.length oc))
              have HCF := Lib.hid (Cur.grown C6.out (grown_all3 _ w.heap.size (.int .i64 M) (.int .i64 P) (.slice oa l.length oc)) (fun j hj => by cases hj; first | omega | (show b < w2.heap.size + 1; omega) | (show b < w.heap.size; omega)))
              have HOF := Lib.hid (own_mono (own_by O6.out (grown_all3 _ w.heap.size (.int .i64 M) (.int .i64 P) (.slice oa l.length oc)) (fun h => by have := (O6.out.lt _ h).1; omega)) (show w.heap.size ≤ w.heap.size + 1 by omega))
              clear Z z0 z1 z2 KZ KQ
              go_wp2
              refine bodyPost_ret (v := .agg #[.int .i64 M, .int .i64 P, .slice oa l.length oc]) (by simp [results, Tryd.results47, go_sem, Z0.out, Z1.out, Z2.out]) rfl ⟨_, _, _, l, rfl, (by omega), HOF.out, HCF.out.mono (by omega), HTF.out⟩
/-- What drawing a speed leaves. -/
def SpdPost (B b k : Nat) (w : World) (e : Ending) (w' : World) : Prop := ∃ q : Int, e = .returned (.int .i64 q) ∧ Cur B b (k + 2) w' ∧ w.grownBy w' (some b)
set_option maxHeartbeats 1000000 in
theorem speed_any (B b k : Nat) (w : World) (h : Cur B b k w) (hk : k ≤ 700000000) :
    Calls Tryd.prog 48 #[.pointer (some ⟨b, 0, none⟩)] w (SpdPost B b k w) := by
  have hbw := h.2.1
  have HH := Lib.hid h
  clear h
  go_enter Tryd.func48, Tryd.ntmps48
  go_wp2_with fail
  refine (among_any B b k w.heap.size 10 10 [0, 0, 3, 10, 25, 50, 77, 100, 101, -1] _ (HH.out.alloc _) (by omega) rfl (by omega) (by omega) (by omega) (num_cells w 3 [0, 0, 3, 10, 25, 50, 77, 100, 101, -1] _ rfl)).mono ?_
  rintro e w1 ⟨q, hx, rfl, hc, hg⟩
  have HC := Lib.hid hc
  have HG := Lib.hid (grown_trans (World.grownBy_alloc w _ (some b)) hg)
  clear hc hg hx
  go_wp2_with fail
  go_ret
  exact ⟨q, rfl, HC.out, HG.out⟩
end Go.Proofs.YthmoogkllpcebaaDoor
