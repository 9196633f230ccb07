/- The drawn circle. Condition: sizes. -/
import Derived.Test.YtmmjbdffpgohdaaDrawKit
import Derived.Test.YtmmjbdffpgohdaaCirV
namespace Go.Proofs.Ytmmjbdffpgohdaa
open Go.RowKit
set_option linter.unusedVariables false
theorem Cur.drew1 {B b k : Nat} {w : World} (h : Cur B b k w) : Cur B b k w.drew := h.grown (row := none) ⟨rfl, rfl, rfl, Nat.le_refl _, fun _ _ _ => rfl⟩ (fun j hj => by cases hj)
theorem below_alD {B : Nat} {a w : World} (h : Below B a w) (hB : B ≤ w.heap.size) (o : Obj) : Below B a (w.alloc o) := h.alloc hB o
theorem gr_al {w W : World} {row : Option Nat} (h : w.grownBy W row) (o : Obj) : w.grownBy (W.alloc o) row := grown_trans h (World.grownBy_alloc W o row)
theorem gr_drew {w W : World} {row : Option Nat} (h : w.grownBy W row) : w.grownBy W.drew row := grown_trans h ⟨rfl, rfl, rfl, Nat.le_refl _, fun _ _ _ => rfl⟩
/-- What drawing a circle leaves. -/
def CirPost (B b k : Nat) (w : World) (e : Ending) (w' : World) : Prop := ∃ (L S : Int) (v : Value) (l : List Int), e = .returned (.agg #[.int .i64 L, .int .i64 S, v]) ∧ (9 ≤ L ∧ L ≤ 4001) ∧ (0 ≤ S ∧ S ≤ 101) ∧ l.length ≤ 9 ∧ w'.ownsRow w.heap.size 3 1 v l.length (intVs l) ∧ Cur B b (k + 60) w' ∧ Below B w w'
set_option maxRecDepth 100000 in
set_option maxHeartbeats 4000000 in
theorem circle_any (B b k : Nat) (w : World) (h : Cur B b k w) (hk : k ≤ 700000000) :
    Calls Try.prog 81 #[.pointer (some ⟨b, 0, none⟩)] w (CirPost B b k w) := by
  obtain ⟨i0, hi, hz0, hz1, hz2⟩ := info_parts Try.infoInt8
  have hBb := h.1
  have hbw := h.2.1
  have HH := Lib.hid h
  clear h
  go_enter Try.func81, Try.ntmps81
  go_wp2_with fail
  refine (among_any B b k (w.heap.size + 1) 6 6 [10, 20, 100, 101, 500, 4000] _ ((HH.out.alloc _).alloc _) (by omega) rfl (by omega) (by omega) (by omega) (num_cells1 _ 3 [10, 20, 100, 101, 500, 4000] _ rfl _ (aszD _ _))).mono ?_
  rintro e w1 ⟨L, hx, rfl, hc, hg⟩
  have hL : 9 ≤ L ∧ L ≤ 4001 := by simp at hx; omega
  have R1 := Lib.hid (keepD hg (show w.heap.size ≠ b by omega) (blk_stay (o' := .cells #[.int .i64 10, .int .i64 20, .int .i64 100, .int .i64 101, .int .i64 500, .int .i64 4000] 3) (blk_new3 w (.int .i64 0) (.int .i64 0) (.slice none 0 0) 55)))
  have T1 := Lib.hid (Below.trans (((Below.refl B w).alloc (by omega) (.cells #[.int .i64 0, .int .i64 0, .slice none 0 0] 55)).alloc (by simp; omega) (.cells #[.int .i64 10, .int .i64 20, .int .i64 100, .int .i64 101, .int .i64 500, .int .i64 4000] 3)) (grown_below hg (by simp; omega) (fun k hk => by cases hk; exact hBb)))
  have C1 := Lib.hid hc
  have hz1' := hg.size
  simp at hz1'
  clear hc hg hx
  go_wp2_with fail
  refine (among_any B b (k + 2) w1.heap.size 6 6 [1, 5, 7, 10, 50, 100] _ (C1.out.alloc _) (by omega) rfl (by omega) (by omega) (by omega) (num_cells w1 3 [1, 5, 7, 10, 50, 100] _ rfl)).mono ?_
  rintro e w2 ⟨S, hx, rfl, hc, hg⟩
  have hS : 0 ≤ S ∧ S ≤ 101 := by simp at hx; omega
  have R2 := Lib.hid (keepD hg (show w.heap.size ≠ b by omega) (blk_stay (o' := .cells #[.int .i64 1, .int .i64 5, .int .i64 7, .int .i64 10, .int .i64 50, .int .i64 100] 3) R1.out))
  have T2 := Lib.hid (Below.trans (T1.out.alloc (by omega) (.cells #[.int .i64 1, .int .i64 5, .int .i64 7, .int .i64 10, .int .i64 50, .int .i64 100] 3)) (grown_below hg (by simp; omega) (fun k hk => by cases hk; exact hBb)))
  have C2 := Lib.hid hc
  have hz2' := hg.size
  simp at hz2'
  clear hc hg hx R1 T1 C1
  have hw2 : w.heap.size + 3 ≤ w2.heap.size := by omega
  have hk8 := blk_new3 (w2.alloc (.cells #[] 3)) (.int .i64 L) (.int .i64 S) (.slice (some ⟨w2.heap.size, 0, none⟩) 0 0) 55
  simp only [World.size_alloc] at hk8
  have HK3 := Lib.hid hk8
  have HO3 := Lib.hid ((World.ownsRow_made w2 #[] 0 (base := w.heap.size + 1) (e := 3) (size := 1) (by omega) (by decide) rfl).alloc (.cells #[.int .i64 L, .int .i64 S, .slice (some ⟨w2.heap.size, 0, none⟩) 0 0] 55))
  have T3 := Lib.hid ((T2.out.alloc (by omega) (.cells #[] 3)).alloc (by simp; omega) (.cells #[.int .i64 L, .int .i64 S, .slice (some ⟨w2.heap.size, 0, none⟩) 0 0] 55))
  have R3 := Lib.hid (blk_stay (o' := .cells #[.int .i64 L, .int .i64 S, .slice (some ⟨w2.heap.size, 0, none⟩) 0 0] 55) (blk_stay (o' := .cells #[] 3) R2.out))
  have C3 := Lib.hid ((C2.out.alloc (.cells #[] 3)).alloc (.cells #[.int .i64 L, .int .i64 S, .slice (some ⟨w2.heap.size, 0, none⟩) 0 0] 55))
  clear hk8 T2 R2 C2
  go_wp2_with fail
  refine (pick_any B b _ 5 _ C3.out (by omega) (by omega) (by omega)).mono ?_
  rintro e w4 ⟨a0, rfl, ha0, hc, hg⟩
  have R4 := Lib.hid (keepD hg (show w.heap.size ≠ b by omega) R3.out)
  have K4 := Lib.hid (keepD hg (show w2.heap.size + 1 ≠ b by omega) HK3.out)
  have O4 := Lib.hid (HO3.out.kept hg (.inr (fun e => by have := (HO3.out.lt _ e).1; omega)))
  have T4 := Lib.hid (Below.trans T3.out (grown_below hg (by simp; omega) (fun k hk => by cases hk; exact hBb)))
  have C4 := Lib.hid hc
  have hz4 := hg.size
  simp at hz4
  clear hc hg R3 HK3 HO3 T3 C3
  go_wp2_with fail
  refine (pick_any B b _ 8 _ C4.out (by omega) (by omega) (by omega)).mono ?_
  rintro e w5 ⟨m0, rfl, hm0, hc, hg⟩
  have R5 := Lib.hid (keepD hg (show w.heap.size ≠ b by omega) R4.out)
  have K5 := Lib.hid (keepD hg (show w2.heap.size + 1 ≠ b by omega) K4.out)
  have O5 := Lib.hid (O4.out.kept hg (.inr (fun e => by have := (O4.out.lt _ e).1; omega)))
  have T5 := Lib.hid (Below.trans T4.out (grown_below hg (by omega) (fun k hk => by cases hk; exact hBb)))
  have C5 := Lib.hid hc
  have hz5 := hg.size
  clear hc hg R4 K4 O4 T4 C4
  go_wp2
  go_loopw [4, 5] (fun aa n wr => ∃ (m : Nat) (a : Int) (l : List Int) (o : Value), aa = .int .i64 a ∧ n = .int .i64 (m : Int) ∧ m ≤ 7 ∧ (0 ≤ a ∧ a ≤ 4 + 90 * (7 - (m : Int))) ∧ l.length + m ≤ 7 ∧ wr.ownsRow (w.heap.size + 1) 3 1 o l.length (intVs l) ∧ Hid (o.ownBlock ≠ some (w2.heap.size + 1)) ∧ Hid (Cur B b (k + 8 + 2 * (7 - m)) wr ∧ Below B w wr) ∧ Hid (wr.heap[w.heap.size]? = some (.cells #[.int .i64 0, .int .i64 0, .slice none 0 0] 55 (0, 0))) ∧ Hid (wr.heap[w2.heap.size + 1]? = some (.cells #[.int .i64 L, .int .i64 S, o] 55 (0, 0)))) (fun _ n _ => (intOf n).toNat)
  case atStart => exact ⟨m0, a0, [], _, rfl, rfl, by omega, by omega, by simp; omega, O5.out, Lib.hid (by simp [Value.ownBlock]), Lib.hid ⟨C5.out.mono (by omega), T5.out⟩, R5, K5⟩
  case round =>
    obtain ⟨m, a, l, o, rfl, rfl, hm7, hab, hlm, hown, hne, HS, KR, K8⟩ := hrel
    obtain ⟨oa, oc, rfl⟩ := (Rs.of_own hown).shape
    have HOW := Lib.hid hown
    clear hown
    obtain ⟨c0, c1, c2⟩ := blk_cell3 K8.out
    have hl8 := blk_lt K8.out
    have hlR := blk_lt KR.out
    by_cases hm : 0 < m
    · have hmi : (0 : Int) < (m : Int) := by omega
      by_cases ha : a < L
      · have t2 : decide (a < L) = true := by simpa using ha
        clear ha
        go_wp2_with (at_builtin; refine wpList_append_any _ rfl _ _ 49 rfl (w.heap.size + 1) 3 i0 (.int .i64 0) 1 8 Try.underlying49 hi hz0 hz1 hz2 rfl (by omega) _ _ _ rfl (HOW.out.alloc _) (some ⟨wr.heap.size, 0, none⟩) 1 1 [.int .i64 a] rfl rfl (fun _ => ⟨⟨wr.heap.size, 0, none⟩, rfl, (World.news_of_block (cs := #[.int .i64 a]) (t := 3) (fr := (0, 0)) (heap_alloc_new wr _))⟩) (by simp [Value.oneCell']) (by unfold maxLen; omega) (by omega) (by simp; omega) ?_; intro v' w8 hown' hgrow hat; have KG := (hgrow.block (w2.heap.size + 1) (by simp; omega) (fun e => hne.out e.symm)).trans (blk_stay (o' := .cells #[.int .i64 a] 3) K8.out); obtain ⟨g0, g1, g2⟩ := blk_cell3 KG; obtain ⟨f0, f1, f2⟩ := blk_froz3 KG; obtain ⟨ga, gc, rfl⟩ := (Rs.of_own hown').shape)
        have hgn : (Value.slice ga (l.length + 1) gc).ownBlock ≠ some (w2.heap.size + 1) := by
          rcases hat with h | h
          · intro e; exact hne.out (h.symm.trans e)
          · intro e; rw [h] at e; have := Option.some.inj e; simp at this; omega
        have hlw := hgrow.size
        simp at hlw
        have hgr : (wr.alloc (.cells #[.int .i64 a] 3)).grownBy w8 (Value.slice oa l.length oc).ownBlock := hgrow
        have hlo := fun j hj => (HOW.out.lt j hj).1
        have KP : Hid ((w8.setCell ⟨w2.heap.size + 1, 2, none⟩ (.slice ga (l.length + 1) gc)).heap[w2.heap.size + 1]? = some (.cells #[.int .i64 L, .int .i64 S, .slice ga (l.length + 1) gc] 55 (0, 0))) := Lib.hid (by simpa using blk_put (i := 2) (v := .slice ga (l.length + 1) gc) KG)
        have RP : Hid ((w8.setCell ⟨w2.heap.size + 1, 2, none⟩ (.slice ga (l.length + 1) gc)).heap[w.heap.size]? = some (.cells #[.int .i64 0, .int .i64 0, .slice none 0 0] 55 (0, 0))) := Lib.hid ((blk_by (by omega)).trans ((hgrow.block w.heap.size (by simp; omega) (fun e => by have := hlo _ e.symm; omega)).trans (blk_stay KR.out)))
        have CP := Lib.hid (Cur.grown ((HS.out.1.alloc _).grown hgr (fun j hj => by have := hlo j hj; omega)) (grown_put w8 ⟨w2.heap.size + 1, 2, none⟩ (.slice ga (l.length + 1) gc)) (fun j hj => by cases hj; first | omega | (show b < w2.heap.size + 1; omega) | (show b < w.heap.size; omega)))
        have TP := Lib.hid (((HS.out.2.alloc (by omega) _).grown hgr (by simp; omega) (fun j hj => by have := hlo j hj; omega)).setCell (p := ⟨w2.heap.size + 1, 2, none⟩) (by show B ≤ w2.heap.size + 1; omega) (.slice ga (l.length + 1) gc))
        have OP := Lib.hid (own_by hown' (grown_put w8 ⟨w2.heap.size + 1, 2, none⟩ (.slice ga (l.length + 1) gc)) hgn)
        have HGN := Lib.hid hgn
        have hs9 : (w8.setCell ⟨w2.heap.size + 1, 2, none⟩ (.slice ga (l.length + 1) gc)).heap.size = w8.heap.size := by simp
        clear hown' hgrow hgr hgn KG g0 g1 g2 f0 f1 f2 c0 c1 c2 hat
        generalize w8.setCell ⟨w2.heap.size + 1, 2, none⟩ (.slice ga (l.length + 1) gc) = W9 at *
        refine (among_any B b _ _ 6 6 [1, 2, 3, 10, 40, 90] _ (CP.out.alloc _) (by omega) rfl (by omega) (by omega) (by omega) (num_cells1 W9 3 [1, 2, 3, 10, 40, 90] _ rfl _ (by first | rfl | omega))).mono ?_
        rintro e w10 ⟨dd, hx, rfl, hc, hg⟩
        have hb9 : 1 ≤ dd ∧ dd ≤ 90 := by simp at hx; omega
        have R10 := Lib.hid (keepD hg (show w.heap.size ≠ b by omega) (blk_stay (o' := .cells #[.int .i64 1, .int .i64 2, .int .i64 3, .int .i64 10, .int .i64 40, .int .i64 90] 3) RP.out))
        have K10 := Lib.hid (keepD hg (show w2.heap.size + 1 ≠ b by omega) (blk_stay (o' := .cells #[.int .i64 1, .int .i64 2, .int .i64 3, .int .i64 10, .int .i64 40, .int .i64 90] 3) KP.out))
        have O10 := Lib.hid ((OP.out.alloc (.cells #[.int .i64 1, .int .i64 2, .int .i64 3, .int .i64 10, .int .i64 40, .int .i64 90] 3)).kept hg (.inr (fun e => by have := (OP.out.lt _ e).1; omega)))
        have T10 := Lib.hid (Below.trans (TP.out.alloc (by omega) (.cells #[.int .i64 1, .int .i64 2, .int .i64 3, .int .i64 10, .int .i64 40, .int .i64 90] 3)) (grown_below hg (by simp; omega) (fun k hk => by cases hk; exact hBb)))
        have C10 := Lib.hid hc
        have hz10 := hg.size
        simp at hz10
        clear hc hg hx KP RP CP TP OP
        have p1 : IntKind.i64.wrap (a + dd) = a + dd := IntWalk.i64_in _ (by omega)
        have p2 : IntKind.i64.wrap ((m : Int) - 1) = ((m - 1 : Nat) : Int) := by rw [show (m : Int) - 1 = ((m - 1 : Nat) : Int) by omega]; exact IntWalk.i64_in _ (by omega)
        have hl1 : (l ++ [a]).length = l.length + 1 := by simp
        go_wp2
        go_roundw
        case rel => exact ⟨m - 1, a + dd, l ++ [a], _, by go_num, by go_num, by omega, by omega, by rw [hl1]; omega, by rw [hl1, iv_snoc]; exact O10.out, HGN, Lib.hid ⟨C10.out.mono (by omega), T10.out⟩, R10, K10⟩
        case measure => simp [intOf]; omega
      · have t2 : decide (a < L) = false := by simpa using ha
        clear ha
        go_wp2_with fail
        refine (pick_any B b _ 32 wr HS.out.1 (by omega) (by omega) (by omega)).mono ?_
        rintro e w6 ⟨r, rfl, hr, hc, hg⟩
        have T6 := Lib.hid (Below.trans HS.out.2 (grown_below hg (by omega) (fun k hk => by cases hk; exact hBb)))
        have C6 := Lib.hid (hc.mono (show _ ≤ k + 24 by omega))
        have R6 := Lib.hid (keepD hg (show w.heap.size ≠ b by omega) KR.out)
        have K6 := Lib.hid (keepD hg (show w2.heap.size + 1 ≠ b by omega) K8.out)
        have O6 := Lib.hid (HOW.out.kept hg (.inr (fun e => by have := (HOW.out.lt _ e).1; omega)))
        have hz6 := hg.size
        clear hc hg c0 c1 c2 HS KR K8 HOW
        by_cases r0 : r = 0
        · have t3 : ((r : Int) == 0) = true := by rw [beq_iff_eq]; omega
          go_wp2_with fail
          refine (among_any B b _ w6.heap.size 3 3 [9, 4001, 10] _ (C6.out.alloc _) (by omega) rfl (by omega) (by omega) (by omega) (num_cells w6 3 [9, 4001, 10] _ rfl)).mono ?_
          rintro e w7 ⟨x, hx, rfl, hc, hg⟩
          have hb7 : 9 ≤ x ∧ x ≤ 4001 := by simp at hx; omega
          have hz7 := hg.size
          simp at hz7
          have T7 := Lib.hid (Below.trans (T6.out.alloc (by omega) (.cells #[.int .i64 9, .int .i64 4001, .int .i64 10] 3)) (grown_below hg (by simp; omega) (fun k hk => by cases hk; exact hBb)))
          have C7 := Lib.hid hc
          have R7 := Lib.hid (keepD hg (show w.heap.size ≠ b by omega) (blk_stay R6.out))
          have K7 := Lib.hid (keepD hg (show w2.heap.size + 1 ≠ b by omega) (blk_stay K6.out))
          have O7 := Lib.hid ((O6.out.alloc (.cells #[.int .i64 9, .int .i64 4001, .int .i64 10] 3)).kept hg (.inr (fun e => by have := (O6.out.lt _ e).1; omega)))
          obtain ⟨k0, k1, k2⟩ := blk_cell3 K7.out
          obtain ⟨f0, f1, f2⟩ := blk_froz3 K7.out
          have KP : Hid ((w7.setCell ⟨w2.heap.size + 1, 0, none⟩ (.int .i64 x)).heap[w2.heap.size + 1]? = some (.cells #[.int .i64 x, .int .i64 S, .slice oa l.length oc] 55 (0, 0))) := Lib.hid (by simpa using blk_put (i := 0) (v := .int .i64 x) K7.out)
          have RP : Hid ((w7.setCell ⟨w2.heap.size + 1, 0, none⟩ (.int .i64 x)).heap[w.heap.size]? = some (.cells #[.int .i64 0, .int .i64 0, .slice none 0 0] 55 (0, 0))) := Lib.hid ((blk_by (by omega)).trans R7.out)
          have CP := Lib.hid (Cur.grown C7.out (grown_put w7 ⟨w2.heap.size + 1, 0, none⟩ (.int .i64 x)) (fun j hj => by cases hj; first | omega | (show b < w2.heap.size + 1; omega) | (show b < w.heap.size; omega)))
          have TP := Lib.hid (T7.out.setCell (p := ⟨w2.heap.size + 1, 0, none⟩) (by show B ≤ w2.heap.size + 1; omega) (.int .i64 x))
          have OP := Lib.hid (own_by O7.out (grown_put w7 ⟨w2.heap.size + 1, 0, none⟩ (.int .i64 x)) (fun h => hne.out h))
          clear hc hg hx
          have KQ := KP.out
          obtain ⟨q0, q1, q2⟩ := blk_cell3 KQ
          have KZ := RP.out
          obtain ⟨r0, r1, r2⟩ := blk_cell3 KZ
          obtain ⟨s0, s1, s2⟩ := blk_froz3 KZ
          have Z := blk_all3 (x := .int .i64 x) (y := .int .i64 S) (z := .slice oa l.length oc) KZ
          obtain ⟨z0, z1, z2⟩ := blk_cell3 Z
          have Z0 := Lib.hid z0
          have Z1 := Lib.hid z1
          have Z2 := Lib.hid z2
          have HTF := Lib.hid (below_all3 TP.out (b := w.heap.size) (by omega) (.int .i64 x) (.int .i64 S) (.slice oa l.length oc))
          have HCF := Lib.hid (Cur.grown CP.out (grown_all3 _ w.heap.size (.int .i64 x) (.int .i64 S) (.slice oa l.length oc)) (fun j hj => by cases hj; first | omega | (show b < w2.heap.size + 1; omega) | (show b < w.heap.size; omega)))
          have HOF := Lib.hid (own_mono (own_by OP.out (grown_all3 _ w.heap.size (.int .i64 x) (.int .i64 S) (.slice oa l.length oc)) (fun h => by have := (OP.out.lt _ h).1; omega)) (show w.heap.size ≤ w.heap.size + 1 by omega))
          clear Z z0 z1 z2 KZ KQ
          go_wp2
          refine bodyPost_ret (v := .agg #[.int .i64 x, .int .i64 S, .slice oa l.length oc]) (by simp [results, Try.results81, go_sem, Z0.out, Z1.out, Z2.out]) rfl ⟨_, _, _, l, rfl, hb7, hS, (by omega), HOF.out, HCF.out.mono (by omega), HTF.out⟩
        · by_cases r1 : r = 1
          · have t3 : ((r : Int) == 0) = false := by rw [beq_eq_false_iff_ne]; omega
            have t4 : ((r : Int) == 1) = true := by rw [beq_iff_eq]; omega
            go_wp2_with fail
            refine (among_any B b _ w6.heap.size 2 2 [0, 101] _ (C6.out.alloc _) (by omega) rfl (by omega) (by omega) (by omega) (num_cells w6 3 [0, 101] _ rfl)).mono ?_
            rintro e w7 ⟨x, hx, rfl, hc, hg⟩
            have hb7 : 0 ≤ x ∧ x ≤ 101 := by simp at hx; omega
            have hz7 := hg.size
            simp at hz7
            have T7 := Lib.hid (Below.trans (T6.out.alloc (by omega) (.cells #[.int .i64 0, .int .i64 101] 3)) (grown_below hg (by simp; omega) (fun k hk => by cases hk; exact hBb)))
            have C7 := Lib.hid hc
            have R7 := Lib.hid (keepD hg (show w.heap.size ≠ b by omega) (blk_stay R6.out))
            have K7 := Lib.hid (keepD hg (show w2.heap.size + 1 ≠ b by omega) (blk_stay K6.out))
            have O7 := Lib.hid ((O6.out.alloc (.cells #[.int .i64 0, .int .i64 101] 3)).kept hg (.inr (fun e => by have := (O6.out.lt _ e).1; omega)))
            obtain ⟨k0, k1, k2⟩ := blk_cell3 K7.out
            obtain ⟨f0, f1, f2⟩ := blk_froz3 K7.out
            have KP : Hid ((w7.setCell ⟨w2.heap.size + 1, 1, none⟩ (.int .i64 x)).heap[w2.heap.size + 1]? = some (.cells #[.int .i64 L, .int .i64 x, .slice oa l.length oc] 55 (0, 0))) := Lib.hid (by simpa using blk_put (i := 1) (v := .int .i64 x) K7.out)
            have RP : Hid ((w7.setCell ⟨w2.heap.size + 1, 1, none⟩ (.int .i64 x)).heap[w.heap.size]? = some (.cells #[.int .i64 0, .int .i64 0, .slice none 0 0] 55 (0, 0))) := Lib.hid ((blk_by (by omega)).trans R7.out)
            have CP := Lib.hid (Cur.grown C7.out (grown_put w7 ⟨w2.heap.size + 1, 1, none⟩ (.int .i64 x)) (fun j hj => by cases hj; first | omega | (show b < w2.heap.size + 1; omega) | (show b < w.heap.size; omega)))
            have TP := Lib.hid (T7.out.setCell (p := ⟨w2.heap.size + 1, 1, none⟩) (by show B ≤ w2.heap.size + 1; omega) (.int .i64 x))
            have OP := Lib.hid (own_by O7.out (grown_put w7 ⟨w2.heap.size + 1, 1, none⟩ (.int .i64 x)) (fun h => hne.out h))
            clear hc hg hx
            have KQ := KP.out
            obtain ⟨q0, q1, q2⟩ := blk_cell3 KQ
            have KZ := RP.out
            obtain ⟨r0, r1, r2⟩ := blk_cell3 KZ
            obtain ⟨s0, s1, s2⟩ := blk_froz3 KZ
            have Z := blk_all3 (x := .int .i64 L) (y := .int .i64 x) (z := .slice oa l.length oc) KZ
            obtain ⟨z0, z1, z2⟩ := blk_cell3 Z
            have Z0 := Lib.hid z0
            have Z1 := Lib.hid z1
            have Z2 := Lib.hid z2
            have HTF := Lib.hid (below_all3 TP.out (b := w.heap.size) (by omega) (.int .i64 L) (.int .i64 x) (.slice oa l.length oc))
            have HCF := Lib.hid (Cur.grown CP.out (grown_all3 _ w.heap.size (.int .i64 L) (.int .i64 x) (.slice oa l.length oc)) (fun j hj => by cases hj; first | omega | (show b < w2.heap.size + 1; omega) | (show b < w.heap.size; omega)))
            have HOF := Lib.hid (own_mono (own_by OP.out (grown_all3 _ w.heap.size (.int .i64 L) (.int .i64 x) (.slice oa l.length oc)) (fun h => by have := (OP.out.lt _ h).1; omega)) (show w.heap.size ≤ w.heap.size + 1 by omega))
            clear Z z0 z1 z2 KZ KQ
            go_wp2
            refine bodyPost_ret (v := .agg #[.int .i64 L, .int .i64 x, .slice oa l.length oc]) (by simp [results, Try.results81, go_sem, Z0.out, Z1.out, Z2.out]) rfl ⟨_, _, _, l, rfl, hL, hb7, (by omega), HOF.out, HCF.out.mono (by omega), HTF.out⟩
          · by_cases r2 : r = 2
            · have t3 : ((r : Int) == 0) = false := by rw [beq_eq_false_iff_ne]; omega
              have t4 : ((r : Int) == 1) = false := by rw [beq_eq_false_iff_ne]; omega
              have t5 : ((r : Int) == 2) = true := by rw [beq_iff_eq]; omega
              obtain ⟨k0, k1, k2⟩ := blk_cell3 K6.out
              obtain ⟨ka0, ka1, ka2⟩ := blk_cell3 (blk_stay (o' := .cells #[.int .i64 (-1), .int .i64 0, .int .i64 4000] 3) K6.out)
              go_wp2_with fail
              go_region_law (first
                | (refine step_append_lies _ (by rfl) _ _ _ (by rfl) (w.heap.size + 1) 3 i0 (.int .i64 0) 1 8 Try.underlying49 hi hz0 hz1 hz2 rfl (by omega) (.slice oa l.length oc) l.length (intVs l) (by rfl) (O7.alloc _) ⟨W7.heap.size, 0, none⟩ 1 1 [.int .i64 x] (by rfl) (by rfl) (World.news_of_block (cs := #[.int .i64 x]) (t := 3) (fr := (0, 0)) (heap_alloc_new W7 _)) (by simp [Value.oneCell']) (by omega) (by unfold maxLen; omega) (by omega) (by simp; omega) (W7.heap.size + 1) (by simp) ?_; intro gg cap w8 hown' hgrow hat hlt8; have KG := (hgrow.block (w2.heap.size + 1) (by simp; omega) (fun e => hne.out e.symm)).trans (blk_stay (o' := .cells #[.int .i64 x] 3) K7); obtain ⟨g0, g1, g2⟩ := blk_cell3 KG; obtain ⟨f0, f1, f2⟩ := blk_froz3 KG)
                | (go_simp; go_at_call 58; refine (among_any B b (k + 24) w6.heap.size 3 3 [-1, 0, 4000] _ (by first | exact (C6.out.alloc _).drew1 | exact C6.out.drew1.alloc _ | exact C6.out.alloc _ | fail) (by omega) rfl (by omega) (by omega) (by omega) (by exact fun i h => (num_cells w6 3 [-1, 0, 4000] #[.int .i64 (-1), .int .i64 0, .int .i64 4000] rfl i h : (w6.alloc (.cells #[.int .i64 (-1), .int .i64 0, .int .i64 4000] 3)).cell? ⟨w6.heap.size, i, none⟩ = _))).mono ?_; rintro e W7 ⟨x, hx, rfl, hc, hg⟩; have G7 : w6.grownBy W7 (some b) := grown_trans (by (repeat (first | exact World.grownBy.refl _ _ | refine gr_drew ?_ | refine gr_al ?_ _)); first | done | fail) hg; have hz8 : w6.heap.size + 1 ≤ W7.heap.size := (by have hz7 := hg.size; simp [World.drew] at hz7; omega); have K7 : W7.heap[w2.heap.size + 1]? = some (.cells #[.int .i64 L, .int .i64 S, .slice oa l.length oc] 55 (0, 0)) := keepD G7 (show w2.heap.size + 1 ≠ b by omega) K6.out; have R7 : W7.heap[w.heap.size]? = some (.cells #[.int .i64 0, .int .i64 0, .slice none 0 0] 55 (0, 0)) := keepD G7 (show w.heap.size ≠ b by omega) R6.out; have O7 : W7.ownsRow (w.heap.size + 1) 3 1 (.slice oa l.length oc) l.length (intVs l) := World.ownsRow.kept O6.out G7 (.inr (fun e => by have := (O6.out.lt _ e).1; omega)); have T7 : Below B w W7 := Below.trans T6.out (grown_below G7 (by omega) (fun k hk => by cases hk; exact hBb)); obtain ⟨d0, d1, d2⟩ := blk_cell3 K7; obtain ⟨e0, e1, e2⟩ := blk_cell3 (blk_stay (o' := .cells #[.int .i64 x] 3) K7))
                | fail)
              all_goals (
                have hgn : gg ≠ w2.heap.size + 1 := by
                  rcases hat with h | h
                  · intro e; exact hne.out (by rw [h, e])
                  · omega
                have hlw := hgrow.size
                simp at hlw
                have hgr : (W7.alloc (.cells #[.int .i64 x] 3)).grownBy w8 (Value.slice oa l.length oc).ownBlock := hgrow
                have hlo := fun j hj => (O7.lt j hj).1
                have KP : Hid ((w8.setCell ⟨w2.heap.size + 1, 2, none⟩ (.slice (some ⟨gg, 0, none⟩) (l.length + 1) cap)).heap[w2.heap.size + 1]? = some (.cells #[.int .i64 L, .int .i64 S, .slice (some ⟨gg, 0, none⟩) (l.length + 1) cap] 55 (0, 0))) := Lib.hid (by simpa using blk_put (i := 2) (v := .slice (some ⟨gg, 0, none⟩) (l.length + 1) cap) KG)
                have RP : Hid ((w8.setCell ⟨w2.heap.size + 1, 2, none⟩ (.slice (some ⟨gg, 0, none⟩) (l.length + 1) cap)).heap[w.heap.size]? = some (.cells #[.int .i64 0, .int .i64 0, .slice none 0 0] 55 (0, 0))) := Lib.hid ((blk_by (by omega)).trans ((hgrow.block w.heap.size (by simp; omega) (fun e => by have := hlo _ e.symm; omega)).trans (blk_stay R7)))
                have CP := Lib.hid (Cur.grown ((hc.alloc _).grown hgr (fun j hj => by have := hlo j hj; omega)) (grown_put w8 ⟨w2.heap.size + 1, 2, none⟩ (.slice (some ⟨gg, 0, none⟩) (l.length + 1) cap)) (fun j hj => by cases hj; first | omega | (show b < w2.heap.size + 1; omega) | (show b < w.heap.size; omega)))
                have TP := Lib.hid (((T7.alloc (by omega) _).grown hgr (by simp; omega) (fun j hj => by have := hlo j hj; omega)).setCell (p := ⟨w2.heap.size + 1, 2, none⟩) (by show B ≤ w2.heap.size + 1; omega) (.slice (some ⟨gg, 0, none⟩) (l.length + 1) cap))
                have hon : w8.ownsRow (w.heap.size + 1) 3 1 (.slice (some ⟨gg, 0, none⟩) (l ++ [x]).length cap) (l ++ [x]).length (intVs (l ++ [x])) := by
                  rw [show (l ++ [x]).length = l.length + 1 by simp, iv_snoc]; exact hown'
                have OP := Lib.hid (own_by hon (grown_put w8 ⟨w2.heap.size + 1, 2, none⟩ (.slice (some ⟨gg, 0, none⟩) (l.length + 1) cap)) (fun h => by simp [Value.ownBlock] at h; omega))
                have hl1 : (l ++ [x]).length = l.length + 1 := by simp
                rw [hl1] at OP
                clear hown' hgrow hgr hon KG g0 g1 g2 f0 f1 f2 K7 R7 O7 T7 hc hg hx d0 d1 d2 e0 e1 e2
                have KQ := KP.out
                obtain ⟨q0, q1, q2⟩ := blk_cell3 KQ
                have KZ := RP.out
                obtain ⟨r0, r1, r2⟩ := blk_cell3 KZ
                obtain ⟨s0, s1, s2⟩ := blk_froz3 KZ
                have Z := blk_all3 (x := .int .i64 L) (y := .int .i64 S) (z := .slice (some ⟨gg, 0, none⟩) (l.length + 1) cap) KZ
                obtain ⟨z0, z1, z2⟩ := blk_cell3 Z
                have Z0 := Lib.hid z0
                have Z1 := Lib.hid z1
                have Z2 := Lib.hid z2
                have HTF := Lib.hid (below_all3 TP.out (b := w.heap.size) (by omega) (.int .i64 L) (.int .i64 S) (.slice (some ⟨gg, 0, none⟩) (l.length + 1) cap))
                have HCF := Lib.hid (Cur.grown CP.out (grown_all3 _ w.heap.size (.int .i64 L) (.int .i64 S) (.slice (some ⟨gg, 0, none⟩) (l.length + 1) cap)) (fun j hj => by cases hj; first | omega | (show b < w2.heap.size + 1; omega) | (show b < w.heap.size; omega)))
                have HOF := Lib.hid (own_mono (own_by OP.out (grown_all3 _ w.heap.size (.int .i64 L) (.int .i64 S) (.slice (some ⟨gg, 0, none⟩) (l.length + 1) cap)) (fun h => by have := (OP.out.lt _ h).1; omega)) (show w.heap.size ≤ w.heap.size + 1 by omega))
                clear Z z0 z1 z2 KZ KQ
                go_wp2
                refine bodyPost_ret (v := .agg #[.int .i64 L, .int .i64 S, .slice (some ⟨gg, 0, none⟩) (l.length + 1) cap]) (by simp [results, Try.results81, go_sem, Z0.out, Z1.out, Z2.out]) rfl ⟨_, _, _, l ++ [x], rfl, hL, hS, (by rw [hl1]; omega), (by rw [hl1]; exact HOF.out), HCF.out.mono (by omega), HTF.out⟩)
            · have t3 : ((r : Int) == 0) = false := by rw [beq_eq_false_iff_ne]; omega
              have t4 : ((r : Int) == 1) = false := by rw [beq_eq_false_iff_ne]; omega
              have t5 : ((r : Int) == 2) = false := by rw [beq_eq_false_iff_ne]; omega
              have KQ := K6.out
              obtain ⟨q0, q1, q2⟩ := blk_cell3 KQ
              have KZ := R6.out
              obtain ⟨r0, r1, r2⟩ := blk_cell3 KZ
              obtain ⟨s0, s1, s2⟩ := blk_froz3 KZ
              have Z := blk_all3 (x := .int .i64 L) (y := .int .i64 S) (z := .slice oa l.length oc) KZ
              obtain ⟨z0, z1, z2⟩ := blk_cell3 Z
              have Z0 := Lib.hid z0
              have Z1 := Lib.hid z1
              have Z2 := Lib.hid z2
              have HTF := Lib.hid (below_all3 T6.out (b := w.heap.size) (by omega) (.int .i64 L) (.int .i64 S) (.slice oa l.length oc))
              have HCF := Lib.hid (Cur.grown C6.out (grown_all3 _ w.heap.size (.int .i64 L) (.int .i64 S) (.slice oa l.length oc)) (fun j hj => by cases hj; first | omega | (show b < w2.heap.size + 1; omega) | (show b < w.heap.size; omega)))
              have HOF := Lib.hid (own_mono (own_by O6.out (grown_all3 _ w.heap.size (.int .i64 L) (.int .i64 S) (.slice oa l.length oc)) (fun h => by have := (O6.out.lt _ h).1; omega)) (show w.heap.size ≤ w.heap.size + 1 by omega))
              clear Z z0 z1 z2 KZ KQ
              go_wp2
              refine bodyPost_ret (v := .agg #[.int .i64 L, .int .i64 S, .slice oa l.length oc]) (by simp [results, Try.results81, go_sem, Z0.out, Z1.out, Z2.out]) rfl ⟨_, _, _, l, rfl, hL, hS, (by omega), HOF.out, HCF.out.mono (by omega), HTF.out⟩
    · obtain rfl : m = 0 := by omega
      go_wp2_with fail
      refine (pick_any B b _ 32 wr HS.out.1 (by omega) (by omega) (by omega)).mono ?_
      rintro e w6 ⟨r, rfl, hr, hc, hg⟩
      have T6 := Lib.hid (Below.trans HS.out.2 (grown_below hg (by omega) (fun k hk => by cases hk; exact hBb)))
      have C6 := Lib.hid (hc.mono (show _ ≤ k + 24 by omega))
      have R6 := Lib.hid (keepD hg (show w.heap.size ≠ b by omega) KR.out)
      have K6 := Lib.hid (keepD hg (show w2.heap.size + 1 ≠ b by omega) K8.out)
      have O6 := Lib.hid (HOW.out.kept hg (.inr (fun e => by have := (HOW.out.lt _ e).1; omega)))
      have hz6 := hg.size
      clear hc hg c0 c1 c2 HS KR K8 HOW
      by_cases r0 : r = 0
      · have t3 : ((r : Int) == 0) = true := by rw [beq_iff_eq]; omega
        go_wp2_with fail
        refine (among_any B b _ w6.heap.size 3 3 [9, 4001, 10] _ (C6.out.alloc _) (by omega) rfl (by omega) (by omega) (by omega) (num_cells w6 3 [9, 4001, 10] _ rfl)).mono ?_
        rintro e w7 ⟨x, hx, rfl, hc, hg⟩
        have hb7 : 9 ≤ x ∧ x ≤ 4001 := by simp at hx; omega
        have hz7 := hg.size
        simp at hz7
        have T7 := Lib.hid (Below.trans (T6.out.alloc (by omega) (.cells #[.int .i64 9, .int .i64 4001, .int .i64 10] 3)) (grown_below hg (by simp; omega) (fun k hk => by cases hk; exact hBb)))
        have C7 := Lib.hid hc
        have R7 := Lib.hid (keepD hg (show w.heap.size ≠ b by omega) (blk_stay R6.out))
        have K7 := Lib.hid (keepD hg (show w2.heap.size + 1 ≠ b by omega) (blk_stay K6.out))
        have O7 := Lib.hid ((O6.out.alloc (.cells #[.int .i64 9, .int .i64 4001, .int .i64 10] 3)).kept hg (.inr (fun e => by have := (O6.out.lt _ e).1; omega)))
        obtain ⟨k0, k1, k2⟩ := blk_cell3 K7.out
        obtain ⟨f0, f1, f2⟩ := blk_froz3 K7.out
        have KP : Hid ((w7.setCell ⟨w2.heap.size + 1, 0, none⟩ (.int .i64 x)).heap[w2.heap.size + 1]? = some (.cells #[.int .i64 x, .int .i64 S, .slice oa l.length oc] 55 (0, 0))) := Lib.hid (by simpa using blk_put (i := 0) (v := .int .i64 x) K7.out)
        have RP : Hid ((w7.setCell ⟨w2.heap.size + 1, 0, none⟩ (.int .i64 x)).heap[w.heap.size]? = some (.cells #[.int .i64 0, .int .i64 0, .slice none 0 0] 55 (0, 0))) := Lib.hid ((blk_by (by omega)).trans R7.out)
        have CP := Lib.hid (Cur.grown C7.out (grown_put w7 ⟨w2.heap.size + 1, 0, none⟩ (.int .i64 x)) (fun j hj => by cases hj; first | omega | (show b < w2.heap.size + 1; omega) | (show b < w.heap.size; omega)))
        have TP := Lib.hid (T7.out.setCell (p := ⟨w2.heap.size + 1, 0, none⟩) (by show B ≤ w2.heap.size + 1; omega) (.int .i64 x))
        have OP := Lib.hid (own_by O7.out (grown_put w7 ⟨w2.heap.size + 1, 0, none⟩ (.int .i64 x)) (fun h => hne.out h))
        clear hc hg hx
        have KQ := KP.out
        obtain ⟨q0, q1, q2⟩ := blk_cell3 KQ
        have KZ := RP.out
        obtain ⟨r0, r1, r2⟩ := blk_cell3 KZ
        obtain ⟨s0, s1, s2⟩ := blk_froz3 KZ
        have Z := blk_all3 (x := .int .i64 x) (y := .int .i64 S) (z := .slice oa l.length oc) KZ
        obtain ⟨z0, z1, z2⟩ := blk_cell3 Z
        have Z0 := Lib.hid z0
        have Z1 := Lib.hid z1
        have Z2 := Lib.hid z2
        have HTF := Lib.hid (below_all3 TP.out (b := w.heap.size) (by omega) (.int .i64 x) (.int .i64 S) (.slice oa l.length oc))
        have HCF := Lib.hid (Cur.grown CP.out (grown_all3 _ w.heap.size (.int .i64 x) (.int .i64 S) (.slice oa l.length oc)) (fun j hj => by cases hj; first | omega | (show b < w2.heap.size + 1; omega) | (show b < w.heap.size; omega)))
        have HOF := Lib.hid (own_mono (own_by OP.out (grown_all3 _ w.heap.size (.int .i64 x) (.int .i64 S) (.slice oa l.length oc)) (fun h => by have := (OP.out.lt _ h).1; omega)) (show w.heap.size ≤ w.heap.size + 1 by omega))
        clear Z z0 z1 z2 KZ KQ
        go_wp2
        refine bodyPost_ret (v := .agg #[.int .i64 x, .int .i64 S, .slice oa l.length oc]) (by simp [results, Try.results81, go_sem, Z0.out, Z1.out, Z2.out]) rfl ⟨_, _, _, l, rfl, hb7, hS, (by omega), HOF.out, HCF.out.mono (by omega), HTF.out⟩
      · by_cases r1 : r = 1
        · have t3 : ((r : Int) == 0) = false := by rw [beq_eq_false_iff_ne]; omega
          have t4 : ((r : Int) == 1) = true := by rw [beq_iff_eq]; omega
          go_wp2_with fail
          refine (among_any B b _ w6.heap.size 2 2 [0, 101] _ (C6.out.alloc _) (by omega) rfl (by omega) (by omega) (by omega) (num_cells w6 3 [0, 101] _ rfl)).mono ?_
          rintro e w7 ⟨x, hx, rfl, hc, hg⟩
          have hb7 : 0 ≤ x ∧ x ≤ 101 := by simp at hx; omega
          have hz7 := hg.size
          simp at hz7
          have T7 := Lib.hid (Below.trans (T6.out.alloc (by omega) (.cells #[.int .i64 0, .int .i64 101] 3)) (grown_below hg (by simp; omega) (fun k hk => by cases hk; exact hBb)))
          have C7 := Lib.hid hc
          have R7 := Lib.hid (keepD hg (show w.heap.size ≠ b by omega) (blk_stay R6.out))
          have K7 := Lib.hid (keepD hg (show w2.heap.size + 1 ≠ b by omega) (blk_stay K6.out))
          have O7 := Lib.hid ((O6.out.alloc (.cells #[.int .i64 0, .int .i64 101] 3)).kept hg (.inr (fun e => by have := (O6.out.lt _ e).1; omega)))
          obtain ⟨k0, k1, k2⟩ := blk_cell3 K7.out
          obtain ⟨f0, f1, f2⟩ := blk_froz3 K7.out
          have KP : Hid ((w7.setCell ⟨w2.heap.size + 1, 1, none⟩ (.int .i64 x)).heap[w2.heap.size + 1]? = some (.cells #[.int .i64 L, .int .i64 x, .slice oa l.length oc] 55 (0, 0))) := Lib.hid (by simpa using blk_put (i := 1) (v := .int .i64 x) K7.out)
          have RP : Hid ((w7.setCell ⟨w2.heap.size + 1, 1, none⟩ (.int .i64 x)).heap[w.heap.size]? = some (.cells #[.int .i64 0, .int .i64 0, .slice none 0 0] 55 (0, 0))) := Lib.hid ((blk_by (by omega)).trans R7.out)
          have CP := Lib.hid (Cur.grown C7.out (grown_put w7 ⟨w2.heap.size + 1, 1, none⟩ (.int .i64 x)) (fun j hj => by cases hj; first | omega | (show b < w2.heap.size + 1; omega) | (show b < w.heap.size; omega)))
          have TP := Lib.hid (T7.out.setCell (p := ⟨w2.heap.size + 1, 1, none⟩) (by show B ≤ w2.heap.size + 1; omega) (.int .i64 x))
          have OP := Lib.hid (own_by O7.out (grown_put w7 ⟨w2.heap.size + 1, 1, none⟩ (.int .i64 x)) (fun h => hne.out h))
          clear hc hg hx
          have KQ := KP.out
          obtain ⟨q0, q1, q2⟩ := blk_cell3 KQ
          have KZ := RP.out
          obtain ⟨r0, r1, r2⟩ := blk_cell3 KZ
          obtain ⟨s0, s1, s2⟩ := blk_froz3 KZ
          have Z := blk_all3 (x := .int .i64 L) (y := .int .i64 x) (z := .slice oa l.length oc) KZ
          obtain ⟨z0, z1, z2⟩ := blk_cell3 Z
          have Z0 := Lib.hid z0
          have Z1 := Lib.hid z1
          have Z2 := Lib.hid z2
          have HTF := Lib.hid (below_all3 TP.out (b := w.heap.size) (by omega) (.int .i64 L) (.int .i64 x) (.slice oa l.length oc))
          have HCF := Lib.hid (Cur.grown CP.out (grown_all3 _ w.heap.size (.int .i64 L) (.int .i64 x) (.slice oa l.length oc)) (fun j hj => by cases hj; first | omega | (show b < w2.heap.size + 1; omega) | (show b < w.heap.size; omega)))
          have HOF := Lib.hid (own_mono (own_by OP.out (grown_all3 _ w.heap.size (.int .i64 L) (.int .i64 x) (.slice oa l.length oc)) (fun h => by have := (OP.out.lt _ h).1; omega)) (show w.heap.size ≤ w.heap.size + 1 by omega))
          clear Z z0 z1 z2 KZ KQ
          go_wp2
          refine bodyPost_ret (v := .agg #[.int .i64 L, .int .i64 x, .slice oa l.length oc]) (by simp [results, Try.results81, go_sem, Z0.out, Z1.out, Z2.out]) rfl ⟨_, _, _, l, rfl, hL, hb7, (by omega), HOF.out, HCF.out.mono (by omega), HTF.out⟩
        · by_cases r2 : r = 2
          · have t3 : ((r : Int) == 0) = false := by rw [beq_eq_false_iff_ne]; omega
            have t4 : ((r : Int) == 1) = false := by rw [beq_eq_false_iff_ne]; omega
            have t5 : ((r : Int) == 2) = true := by rw [beq_iff_eq]; omega
            obtain ⟨k0, k1, k2⟩ := blk_cell3 K6.out
            obtain ⟨ka0, ka1, ka2⟩ := blk_cell3 (blk_stay (o' := .cells #[.int .i64 (-1), .int .i64 0, .int .i64 4000] 3) K6.out)
            go_wp2_with fail
            go_region_law (first
              | (refine step_append_lies _ (by rfl) _ _ _ (by rfl) (w.heap.size + 1) 3 i0 (.int .i64 0) 1 8 Try.underlying49 hi hz0 hz1 hz2 rfl (by omega) (.slice oa l.length oc) l.length (intVs l) (by rfl) (O7.alloc _) ⟨W7.heap.size, 0, none⟩ 1 1 [.int .i64 x] (by rfl) (by rfl) (World.news_of_block (cs := #[.int .i64 x]) (t := 3) (fr := (0, 0)) (heap_alloc_new W7 _)) (by simp [Value.oneCell']) (by omega) (by unfold maxLen; omega) (by omega) (by simp; omega) (W7.heap.size + 1) (by simp) ?_; intro gg cap w8 hown' hgrow hat hlt8; have KG := (hgrow.block (w2.heap.size + 1) (by simp; omega) (fun e => hne.out e.symm)).trans (blk_stay (o' := .cells #[.int .i64 x] 3) K7); obtain ⟨g0, g1, g2⟩ := blk_cell3 KG; obtain ⟨f0, f1, f2⟩ := blk_froz3 KG)
              | (go_simp; go_at_call 58; refine (among_any B b (k + 24) w6.heap.size 3 3 [-1, 0, 4000] _ (by first | exact (C6.out.alloc _).drew1 | exact C6.out.drew1.alloc _ | exact C6.out.alloc _ | fail) (by omega) rfl (by omega) (by omega) (by omega) (by exact fun i h => (num_cells w6 3 [-1, 0, 4000] #[.int .i64 (-1), .int .i64 0, .int .i64 4000] rfl i h : (w6.alloc (.cells #[.int .i64 (-1), .int .i64 0, .int .i64 4000] 3)).cell? ⟨w6.heap.size, i, none⟩ = _))).mono ?_; rintro e W7 ⟨x, hx, rfl, hc, hg⟩; have G7 : w6.grownBy W7 (some b) := grown_trans (by (repeat (first | exact World.grownBy.refl _ _ | refine gr_drew ?_ | refine gr_al ?_ _)); first | done | fail) hg; have hz8 : w6.heap.size + 1 ≤ W7.heap.size := (by have hz7 := hg.size; simp [World.drew] at hz7; omega); have K7 : W7.heap[w2.heap.size + 1]? = some (.cells #[.int .i64 L, .int .i64 S, .slice oa l.length oc] 55 (0, 0)) := keepD G7 (show w2.heap.size + 1 ≠ b by omega) K6.out; have R7 : W7.heap[w.heap.size]? = some (.cells #[.int .i64 0, .int .i64 0, .slice none 0 0] 55 (0, 0)) := keepD G7 (show w.heap.size ≠ b by omega) R6.out; have O7 : W7.ownsRow (w.heap.size + 1) 3 1 (.slice oa l.length oc) l.length (intVs l) := World.ownsRow.kept O6.out G7 (.inr (fun e => by have := (O6.out.lt _ e).1; omega)); have T7 : Below B w W7 := Below.trans T6.out (grown_below G7 (by omega) (fun k hk => by cases hk; exact hBb)); obtain ⟨d0, d1, d2⟩ := blk_cell3 K7; obtain ⟨e0, e1, e2⟩ := blk_cell3 (blk_stay (o' := .cells #[.int .i64 x] 3) K7))
              | fail)
            all_goals (
              have hgn : gg ≠ w2.heap.size + 1 := by
                rcases hat with h | h
                · intro e; exact hne.out (by rw [h, e])
                · omega
              have hlw := hgrow.size
              simp at hlw
              have hgr : (W7.alloc (.cells #[.int .i64 x] 3)).grownBy w8 (Value.slice oa l.length oc).ownBlock := hgrow
              have hlo := fun j hj => (O7.lt j hj).1
              have KP : Hid ((w8.setCell ⟨w2.heap.size + 1, 2, none⟩ (.slice (some ⟨gg, 0, none⟩) (l.length + 1) cap)).heap[w2.heap.size + 1]? = some (.cells #[.int .i64 L, .int .i64 S, .slice (some ⟨gg, 0, none⟩) (l.length + 1) cap] 55 (0, 0))) := Lib.hid (by simpa using blk_put (i := 2) (v := .slice (some ⟨gg, 0, none⟩) (l.length + 1) cap) KG)
              have RP : Hid ((w8.setCell ⟨w2.heap.size + 1, 2, none⟩ (.slice (some ⟨gg, 0, none⟩) (l.length + 1) cap)).heap[w.heap.size]? = some (.cells #[.int .i64 0, .int .i64 0, .slice none 0 0] 55 (0, 0))) := Lib.hid ((blk_by (by omega)).trans ((hgrow.block w.heap.size (by simp; omega) (fun e => by have := hlo _ e.symm; omega)).trans (blk_stay R7)))
              have CP := Lib.hid (Cur.grown ((hc.alloc _).grown hgr (fun j hj => by have := hlo j hj; omega)) (grown_put w8 ⟨w2.heap.size + 1, 2, none⟩ (.slice (some ⟨gg, 0, none⟩) (l.length + 1) cap)) (fun j hj => by cases hj; first | omega | (show b < w2.heap.size + 1; omega) | (show b < w.heap.size; omega)))
              have TP := Lib.hid (((T7.alloc (by omega) _).grown hgr (by simp; omega) (fun j hj => by have := hlo j hj; omega)).setCell (p := ⟨w2.heap.size + 1, 2, none⟩) (by show B ≤ w2.heap.size + 1; omega) (.slice (some ⟨gg, 0, none⟩) (l.length + 1) cap))
              have hon : w8.ownsRow (w.heap.size + 1) 3 1 (.slice (some ⟨gg, 0, none⟩) (l ++ [x]).length cap) (l ++ [x]).length (intVs (l ++ [x])) := by
                rw [show (l ++ [x]).length = l.length + 1 by simp, iv_snoc]; exact hown'
              have OP := Lib.hid (own_by hon (grown_put w8 ⟨w2.heap.size + 1, 2, none⟩ (.slice (some ⟨gg, 0, none⟩) (l.length + 1) cap)) (fun h => by simp [Value.ownBlock] at h; omega))
              have hl1 : (l ++ [x]).length = l.length + 1 := by simp
              rw [hl1] at OP
              clear hown' hgrow hgr hon KG g0 g1 g2 f0 f1 f2 K7 R7 O7 T7 hc hg hx d0 d1 d2 e0 e1 e2
              have KQ := KP.out
              obtain ⟨q0, q1, q2⟩ := blk_cell3 KQ
              have KZ := RP.out
              obtain ⟨r0, r1, r2⟩ := blk_cell3 KZ
              obtain ⟨s0, s1, s2⟩ := blk_froz3 KZ
              have Z := blk_all3 (x := .int .i64 L) (y := .int .i64 S) (z := .slice (some ⟨gg, 0, none⟩) (l.length + 1) cap) KZ
              obtain ⟨z0, z1, z2⟩ := blk_cell3 Z
              have Z0 := Lib.hid z0
              have Z1 := Lib.hid z1
              have Z2 := Lib.hid z2
              have HTF := Lib.hid (below_all3 TP.out (b := w.heap.size) (by omega) (.int .i64 L) (.int .i64 S) (.slice (some ⟨gg, 0, none⟩) (l.length + 1) cap))
              have HCF := Lib.hid (Cur.grown CP.out (grown_all3 _ w.heap.size (.int .i64 L) (.int .i64 S) (.slice (some ⟨gg, 0, none⟩) (l.length + 1) cap)) (fun j hj => by cases hj; first | omega | (show b < w2.heap.size + 1; omega) | (show b < w.heap.size; omega)))
              have HOF := Lib.hid (own_mono (own_by OP.out (grown_all3 _ w.heap.size (.int .i64 L) (.int .i64 S) (.slice (some ⟨gg, 0, none⟩) (l.length + 1) cap)) (fun h => by have := (OP.out.lt _ h).1; omega)) (show w.heap.size ≤ w.heap.size + 1 by omega))
              clear Z z0 z1 z2 KZ KQ
              go_wp2
              refine bodyPost_ret (v := .agg #[.int .i64 L, .int .i64 S, .slice (some ⟨gg, 0, none⟩) (l.length + 1) cap]) (by simp [results, Try.results81, go_sem, Z0.out, Z1.out, Z2.out]) rfl ⟨_, _, _, l ++ [x], rfl, hL, hS, (by rw [hl1]; omega), (by rw [hl1]; exact HOF.out), HCF.out.mono (by omega), HTF.out⟩)
          · have t3 : ((r : Int) == 0) = false := by rw [beq_eq_false_iff_ne]; omega
            have t4 : ((r : Int) == 1) = false := by rw [beq_eq_false_iff_ne]; omega
            have t5 : ((r : Int) == 2) = false := by rw [beq_eq_false_iff_ne]; omega
            have KQ := K6.out
            obtain ⟨q0, q1, q2⟩ := blk_cell3 KQ
            have KZ := R6.out
            obtain ⟨r0, r1, r2⟩ := blk_cell3 KZ
            obtain ⟨s0, s1, s2⟩ := blk_froz3 KZ
            have Z := blk_all3 (x := .int .i64 L) (y := .int .i64 S) (z := .slice oa l.length oc) KZ
            obtain ⟨z0, z1, z2⟩ := blk_cell3 Z
            have Z0 := Lib.hid z0
            have Z1 := Lib.hid z1
            have Z2 := Lib.hid z2
            have HTF := Lib.hid (below_all3 T6.out (b := w.heap.size) (by omega) (.int .i64 L) (.int .i64 S) (.slice oa l.length oc))
            have HCF := Lib.hid (Cur.grown C6.out (grown_all3 _ w.heap.size (.int .i64 L) (.int .i64 S) (.slice oa l.length oc)) (fun j hj => by cases hj; first | omega | (show b < w2.heap.size + 1; omega) | (show b < w.heap.size; omega)))
            have HOF := Lib.hid (own_mono (own_by O6.out (grown_all3 _ w.heap.size (.int .i64 L) (.int .i64 S) (.slice oa l.length oc)) (fun h => by have := (O6.out.lt _ h).1; omega)) (show w.heap.size ≤ w.heap.size + 1 by omega))
            clear Z z0 z1 z2 KZ KQ
            go_wp2
            refine bodyPost_ret (v := .agg #[.int .i64 L, .int .i64 S, .slice oa l.length oc]) (by simp [results, Try.results81, go_sem, Z0.out, Z1.out, Z2.out]) rfl ⟨_, _, _, l, rfl, hL, hS, (by omega), HOF.out, HCF.out.mono (by omega), HTF.out⟩
/-- What drawing seconds leaves. -/
def SecPost (B b k : Nat) (w : World) (e : Ending) (w' : World) : Prop := ∃ q : Int, e = .returned (.int .i64 q) ∧ (-1 ≤ q ∧ q ≤ 100001) ∧ Cur B b (k + 2) w' ∧ w.grownBy w' (some b)
end Go.Proofs.Ytmmjbdffpgohdaa
