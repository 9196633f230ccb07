/- EvenStarts: the program's and the specification's answer as one function. Condition: sizes. -/
import Derived.Test.YtmmjbdffpgohdaaCirR
import Derived.Deep.RegionHeld3
import Derived.Deep.AppendLies
import Derived.Deep.RegionLaw
namespace Go.Proofs.Ytmmjbdffpgohdaa
open Go.RowKit
set_option linter.unusedVariables false
/-- where the cabin with the number k starts, as the machine reckons it -/
def evAt (L : Int) (m k : Nat) : Int := IntKind.i64.wrap (Int.tdiv (IntKind.i64.wrap ((k : Int) * L)) m)
def evTo (L : Int) (n : Int) (j : Nat) : List Int := (List.range j).map (evAt L n.toNat)
theorem evTo_len (L n : Int) (j : Nat) : (evTo L n j).length = j := by simp [evTo]
theorem evTo_succ (L : Int) (m k : Nat) : evTo L m (k + 1) = evTo L m k ++ [evAt L m k] := by simp [evTo, List.range_succ]
def evOk (L S n : Int) : Bool := inR n 0 12 && cirV L S (evTo L n n.toNat)
def evX (L S n : Int) : Int := if evOk L S n then L else 0
def evY (L S n : Int) : Int := if evOk L S n then S else 0
def evR (L S n : Int) : List Int := if evOk L S n then evTo L n n.toNat else []
theorem ev_no {L S n : Int} (h : evOk L S n = false) : evX L S n = 0 ∧ evY L S n = 0 ∧ evR L S n = [] := by simp [evX, evY, evR, h]
theorem ev_yes {L S n : Int} (h : evOk L S n = true) : evX L S n = L ∧ evY L S n = S ∧ evR L S n = evTo L n n.toNat := by simp [evX, evY, evR, h]
theorem evR_len (L S n : Int) : (evR L S n).length ≤ 12 := by
  unfold evR
  split
  · rename_i h
    unfold evOk at h
    simp only [Bool.and_eq_true, inR_iff] at h
    rw [evTo_len]
    omega
  · simp
set_option maxRecDepth 100000 in
set_option maxHeartbeats 4000000 in
theorem implEvenStarts_c (L S n : Int) (w : World) (hwL : (Lit.int .i64 L).wf = true) (hwS : (Lit.int .i64 S).wf = true) (hwn : (Lit.int .i64 n).wf = true) :
    Calls Try.prog 51 #[.int .i64 L, .int .i64 S, .int .i64 n] w (CirR w (evX L S n) (evY L S n) (evR L S n) (evOk L S n)) := by
  obtain ⟨i0, hi, hz0, hz1, hz2⟩ := info_parts Try.infoInt8
  have E1 := Lib.hid (fun W => within_c n 0 12 W)
  have HB := Lib.hid ((Below.refl w.heap.size w).alloc (Nat.le_refl _) (.cells #[.int .i64 0, .int .i64 0, .slice none 0 0] 55))
  have HB0 := Lib.hid (blk_new3 w (.int .i64 0) (.int .i64 0) (.slice none 0 0) 55)
  have hd : evOk L S n = (inR n 0 12 && cirV L S (evTo L n n.toNat)) := rfl
  clear hwL hwS hwn
  cases hm : inR n 0 12 with
  | false =>
    rw [hm] at E1 hd
    have HD : Hid (evOk L S n = false) := Lib.hid (by rw [hd]; rfl)
    have HN := Lib.hid (ev_no HD.out)
    clear hm hd
    go_enter Try.func51, Try.ntmps51
    go_wp2_with fail
    refine (E1.out _).mono ?_
    rintro e w1 ⟨rfl, rfl⟩
    generalize hW : w.alloc (.cells #[.int .i64 0, .int .i64 0, .slice none 0 0] 55) = Y at *
    clear hW
    have KZ := HB0.out
    obtain ⟨r0, r1, r2⟩ := blk_cell3 KZ
    obtain ⟨s0, s1, s2⟩ := blk_froz3 KZ
    have Z := blk_all3 (x := .int .i64 0) (y := .int .i64 0) (z := .slice none 0 0) KZ
    obtain ⟨z0, z1, z2⟩ := blk_cell3 Z
    have Z0 := Lib.hid z0
    have Z1 := Lib.hid z1
    have Z2 := Lib.hid z2
    have HTF := Lib.hid (below_all3 HB.out (b := w.heap.size) (by omega) (.int .i64 0) (.int .i64 0) (.slice none 0 0))
    clear Z z0 z1 z2 KZ
    go_wp2
    refine bodyPost_ret (v := .tuple #[.agg #[.int .i64 0, .int .i64 0, .slice none 0 0], .bool false]) (by simp [results, Try.results51, go_sem, Z0.out, Z1.out, Z2.out]) rfl (cirR_no HN.out HD.out HTF.out)
  | true =>
    have hnb := (inR_iff n 0 12).1 hm
    obtain ⟨m, rfl⟩ : ∃ m : Nat, n = m := ⟨n.toNat, by omega⟩
    rw [Int.toNat_natCast] at hd
    rw [hm] at E1 hd
    have hbw := ((Below.refl w.heap.size w).alloc (Nat.le_refl _) (.cells #[.int .i64 0, .int .i64 0, .slice none 0 0] 55)).alloc (by simp) (.cells #[] 3)
    have hbw2 := hbw.alloc (by simp; omega) (.cells #[.int .i64 L, .int .i64 S, .slice (some ⟨w.heap.size + 1, 0, none⟩) 0 0] 55)
    have hk0 := blk_stay (o' := .cells #[.int .i64 L, .int .i64 S, .slice (some ⟨w.heap.size + 1, 0, none⟩) 0 0] 55) (blk_stay (o' := .cells #[] 3) HB0.out)
    have hk8 := blk_new3 ((w.alloc (.cells #[.int .i64 0, .int .i64 0, .slice none 0 0] 55)).alloc (.cells #[] 3)) (.int .i64 L) (.int .i64 S) (.slice (some ⟨w.heap.size + 1, 0, none⟩) 0 0) 55
    have ho := (World.ownsRow_made (w.alloc (.cells #[.int .i64 0, .int .i64 0, .slice none 0 0] 55)) #[] 0 (base := w.heap.size + 1) (e := 3) (size := 1) (by simp) (by decide) rfl).alloc (.cells #[.int .i64 L, .int .i64 S, .slice (some ⟨w.heap.size + 1, 0, none⟩) 0 0] 55)
    simp only [World.size_alloc] at hk8 ho
    have HK0 := Lib.hid hk0
    have HK8 := Lib.hid hk8
    have HO := Lib.hid ho
    have HBW := Lib.hid hbw2
    clear hbw hbw2 hk0 hk8 ho hm
    go_enter Try.func51, Try.ntmps51
    go_wp2_with fail
    refine (E1.out _).mono ?_
    rintro e w1 ⟨rfl, rfl⟩
    go_wp2
    generalize hW : ((w.alloc (.cells #[.int .i64 0, .int .i64 0, .slice none 0 0] 55)).alloc (.cells #[] 3)).alloc (.cells #[.int .i64 L, .int .i64 S, .slice (some ⟨w.heap.size + 1, 0, none⟩) 0 0] 55) = Y at *
    have hsY : Y.heap.size = w.heap.size + 3 := by rw [← hW]; simp
    clear hW
    go_loopw [19] (fun i wr => ∃ (k : Nat) (o : Value), k ≤ m ∧ i = .int .i64 k ∧ wr.ownsRow (w.heap.size + 1) 3 1 o k (intVs (evTo L m k)) ∧ Hid (o.ownBlock ≠ some (w.heap.size + 1 + 1)) ∧ Hid (Below w.heap.size w wr) ∧ Hid (wr.heap[w.heap.size]? = some (.cells #[.int .i64 0, .int .i64 0, .slice none 0 0] 55 (0, 0))) ∧ Hid (wr.heap[w.heap.size + 1 + 1]? = some (.cells #[.int .i64 L, .int .i64 S, o] 55 (0, 0)))) (fun i _ => m - (intOf i).toNat)
    case atStart => exact ⟨0, _, by omega, rfl, HO.out, Lib.hid (by simp [Value.ownBlock]), HBW, HK0, HK8⟩
    case round =>
      obtain ⟨k, o, hk, rfl, hown, hne, hbel, K0, K8⟩ := hrel
      have hbs := hbel.out.size
      have hl8 := blk_lt K8.out
      obtain ⟨c0, c1, c2⟩ := blk_cell3 K8.out
      have HOW := Lib.hid hown
      obtain ⟨oa, oc, rfl⟩ := (Rs.of_own hown).shape
      clear hown
      by_cases hlt : k < m
      · have HS := Lib.hid (evTo_succ L m k)
        have hV : evAt L m k = IntKind.i64.wrap (Int.tdiv (IntKind.i64.wrap ((k : Int) * L)) m) := rfl
        obtain ⟨A, q1⟩ : ∃ A, IntKind.i64.wrap ((k : Int) * L) = A := ⟨_, rfl⟩
        rw [q1] at hV
        obtain ⟨D, q2⟩ : ∃ D, Int.tdiv A (m : Int) = D := ⟨_, rfl⟩
        rw [q2] at hV
        have q3 : IntKind.i64.wrap D = evAt L m k := hV.symm
        generalize evAt L m k = V at *
        clear hV
        have q4 : ((m : Int) == 0) = false := by rw [beq_eq_false_iff_ne]; omega
        have q5 : ¬ ((m : Int) = 0) := by omega
        have q6 : (m == 0) = false := by rw [beq_eq_false_iff_ne]; omega
        have q7 : ¬ (m = 0) := by omega
        obtain ⟨e0, e1, e2⟩ := blk_cell3 (blk_stay (o' := .cells #[.int .i64 V] 3) K8.out)
        have hsv : IntKind.i64.wrap ((k : Int) * L) = A := q1
        go_wp2_with fail
        go_region_law ((refine step_append_lies _ (by rfl) _ _ _ (by rfl) (w.heap.size + 1) 3 i0 (.int .i64 0) 1 8 Try.underlying49 hi hz0 hz1 hz2 rfl (by omega) (.slice oa k oc) k (intVs (evTo L m k)) (by rfl) ((HOW.out.alloc _).drew) ⟨wr.heap.size, 0, none⟩ 1 1 [.int .i64 V] (by rfl) (by rfl) (World.news_of_block (cs := #[.int .i64 V]) (t := 3) (fr := (0, 0)) (heap_alloc_new wr _)) (by simp [Value.oneCell']) (by omega) (by unfold maxLen; omega) (by omega) (by simp; omega) (wr.heap.size + 1) (by simp) ?_; intro gg cap w1 hown1 hgrow hat hlt1; have KG := (hgrow.block (w.heap.size + 1 + 1) (by simp; omega) (fun e => hne.out e.symm)).trans (blk_stay (o' := .cells #[.int .i64 V] 3) K8.out); obtain ⟨g0, g1, g2⟩ := blk_cell3 KG; obtain ⟨f0, f1, f2⟩ := blk_froz3 KG))
        all_goals (
          have hgn : gg ≠ w.heap.size + 1 + 1 := by
            rcases hat with h | h
            · intro e; exact hne.out (by rw [h, e])
            · omega
          have KZ8 := blk_put (i := 2) (v := .slice (some ⟨gg, 0, none⟩) (k + 1) cap) KG
          have KZ0 := (blk_by (w := w1) (b := w.heap.size + 1 + 1) (i := 2) (v := .slice (some ⟨gg, 0, none⟩) (k + 1) cap) (by omega)).trans ((hgrow.block w.heap.size (by simp; omega) (fun e => by have := (HOW.out.lt _ e.symm).1; omega)).trans (blk_stay (o' := .cells #[.int .i64 V] 3) K0.out))
          have HO2 := Lib.hid (own_by (b := w.heap.size + 1 + 1) hown1 (grown_put w1 ⟨w.heap.size + 1 + 1, 2, none⟩ (.slice (some ⟨gg, 0, none⟩) (k + 1) cap)) (fun h => by simp [Value.ownBlock] at h; omega))
          have HBN := Lib.hid ((((hbel.out.alloc hbs (.cells #[.int .i64 V] 3)).drew).grown hgrow (by simp; omega) (fun j hj => by have := (HOW.out.lt j hj).1; omega)).setCell (p := ⟨w.heap.size + 1 + 1, 2, none⟩) (by show w.heap.size ≤ w.heap.size + 1 + 1; omega) (.slice (some ⟨gg, 0, none⟩) (k + 1) cap))
          have HZ8 : Hid ((w1.setCell ⟨w.heap.size + 1 + 1, 2, none⟩ (.slice (some ⟨gg, 0, none⟩) (k + 1) cap)).heap[w.heap.size + 1 + 1]? = some (.cells #[.int .i64 L, .int .i64 S, .slice (some ⟨gg, 0, none⟩) (k + 1) cap] 55 (0, 0))) := Lib.hid (by simpa using KZ8)
          have HZ0 := Lib.hid KZ0
          have HGN : Hid ((Value.slice (some ⟨gg, 0, none⟩) (k + 1) cap).ownBlock ≠ some (w.heap.size + 1 + 1)) := Lib.hid (fun h => by simp [Value.ownBlock] at h; omega)
          clear KZ8 KZ0 hown1 hgrow KG g0 g1 g2 f0 f1 f2 e0 e1 e2 c0 c1 c2)
        all_goals go_wp2
        all_goals go_roundw
        all_goals (first
          | (case rel => exact ⟨k + 1, _, by omega, by go_num, by rw [HS.out, iv_snoc]; exact HO2.out, HGN, HBN, HZ0, HZ8⟩)
          | skip)
        all_goals (first | (case measure => simp [intOf]; omega) | skip)
        all_goals (first
          | (case rel => exact ⟨k + 1, _, by omega, by go_num, by rw [HS.out, iv_snoc]; exact HO2.out, HGN, HBN, HZ0, HZ8⟩)
          | skip)
        all_goals (first | (case measure => simp [intOf]; omega) | skip)
      · obtain rfl : k = m := by omega
        have hRD := Rd.of_own HOW.out
        have HLN : Hid ((evTo L k k).length = k) := Lib.hid (evTo_len L k k)
        have E0 := Lib.hid (fun W h => implIsCircle_c L S (.slice oa k oc) (evTo L k k) W h (by rw [HLN.out]; omega))
        have HDD := Lib.hid hd
        cases hv : cirV L S (evTo L k k) with
        | false =>
          rw [hv] at E0
          have HD : Hid (evOk L S k = false) := Lib.hid (by rw [HDD.out, hv]; rfl)
          have HN := Lib.hid (ev_no HD.out)
          clear hv hd
          go_wp2_with fail
          refine (E0.out _ hRD).mono ?_
          rintro e w1 ⟨rfl, b1⟩
          have HT1 := Lib.hid (hbel.out.trans (b1.mono hbs))
          have HK1 := Lib.hid (blk_keep K0.out b1 (blk_lt K0.out))
          clear b1 c0 c1 c2
          have KZ := HK1.out
          obtain ⟨r0, r1, r2⟩ := blk_cell3 KZ
          obtain ⟨s0, s1, s2⟩ := blk_froz3 KZ
          have Z := blk_all3 (x := .int .i64 0) (y := .int .i64 0) (z := .slice none 0 0) KZ
          obtain ⟨z0, z1, z2⟩ := blk_cell3 Z
          have Z0 := Lib.hid z0
          have Z1 := Lib.hid z1
          have Z2 := Lib.hid z2
          have HTF := Lib.hid (below_all3 HT1.out (b := w.heap.size) (by omega) (.int .i64 0) (.int .i64 0) (.slice none 0 0))
          clear Z z0 z1 z2 KZ
          go_wp2
          refine bodyPost_ret (v := .tuple #[.agg #[.int .i64 0, .int .i64 0, .slice none 0 0], .bool false]) (by simp [results, Try.results51, go_sem, Z0.out, Z1.out, Z2.out]) rfl (cirR_no HN.out HD.out HTF.out)
        | true =>
          rw [hv] at E0
          have HD : Hid (evOk L S k = true) := Lib.hid (by rw [HDD.out, hv]; rfl)
          have HY := Lib.hid (ev_yes HD.out)
          rw [Int.toNat_natCast] at HY
          clear hv hd
          go_wp2_with fail
          refine (E0.out _ hRD).mono ?_
          rintro e w1 ⟨rfl, b1⟩
          have HT1 := Lib.hid (hbel.out.trans (b1.mono hbs))
          have HK1 := Lib.hid (blk_keep K0.out b1 (blk_lt K0.out))
          have HO1 := Lib.hid (own_by (b := w.heap.size) (own_mono (owns_below HOW.out b1) (show w.heap.size ≤ w.heap.size + 1 by omega)) (grown_all3 w1 w.heap.size (.int .i64 L) (.int .i64 S) (.slice oa k oc)) (fun h => by have := (HOW.out.lt _ h).1; omega))
          obtain ⟨d0, d1, d2⟩ := blk_cell3 (blk_keep K8.out b1 hl8)
          clear b1 c0 c1 c2
          have KZ := HK1.out
          obtain ⟨r0, r1, r2⟩ := blk_cell3 KZ
          obtain ⟨s0, s1, s2⟩ := blk_froz3 KZ
          have Z := blk_all3 (x := .int .i64 L) (y := .int .i64 S) (z := .slice oa k oc) KZ
          obtain ⟨z0, z1, z2⟩ := blk_cell3 Z
          have Z0 := Lib.hid z0
          have Z1 := Lib.hid z1
          have Z2 := Lib.hid z2
          have HTF := Lib.hid (below_all3 HT1.out (b := w.heap.size) (by omega) (.int .i64 L) (.int .i64 S) (.slice oa k oc))
          clear Z z0 z1 z2 KZ
          go_wp2
          refine bodyPost_ret (v := .tuple #[.agg #[.int .i64 L, .int .i64 S, .slice oa k oc], .bool true]) (by simp [results, Try.results51, go_sem, Z0.out, Z1.out, Z2.out]) rfl (⟨_, by rw [HY.out.1, HY.out.2.1, HD.out], by rw [HY.out.2.2, HLN.out]; exact HO1.out, HTF.out⟩)
set_option maxRecDepth 100000 in
set_option maxHeartbeats 4000000 in
theorem specEvenStarts_c (L S n : Int) (w : World) (hwL : (Lit.int .i64 L).wf = true) (hwS : (Lit.int .i64 S).wf = true) (hwn : (Lit.int .i64 n).wf = true) :
    Calls Try.prog 52 #[.int .i64 L, .int .i64 S, .int .i64 n] w (CirR w (evX L S n) (evY L S n) (evR L S n) (evOk L S n)) := by
  obtain ⟨i0, hi, hz0, hz1, hz2⟩ := info_parts Try.infoInt8
  have E1 := Lib.hid (fun W => l1In_c n 0 12 W)
  have HB := Lib.hid ((Below.refl w.heap.size w).alloc (Nat.le_refl _) (.cells #[.int .i64 0, .int .i64 0, .slice none 0 0] 55))
  have HB0 := Lib.hid (blk_new3 w (.int .i64 0) (.int .i64 0) (.slice none 0 0) 55)
  have hd : evOk L S n = (inR n 0 12 && cirV L S (evTo L n n.toNat)) := rfl
  clear hwL hwS hwn
  cases hm : inR n 0 12 with
  | false =>
    rw [hm] at E1 hd
    have HD : Hid (evOk L S n = false) := Lib.hid (by rw [hd]; rfl)
    have HN := Lib.hid (ev_no HD.out)
    clear hm hd
    go_enter Try.func52, Try.ntmps52
    go_wp2_with fail
    refine (E1.out _).mono ?_
    rintro e w1 ⟨rfl, rfl⟩
    generalize hW : w.alloc (.cells #[.int .i64 0, .int .i64 0, .slice none 0 0] 55) = Y at *
    clear hW
    have KZ := HB0.out
    obtain ⟨r0, r1, r2⟩ := blk_cell3 KZ
    obtain ⟨s0, s1, s2⟩ := blk_froz3 KZ
    have Z := blk_all3 (x := .int .i64 0) (y := .int .i64 0) (z := .slice none 0 0) KZ
    obtain ⟨z0, z1, z2⟩ := blk_cell3 Z
    have Z0 := Lib.hid z0
    have Z1 := Lib.hid z1
    have Z2 := Lib.hid z2
    have HTF := Lib.hid (below_all3 HB.out (b := w.heap.size) (by omega) (.int .i64 0) (.int .i64 0) (.slice none 0 0))
    clear Z z0 z1 z2 KZ
    go_wp2
    refine bodyPost_ret (v := .tuple #[.agg #[.int .i64 0, .int .i64 0, .slice none 0 0], .bool false]) (by simp [results, Try.results52, go_sem, Z0.out, Z1.out, Z2.out]) rfl (cirR_no HN.out HD.out HTF.out)
  | true =>
    have hnb := (inR_iff n 0 12).1 hm
    obtain ⟨m, rfl⟩ : ∃ m : Nat, n = m := ⟨n.toNat, by omega⟩
    rw [Int.toNat_natCast] at hd
    rw [hm] at E1 hd
    have hbw := ((Below.refl w.heap.size w).alloc (Nat.le_refl _) (.cells #[.int .i64 0, .int .i64 0, .slice none 0 0] 55)).alloc (by simp) (.cells #[] 3)
    have hbw2 := hbw.alloc (by simp; omega) (.cells #[.int .i64 L, .int .i64 S, .slice (some ⟨w.heap.size + 1, 0, none⟩) 0 0] 55)
    have hk0 := blk_stay (o' := .cells #[.int .i64 L, .int .i64 S, .slice (some ⟨w.heap.size + 1, 0, none⟩) 0 0] 55) (blk_stay (o' := .cells #[] 3) HB0.out)
    have hk8 := blk_new3 ((w.alloc (.cells #[.int .i64 0, .int .i64 0, .slice none 0 0] 55)).alloc (.cells #[] 3)) (.int .i64 L) (.int .i64 S) (.slice (some ⟨w.heap.size + 1, 0, none⟩) 0 0) 55
    have ho := (World.ownsRow_made (w.alloc (.cells #[.int .i64 0, .int .i64 0, .slice none 0 0] 55)) #[] 0 (base := w.heap.size + 1) (e := 3) (size := 1) (by simp) (by decide) rfl).alloc (.cells #[.int .i64 L, .int .i64 S, .slice (some ⟨w.heap.size + 1, 0, none⟩) 0 0] 55)
    simp only [World.size_alloc] at hk8 ho
    have HK0 := Lib.hid hk0
    have HK8 := Lib.hid hk8
    have HO := Lib.hid ho
    have HBW := Lib.hid hbw2
    clear hbw hbw2 hk0 hk8 ho hm
    go_enter Try.func52, Try.ntmps52
    go_wp2_with fail
    refine (E1.out _).mono ?_
    rintro e w1 ⟨rfl, rfl⟩
    go_wp2
    generalize hW : ((w.alloc (.cells #[.int .i64 0, .int .i64 0, .slice none 0 0] 55)).alloc (.cells #[] 3)).alloc (.cells #[.int .i64 L, .int .i64 S, .slice (some ⟨w.heap.size + 1, 0, none⟩) 0 0] 55) = Y at *
    have hsY : Y.heap.size = w.heap.size + 3 := by rw [← hW]; simp
    clear hW
    go_loopw [9] (fun i wr => ∃ (k : Nat) (o : Value), k ≤ m ∧ i = .int .i64 k ∧ wr.ownsRow (w.heap.size + 1) 3 1 o k (intVs (evTo L m k)) ∧ Hid (o.ownBlock ≠ some (w.heap.size + 1 + 1)) ∧ Hid (Below w.heap.size w wr) ∧ Hid (wr.heap[w.heap.size]? = some (.cells #[.int .i64 0, .int .i64 0, .slice none 0 0] 55 (0, 0))) ∧ Hid (wr.heap[w.heap.size + 1 + 1]? = some (.cells #[.int .i64 L, .int .i64 S, o] 55 (0, 0)))) (fun i _ => m - (intOf i).toNat)
    case atStart => exact ⟨0, _, by omega, rfl, HO.out, Lib.hid (by simp [Value.ownBlock]), HBW, HK0, HK8⟩
    case round =>
      obtain ⟨k, o, hk, rfl, hown, hne, hbel, K0, K8⟩ := hrel
      have hbs := hbel.out.size
      have hl8 := blk_lt K8.out
      obtain ⟨c0, c1, c2⟩ := blk_cell3 K8.out
      have HOW := Lib.hid hown
      obtain ⟨oa, oc, rfl⟩ := (Rs.of_own hown).shape
      clear hown
      by_cases hlt : k < m
      · have HS := Lib.hid (evTo_succ L m k)
        have hV : evAt L m k = IntKind.i64.wrap (Int.tdiv (IntKind.i64.wrap ((k : Int) * L)) m) := rfl
        obtain ⟨A, q1⟩ : ∃ A, IntKind.i64.wrap ((k : Int) * L) = A := ⟨_, rfl⟩
        rw [q1] at hV
        obtain ⟨D, q2⟩ : ∃ D, Int.tdiv A (m : Int) = D := ⟨_, rfl⟩
        rw [q2] at hV
        have q3 : IntKind.i64.wrap D = evAt L m k := hV.symm
        generalize evAt L m k = V at *
        clear hV
        have q4 : ((m : Int) == 0) = false := by rw [beq_eq_false_iff_ne]; omega
        have q5 : ¬ ((m : Int) = 0) := by omega
        have q6 : (m == 0) = false := by rw [beq_eq_false_iff_ne]; omega
        have q7 : ¬ (m = 0) := by omega
        obtain ⟨e0, e1, e2⟩ := blk_cell3 (blk_stay (o' := .cells #[.int .i64 V] 3) K8.out)
        have hsv : IntKind.i64.wrap ((k : Int) * L) = A := q1
        go_wp2_with fail
        go_region_law ((refine step_append_lies _ (by rfl) _ _ _ (by rfl) (w.heap.size + 1) 3 i0 (.int .i64 0) 1 8 Try.underlying49 hi hz0 hz1 hz2 rfl (by omega) (.slice oa k oc) k (intVs (evTo L m k)) (by rfl) ((HOW.out.alloc _).drew) ⟨wr.heap.size, 0, none⟩ 1 1 [.int .i64 V] (by rfl) (by rfl) (World.news_of_block (cs := #[.int .i64 V]) (t := 3) (fr := (0, 0)) (heap_alloc_new wr _)) (by simp [Value.oneCell']) (by omega) (by unfold maxLen; omega) (by omega) (by simp; omega) (wr.heap.size + 1) (by simp) ?_; intro gg cap w1 hown1 hgrow hat hlt1; have KG := (hgrow.block (w.heap.size + 1 + 1) (by simp; omega) (fun e => hne.out e.symm)).trans (blk_stay (o' := .cells #[.int .i64 V] 3) K8.out); obtain ⟨g0, g1, g2⟩ := blk_cell3 KG; obtain ⟨f0, f1, f2⟩ := blk_froz3 KG))
        all_goals (
          have hgn : gg ≠ w.heap.size + 1 + 1 := by
            rcases hat with h | h
            · intro e; exact hne.out (by rw [h, e])
            · omega
          have KZ8 := blk_put (i := 2) (v := .slice (some ⟨gg, 0, none⟩) (k + 1) cap) KG
          have KZ0 := (blk_by (w := w1) (b := w.heap.size + 1 + 1) (i := 2) (v := .slice (some ⟨gg, 0, none⟩) (k + 1) cap) (by omega)).trans ((hgrow.block w.heap.size (by simp; omega) (fun e => by have := (HOW.out.lt _ e.symm).1; omega)).trans (blk_stay (o' := .cells #[.int .i64 V] 3) K0.out))
          have HO2 := Lib.hid (own_by (b := w.heap.size + 1 + 1) hown1 (grown_put w1 ⟨w.heap.size + 1 + 1, 2, none⟩ (.slice (some ⟨gg, 0, none⟩) (k + 1) cap)) (fun h => by simp [Value.ownBlock] at h; omega))
          have HBN := Lib.hid ((((hbel.out.alloc hbs (.cells #[.int .i64 V] 3)).drew).grown hgrow (by simp; omega) (fun j hj => by have := (HOW.out.lt j hj).1; omega)).setCell (p := ⟨w.heap.size + 1 + 1, 2, none⟩) (by show w.heap.size ≤ w.heap.size + 1 + 1; omega) (.slice (some ⟨gg, 0, none⟩) (k + 1) cap))
          have HZ8 : Hid ((w1.setCell ⟨w.heap.size + 1 + 1, 2, none⟩ (.slice (some ⟨gg, 0, none⟩) (k + 1) cap)).heap[w.heap.size + 1 + 1]? = some (.cells #[.int .i64 L, .int .i64 S, .slice (some ⟨gg, 0, none⟩) (k + 1) cap] 55 (0, 0))) := Lib.hid (by simpa using KZ8)
          have HZ0 := Lib.hid KZ0
          have HGN : Hid ((Value.slice (some ⟨gg, 0, none⟩) (k + 1) cap).ownBlock ≠ some (w.heap.size + 1 + 1)) := Lib.hid (fun h => by simp [Value.ownBlock] at h; omega)
          clear KZ8 KZ0 hown1 hgrow KG g0 g1 g2 f0 f1 f2 e0 e1 e2 c0 c1 c2)
        all_goals go_wp2
        all_goals go_roundw
        all_goals (first
          | (case rel => exact ⟨k + 1, _, by omega, by go_num, by rw [HS.out, iv_snoc]; exact HO2.out, HGN, HBN, HZ0, HZ8⟩)
          | skip)
        all_goals (first | (case measure => simp [intOf]; omega) | skip)
        all_goals (first
          | (case rel => exact ⟨k + 1, _, by omega, by go_num, by rw [HS.out, iv_snoc]; exact HO2.out, HGN, HBN, HZ0, HZ8⟩)
          | skip)
        all_goals (first | (case measure => simp [intOf]; omega) | skip)
      · obtain rfl : k = m := by omega
        have hRD := Rd.of_own HOW.out
        have HLN : Hid ((evTo L k k).length = k) := Lib.hid (evTo_len L k k)
        have E0 := Lib.hid (fun W h => l8Good_c L S (.slice oa k oc) (evTo L k k) W h (by rw [HLN.out]; omega))
        have HDD := Lib.hid hd
        cases hv : cirV L S (evTo L k k) with
        | false =>
          rw [hv] at E0
          have HD : Hid (evOk L S k = false) := Lib.hid (by rw [HDD.out, hv]; rfl)
          have HN := Lib.hid (ev_no HD.out)
          clear hv hd
          go_wp2_with fail
          refine (E0.out _ hRD).mono ?_
          rintro e w1 ⟨rfl, b1⟩
          have HT1 := Lib.hid (hbel.out.trans (b1.mono hbs))
          have HK1 := Lib.hid (blk_keep K0.out b1 (blk_lt K0.out))
          clear b1 c0 c1 c2
          have KZ := HK1.out
          obtain ⟨r0, r1, r2⟩ := blk_cell3 KZ
          obtain ⟨s0, s1, s2⟩ := blk_froz3 KZ
          have Z := blk_all3 (x := .int .i64 0) (y := .int .i64 0) (z := .slice none 0 0) KZ
          obtain ⟨z0, z1, z2⟩ := blk_cell3 Z
          have Z0 := Lib.hid z0
          have Z1 := Lib.hid z1
          have Z2 := Lib.hid z2
          have HTF := Lib.hid (below_all3 HT1.out (b := w.heap.size) (by omega) (.int .i64 0) (.int .i64 0) (.slice none 0 0))
          clear Z z0 z1 z2 KZ
          go_wp2
          refine bodyPost_ret (v := .tuple #[.agg #[.int .i64 0, .int .i64 0, .slice none 0 0], .bool false]) (by simp [results, Try.results52, go_sem, Z0.out, Z1.out, Z2.out]) rfl (cirR_no HN.out HD.out HTF.out)
        | true =>
          rw [hv] at E0
          have HD : Hid (evOk L S k = true) := Lib.hid (by rw [HDD.out, hv]; rfl)
          have HY := Lib.hid (ev_yes HD.out)
          rw [Int.toNat_natCast] at HY
          clear hv hd
          go_wp2_with fail
          refine (E0.out _ hRD).mono ?_
          rintro e w1 ⟨rfl, b1⟩
          have HT1 := Lib.hid (hbel.out.trans (b1.mono hbs))
          have HK1 := Lib.hid (blk_keep K0.out b1 (blk_lt K0.out))
          have HO1 := Lib.hid (own_by (b := w.heap.size) (own_mono (owns_below HOW.out b1) (show w.heap.size ≤ w.heap.size + 1 by omega)) (grown_all3 w1 w.heap.size (.int .i64 L) (.int .i64 S) (.slice oa k oc)) (fun h => by have := (HOW.out.lt _ h).1; omega))
          obtain ⟨d0, d1, d2⟩ := blk_cell3 (blk_keep K8.out b1 hl8)
          clear b1 c0 c1 c2
          have KZ := HK1.out
          obtain ⟨r0, r1, r2⟩ := blk_cell3 KZ
          obtain ⟨s0, s1, s2⟩ := blk_froz3 KZ
          have Z := blk_all3 (x := .int .i64 L) (y := .int .i64 S) (z := .slice oa k oc) KZ
          obtain ⟨z0, z1, z2⟩ := blk_cell3 Z
          have Z0 := Lib.hid z0
          have Z1 := Lib.hid z1
          have Z2 := Lib.hid z2
          have HTF := Lib.hid (below_all3 HT1.out (b := w.heap.size) (by omega) (.int .i64 L) (.int .i64 S) (.slice oa k oc))
          clear Z z0 z1 z2 KZ
          go_wp2
          refine bodyPost_ret (v := .tuple #[.agg #[.int .i64 L, .int .i64 S, .slice oa k oc], .bool true]) (by simp [results, Try.results52, go_sem, Z0.out, Z1.out, Z2.out]) rfl (⟨_, by rw [HY.out.1, HY.out.2.1, HD.out], by rw [HY.out.2.2, HLN.out]; exact HO1.out, HTF.out⟩)
end Go.Proofs.Ytmmjbdffpgohdaa
