/- The smallest gap: the program's and the specification's answer as one function. Condition: sizes. -/
import Derived.Test.YtmmjbdffpgohdaaCirQ
import Derived.Test.YtmmjbdffpgohdaaAppAny
import Derived.Test.YtmmjbdffpgohdaaShelfM
import Derived.Lib.Slices
namespace Go.Proofs.Ytmmjbdffpgohdaa
open Go.RowKit
set_option linter.unusedVariables false
theorem gapsTo_get {L : Int} {l : List Int} {n k : Nat} (h : k < n) : (gapsTo L l n).getD k 0 = gapAt L l k := gapsTo_at h
theorem minOf_gaps (L : Int) (l : List Int) (n : Nat) : ∀ k, k + 1 ≤ n → Lib.minOf ((gapsTo L l n).take (k + 1)) = leastTo (gapAt L l) k
  | 0, h => by rw [Lib.minOf_one, gapsTo_get (by omega)]; rfl
  | k + 1, h => by
    rw [Lib.minOf_step _ (k + 1) (by omega) (by rw [gapsTo_len]; omega), minOf_gaps L l n k (by omega), gapsTo_get (by omega)]
    simp only [leastTo]
    split <;> omega
theorem maxOf_gaps (L : Int) (l : List Int) (n : Nat) : ∀ k, k + 1 ≤ n → Lib.maxOf ((gapsTo L l n).take (k + 1)) = gapAt L l (amax (gapAt L l) k)
  | 0, h => by rw [Lib.maxOf_one, gapsTo_get (by omega)]; rfl
  | k + 1, h => by
    rw [Lib.maxOf_step _ (k + 1) (by omega) (by rw [gapsTo_len]; omega), maxOf_gaps L l n k (by omega), gapsTo_get (by omega)]
    simp only [amax]
    split <;> omega
theorem amax_first (f : Nat → Int) : ∀ {k j : Nat}, j < amax f k → f j < f (amax f k)
  | 0, j, h => by simp [amax] at h
  | k + 1, j, h => by
    simp only [amax] at h ⊢
    by_cases hc : f (amax f k) < f (k + 1)
    · rw [if_pos hc] at h ⊢
      have h1 := amax_most f (k := k) (j := j) (by omega)
      omega
    · rw [if_neg hc] at h ⊢
      exact amax_first f h
theorem idxOf_gaps {L : Int} {l : List Int} {n : Nat} (h : 0 < n) : Lib.idxOf ((gapsTo L l n).take n) (gapAt L l (amax (gapAt L l) (n - 1))) = ((amax (gapAt L l) (n - 1) : Nat) : Int) := by
  have h1 := amax_le (gapAt L l) (n - 1)
  exact Lib.idxOf_hit (gapsTo L l n) n (amax (gapAt L l) (n - 1)) _ (by omega) (by rw [gapsTo_len]; exact Nat.le_refl _) (gapsTo_get (by omega)) (fun j hj => by
    rw [gapsTo_get (by omega)]
    have := amax_first (gapAt L l) hj
    omega)
theorem leastTo_range {L : Int} {l : List Int} (h : riseN l 0 (L - 1) l.length = true) {k : Nat} (hk : k < l.length) : 1 ≤ leastTo (gapAt L l) k ∧ leastTo (gapAt L l) k ≤ L := by
  obtain ⟨j, hj, e⟩ := leastTo_some (gapAt L l) k
  have := gap_bd h (i := j) (by omega)
  omega
def sgOk (L S : Int) (l : List Int) : Bool := cirV L S l && decide (0 < l.length)
def sgV (L S : Int) (l : List Int) : Int := if sgOk L S l then leastTo (gapAt L l) (l.length - 1) else 0
theorem sg_no {L S : Int} {l : List Int} (h : sgOk L S l = false) : sgV L S l = 0 := by simp [sgV, h]
theorem sg_yes {L S : Int} {l : List Int} (h : sgOk L S l = true) : sgV L S l = leastTo (gapAt L l) (l.length - 1) := by simp [sgV, h]
theorem ret_iv {x y : Int} {a b : Bool} (g : x = y) (h : a = b) : Ending.returned (.tuple #[.int .i64 x, .bool a]) = .returned (.tuple #[.int .i64 y, .bool b]) := by rw [g, h]
theorem own_cells8 {w : World} {B g ca n : Nat} {T : TypeId} {l : List Int} (h : w.ownsRow B T 1 (.slice (some ⟨g, 0, none⟩) n ca) n (intVs l)) : ∀ j, j < l.length → w.cell? ⟨g, 0 + j, none⟩ = some (.int .i64 (l.getD j 0)) := by
  intro j hj
  have hl : (intVs l).length = l.length := by simp [intVs]
  have h1 := h.1
  rw [Nat.zero_add]
  exact (h.cellAt j (by omega)).trans (int_at hj)
set_option maxHeartbeats 2000000 in
theorem implSmallestGap_c (L S : Int) (v : Value) (l : List Int) (w : World) (hr : Rd w v (intVs l)) (hn : l.length ≤ 1048576) :
    Calls Try.prog 46 #[.agg #[.int .i64 L, .int .i64 S, v]] w fun e w' => e = .returned (.tuple #[.int .i64 (sgV L S l), .bool (sgOk L S l)]) ∧ Below w.heap.size w w' := by
  have HR := Lib.hid hr
  obtain ⟨a, ca, rfl⟩ := hr.isl
  clear hr
  have E0 := Lib.hid (fun W v h => implGapsOf_c L S v l W h hn)
  have HB := Lib.hid ((Below.refl w.heap.size w).alloc (Nat.le_refl _) (.cells #[.int .i64 L, .int .i64 S, .slice a l.length ca] 55))
  have hd : sgOk L S l = (cirV L S l && decide (0 < l.length)) := rfl
  by_cases hp : cirV L S l = true ∧ 0 < l.length
  · obtain ⟨hk, h0⟩ := hp
    have HD : Hid (sgOk L S l = true) := Lib.hid (by rw [hd, hk]; simp; exact h0)
    have HV := Lib.hid (sg_yes HD.out)
    have HG := Lib.hid ((gp_yes hk).trans (by rfl : gapsL L l = gapsTo L l l.length))
    have h12 := (cirV_parts hk).2.2.2
    rw [HG.out, gapsTo_len, hk] at E0
    have HM := Lib.hid (minOf_gaps L l l.length (l.length - 1) (by omega))
    rw [show l.length - 1 + 1 = l.length by omega] at HM
    have hgl := gapsTo_len L l l.length
    generalize leastTo (gapAt L l) (l.length - 1) = M at *
    clear hk hd
    go_enter Try.func46, Try.ntmps46
    go_wp2_with fail
    refine (E0.out _ _ (HR.out.below HB.out rfl)).mono ?_
    rintro e w1 ⟨g, rfl, o1, b1⟩
    have HT := Lib.hid (HB.out.trans (b1.mono HB.out.size))
    rcases own_form o1 with ⟨hz, rfl⟩ | ⟨g, gc, rfl, hBg, hgw, hnc, hcm⟩
    · exact absurd hz (by omega)
    · have HC := Lib.hid (own_cells8 o1)
      clear o1 b1
      have t1 : ((l.length : Int) == 0) = false := by rw [beq_eq_false_iff_ne]; omega
      go_wp2_with fail
      refine (Try.slices_Min_int g 0 l.length gc (gapsTo L l l.length) _ h0 (by omega) (by omega) HC.out).mono ?_
      rintro e w2 ⟨rfl, rfl⟩
      go_wp2
      go_ret2
      exact ⟨ret_iv (by rw [HV.out, HM.out]) HD.out.symm, HT.out⟩
  · have HD : Hid (sgOk L S l = false) := Lib.hid (by rw [hd, Bool.and_eq_false_iff]; by_cases h : cirV L S l = true <;> simp_all)
    have HV := Lib.hid (sg_no HD.out)
    have HG : Hid ((gpR L S l).length = 0) := Lib.hid (by
      cases hk : cirV L S l with
      | false => rw [gp_no hk]; rfl
      | true =>
        have := gpR_len L S l
        by_cases h : 0 < l.length
        · exact absurd ⟨hk, h⟩ hp
        · omega)
    generalize hR : gpR L S l = R at *
    obtain rfl := List.eq_nil_of_length_eq_zero HG.out
    generalize cirV L S l = K at *
    clear hp hd hR
    go_enter Try.func46, Try.ntmps46
    go_wp2_with fail
    refine (E0.out _ _ (HR.out.below HB.out rfl)).mono ?_
    rintro e w1 ⟨g, rfl, o1, b1⟩
    have HT := Lib.hid (HB.out.trans (b1.mono HB.out.size))
    obtain ⟨x, c, rfl⟩ := (Rs.of_own o1).shape
    clear o1 b1
    simp only [List.length_nil]
    go_wp2
    go_ret2
    exact ⟨ret_iv HV.out.symm HD.out.symm, HT.out⟩
theorem l1LeastV (a b : Int) (w : World) :
    Calls Try.prog 79 #[.int .i64 a, .int .i64 b] w fun e w' => e = .returned (.int .i64 (if a < b then a else b)) ∧ w' = w := by
  by_cases h : a < b
  · rw [if_pos h]
    go_enter Try.func79, Try.ntmps79
    go_wp2
    go_ret
    exact ⟨rfl, rfl⟩
  · rw [if_neg h]
    go_enter Try.func79, Try.ntmps79
    go_wp2
    go_ret
    exact ⟨rfl, rfl⟩
theorem l1MostV (a b : Int) (w : World) :
    Calls Try.prog 70 #[.int .i64 a, .int .i64 b] w fun e w' => e = .returned (.int .i64 (max a b)) ∧ w' = w := by
  by_cases h : b < a
  · rw [show max a b = a by omega]
    go_enter Try.func70, Try.ntmps70
    go_wp2
    go_ret
    exact ⟨rfl, rfl⟩
  · rw [show max a b = b by omega]
    go_enter Try.func70, Try.ntmps70
    go_wp2
    go_ret
    exact ⟨rfl, rfl⟩
set_option maxHeartbeats 2000000 in
theorem l8Smallest_c (L S : Int) (v : Value) (l : List Int) (w : World) (hr : Rd w v (intVs l)) (hV : cirV L S l = true) (h0 : 0 < l.length) :
    Calls Try.prog 89 #[.agg #[.int .i64 L, .int .i64 S, v]] w fun e w' => e = .returned (.int .i64 (leastTo (gapAt L l) (l.length - 1))) ∧ Below w.heap.size w w' := by
  have HR := Lib.hid hr
  obtain ⟨a, ca, rfl⟩ := hr.isl
  clear hr
  have HB := Lib.hid ((Below.refl w.heap.size w).alloc (Nat.le_refl _) (.cells #[.int .i64 L, .int .i64 S, .slice a l.length ca] 55))
  have HV := Lib.hid hV
  have h12 := (cirV_parts hV).2.2.2
  have hgl := gapsL_len L l
  clear hV
  go_enter Try.func89, Try.ntmps89
  go_wp2_with fail
  refine (l8Gaps_c L S _ l _ (HR.out.below HB.out rfl) HV.out).mono ?_
  rintro e w1 ⟨g, rfl, o1, b1⟩
  have HT := Lib.hid (HB.out.trans (b1.mono HB.out.size))
  rcases own_form o1 with ⟨hz, rfl⟩ | ⟨g, gc, rfl, hBg, hgw, hnc, hcm⟩
  · exact absurd hz (by omega)
  · have HC : Hid (∀ j, j < l.length → w1.cell? ⟨g, j, none⟩ = some (.int .i64 (gapAt L l j))) := Lib.hid (fun j hj => by
      have h := own_cells8 o1 j (by omega)
      rw [Nat.zero_add] at h
      rw [h]
      unfold gapsL
      rw [gapsTo_get hj])
    clear o1 b1
    have f0 := HC.out 0 h0
    have HG0 : Hid (leastTo (gapAt L l) 0 = gapAt L l 0) := Lib.hid rfl
    generalize gapAt L l 0 = F at *
    go_wp2
    go_loopw [4, 5] (fun m i wr => ∃ k : Nat, k + 1 ≤ l.length ∧ i = .int .i64 ((k : Int) + 1) ∧ m = .int .i64 (leastTo (gapAt L l) k) ∧ wr = w1) (fun _ i _ => l.length - (intOf i).toNat)
    case atStart => exact ⟨0, by omega, rfl, by rw [HG0.out], rfl⟩
    case round =>
      obtain ⟨k, hk, rfl, rfl, rfl⟩ := hrel
      by_cases hlt : k + 1 < l.length
      · have e0 := HC.out (k + 1) hlt
        have HS : Hid (leastTo (gapAt L l) (k + 1) = if leastTo (gapAt L l) k < gapAt L l (k + 1) then leastTo (gapAt L l) k else gapAt L l (k + 1)) := Lib.hid rfl
        generalize leastTo (gapAt L l) k = M at *
        generalize gapAt L l (k + 1) = Z at *
        have t1 : decide ((k : Int) + 1 < (l.length : Int)) = true := by simp; omega
        have hxi : (k : Int) + 1 < (l.length : Int) := by omega
        have p3 : ((k : Int) + 1).toNat = k + 1 := by omega
        have p4 : (0 : Int) ≤ (k : Int) + 1 := by omega
        have HW : Hid (leastTo (gapAt L l) (k + 1) = (if M < Z then M else Z)) := HS
        go_wp2_with fail
        refine (l1LeastV M Z _).mono ?_
        rintro e w2 ⟨rfl, rfl⟩
        rw [← HW.out]
        go_wp2
        go_roundw
        case rel => exact ⟨k + 1, by omega, by go_num, (by first | rfl | trivial), (by first | rfl | trivial)⟩
        case measure => simp [intOf]; omega
      · obtain rfl : k = l.length - 1 := by omega
        have t1 : decide (((l.length - 1 : Nat) : Int) + 1 < (l.length : Int)) = false := by simp; omega
        go_wp2
        go_ret
        exact ⟨rfl, HT.out⟩
set_option maxHeartbeats 2000000 in
theorem specSmallestGap_c (L S : Int) (v : Value) (l : List Int) (w : World) (hr : Rd w v (intVs l)) (hn : l.length ≤ 1048576) :
    Calls Try.prog 54 #[.agg #[.int .i64 L, .int .i64 S, v]] w fun e w' => e = .returned (.tuple #[.int .i64 (sgV L S l), .bool (sgOk L S l)]) ∧ Below w.heap.size w w' := by
  have HR := Lib.hid hr
  obtain ⟨a, ca, rfl⟩ := hr.isl
  clear hr
  have E0 := Lib.hid (fun W v h => l8Good_c L S v l W h hn)
  have HB := Lib.hid ((Below.refl w.heap.size w).alloc (Nat.le_refl _) (.cells #[.int .i64 L, .int .i64 S, .slice a l.length ca] 55))
  have HB0 := Lib.hid (blk_new3 w (.int .i64 L) (.int .i64 S) (.slice a l.length ca) 55)
  have hd : sgOk L S l = (cirV L S l && decide (0 < l.length)) := rfl
  cases hk : cirV L S l with
  | false =>
    rw [hk] at E0 hd
    have HD : Hid (sgOk L S l = false) := Lib.hid (by rw [hd]; rfl)
    have HV := Lib.hid (sg_no HD.out)
    clear hk hd
    go_enter Try.func54, Try.ntmps54
    go_wp2_with fail
    refine (E0.out _ _ (HR.out.below HB.out rfl)).mono ?_
    rintro e w1 ⟨rfl, b1⟩
    have HT := Lib.hid (HB.out.trans (b1.mono HB.out.size))
    clear b1
    go_wp2
    go_ret2
    exact ⟨ret_iv HV.out.symm HD.out.symm, HT.out⟩
  | true =>
    by_cases h0 : 0 < l.length
    · have HD : Hid (sgOk L S l = true) := Lib.hid (by rw [hd, hk]; simp; exact h0)
      have HV := Lib.hid (sg_yes HD.out)
      have h12 := (cirV_parts hk).2.2.2
      have E2 := Lib.hid (fun W v h => l8Smallest_c L S v l W h hk h0)
      rw [hk] at E0
      generalize leastTo (gapAt L l) (l.length - 1) = M at *
      have t1 : ((l.length : Int) == 0) = false := by rw [beq_eq_false_iff_ne]; omega
      have t2 : (l.length == 0) = false := by rw [beq_eq_false_iff_ne]; omega
      clear hk hd
      go_enter Try.func54, Try.ntmps54
      go_wp2_with fail
      refine (E0.out _ _ (HR.out.below HB.out rfl)).mono ?_
      rintro e w1 ⟨rfl, b1⟩
      have HT := Lib.hid (HB.out.trans (b1.mono HB.out.size))
      obtain ⟨c0, c1, c2⟩ := blk_cell3 (blk_keep HB0.out b1 (by simp))
      clear b1
      go_wp2_with fail
      refine (E2.out _ _ (HR.out.below HT.out rfl)).mono ?_
      rintro e w2 ⟨rfl, b2⟩
      have HT2 := Lib.hid (HT.out.trans (b2.mono HT.out.size))
      clear b2 c0 c1 c2
      go_wp2
      go_ret2
      exact ⟨ret_iv HV.out.symm HD.out.symm, HT2.out⟩
    · have HD : Hid (sgOk L S l = false) := Lib.hid (by rw [hd, decide_eq_false h0, Bool.and_false])
      have HV := Lib.hid (sg_no HD.out)
      rw [hk] at E0
      have t1 : ((l.length : Int) == 0) = true := by rw [beq_iff_eq]; omega
      have t2 : (l.length == 0) = true := by rw [beq_iff_eq]; omega
      clear hk hd
      go_enter Try.func54, Try.ntmps54
      go_wp2_with fail
      refine (E0.out _ _ (HR.out.below HB.out rfl)).mono ?_
      rintro e w1 ⟨rfl, b1⟩
      have HT := Lib.hid (HB.out.trans (b1.mono HB.out.size))
      obtain ⟨c0, c1, c2⟩ := blk_cell3 (blk_keep HB0.out b1 (by simp))
      clear b1
      go_wp2
      go_ret2
      exact ⟨ret_iv HV.out.symm HD.out.symm, HT.out⟩
end Go.Proofs.Ytmmjbdffpgohdaa
