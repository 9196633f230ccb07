/- RoundTime and EvenStarts: the program's and the specification's answer as one function. Condition: sizes. -/
import Derived.Test.YtiioabmfonhlbaaCirQ
import Derived.Test.YtiioabmfonhlbaaGcdC
namespace Go.Proofs.Ytiioabmfonhlbaa
open Go.RowKit
set_option linter.unusedVariables false
def rtN (L S : Int) (l : List Int) : Int := if cirV L S l then 10 * L / gcdI (10 * L) S else 0
def rtD (L S : Int) (l : List Int) : Int := if cirV L S l then S / gcdI (10 * L) S else 0
theorem ret_iib {x y u v : Int} {a b : Bool} (g : x = y) (f : u = v) (h : a = b) : Ending.returned (.tuple #[.int .i64 x, .int .i64 u, .bool a]) = .returned (.tuple #[.int .i64 y, .int .i64 v, .bool b]) := by rw [g, f, h]
/-- the law: so many decimeters a second are the ring -/
theorem rt_law {L S : Int} {l : List Int} (h : cirV L S l = true) : rtN L S l * S = 10 * L * rtD L S l := by
  obtain ⟨hL, hS, _, _⟩ := cirV_parts h
  unfold rtN rtD
  rw [if_pos h, if_pos h]
  have hg := gcdI_pos (n := 10 * L) (d := S) (by omega)
  have d1 : gcdI (10 * L) S ∣ 10 * L := by
    unfold gcdI
    have : (Nat.gcd (10 * L).toNat S.toNat : Int) ∣ ((10 * L).toNat : Int) := Int.natCast_dvd_natCast.2 (Nat.gcd_dvd_left _ _)
    rwa [Int.toNat_of_nonneg (by omega)] at this
  have d2 : gcdI (10 * L) S ∣ S := by
    unfold gcdI
    have : (Nat.gcd (10 * L).toNat S.toNat : Int) ∣ (S.toNat : Int) := Int.natCast_dvd_natCast.2 (Nat.gcd_dvd_right _ _)
    rwa [Int.toNat_of_nonneg (show 0 ≤ S by omega)] at this
  generalize gcdI (10 * L) S = g at *
  obtain ⟨p, hp⟩ := d1
  obtain ⟨q, hq⟩ := d2
  have e1 : 10 * L / g = p := by rw [hp, Int.mul_ediv_cancel_left _ (by omega)]
  have e2 : S / g = q := by rw [hq, Int.mul_ediv_cancel_left _ (by omega)]
  rw [e1, e2, hp, hq, ← Int.mul_assoc, Int.mul_comm p g]
set_option maxHeartbeats 2000000 in
theorem implRoundTime_c (L S : Int) (v : Value) (l : List Int) (w : World) (hr : Rd w v (intVs l)) (hn : l.length ≤ 1048576) :
    Calls Try.prog 45 #[.agg #[.int .i64 L, .int .i64 S, v]] w fun e w' => e = .returned (.tuple #[.int .i64 (rtN L S l), .int .i64 (rtD L S l), .bool (cirV L S l)]) ∧ Below w.heap.size w w' := by
  have HR := Lib.hid hr
  obtain ⟨a, ca, rfl⟩ := hr.isl
  clear hr
  have E0 := Lib.hid (fun W v h => implIsCircle_c L S v l W h hn)
  have HB := Lib.hid ((Below.refl w.heap.size w).alloc (Nat.le_refl _) (.cells #[.int .i64 L, .int .i64 S, .slice a l.length ca] 26))
  have HB0 := Lib.hid (blk_new3 w (.int .i64 L) (.int .i64 S) (.slice a l.length ca) 26)
  cases hk : cirV L S l with
  | false =>
    rw [hk] at E0
    have HN : Hid (rtN L S l = 0 ∧ rtD L S l = 0) := Lib.hid (by unfold rtN rtD; rw [hk]; exact ⟨rfl, rfl⟩)
    clear hk
    go_enter Try.func45, Try.ntmps45
    go_wp2_with fail
    refine (E0.out _ _ (HR.out.below HB.out rfl)).mono ?_
    rintro e w1 ⟨rfl, b1⟩
    have HT := Lib.hid (HB.out.trans (b1.mono HB.out.size))
    clear b1
    go_wp2
    go_ret3
    exact ⟨ret_iib HN.out.1.symm HN.out.2.symm rfl, HT.out⟩
  | true =>
    obtain ⟨hL, hS, _, _⟩ := cirV_parts hk
    rw [hk] at E0
    have HN : Hid (rtN L S l = 10 * L / gcdI (10 * L) S ∧ rtD L S l = S / gcdI (10 * L) S) := Lib.hid (by unfold rtN rtD; rw [hk]; exact ⟨rfl, rfl⟩)
    have HE := Lib.hid (fun W => fraction_c (10 * L) S W (by omega) (by omega) (by omega) (by omega))
    have q2 : IntKind.i64.wrap (10 * L) = 10 * L := IntWalk.i64_in _ (by omega)
    generalize 10 * L / gcdI (10 * L) S = N at *
    generalize S / gcdI (10 * L) S = D at *
    clear hk
    go_enter Try.func45, Try.ntmps45
    go_wp2_with fail
    refine (E0.out _ _ (HR.out.below HB.out rfl)).mono ?_
    rintro e w1 ⟨rfl, b1⟩
    have HT := Lib.hid (HB.out.trans (b1.mono HB.out.size))
    obtain ⟨c0, c1, c2⟩ := blk_cell3 (blk_keep HB0.out b1 (by simp))
    clear b1
    go_wp2_with fail
    refine (HE.out _).mono ?_
    rintro e w2 ⟨rfl, d2⟩
    have HT2 := Lib.hid (HT.out.trans (d2.below _))
    clear d2 c0 c1 c2
    go_wp2
    go_ret3
    exact ⟨ret_iib HN.out.1.symm HN.out.2.symm rfl, HT2.out⟩
set_option maxHeartbeats 2000000 in
theorem specRoundTime_c (L S : Int) (v : Value) (l : List Int) (w : World) (hr : Rd w v (intVs l)) (hn : l.length ≤ 1048576) :
    Calls Try.prog 46 #[.agg #[.int .i64 L, .int .i64 S, v]] w fun e w' => e = .returned (.tuple #[.int .i64 (rtN L S l), .int .i64 (rtD L S l), .bool (cirV L S l)]) ∧ Below w.heap.size w w' := by
  have HR := Lib.hid hr
  obtain ⟨a, ca, rfl⟩ := hr.isl
  clear hr
  have E0 := Lib.hid (fun W v h => l8Good_c L S v l W h hn)
  have HB := Lib.hid ((Below.refl w.heap.size w).alloc (Nat.le_refl _) (.cells #[.int .i64 L, .int .i64 S, .slice a l.length ca] 26))
  have HB0 := Lib.hid (blk_new3 w (.int .i64 L) (.int .i64 S) (.slice a l.length ca) 26)
  cases hk : cirV L S l with
  | false =>
    rw [hk] at E0
    have HN : Hid (rtN L S l = 0 ∧ rtD L S l = 0) := Lib.hid (by unfold rtN rtD; rw [hk]; exact ⟨rfl, rfl⟩)
    clear hk
    go_enter Try.func46, Try.ntmps46
    go_wp2_with fail
    refine (E0.out _ _ (HR.out.below HB.out rfl)).mono ?_
    rintro e w1 ⟨rfl, b1⟩
    have HT := Lib.hid (HB.out.trans (b1.mono HB.out.size))
    clear b1
    go_wp2
    go_ret3
    exact ⟨ret_iib HN.out.1.symm HN.out.2.symm rfl, HT.out⟩
  | true =>
    obtain ⟨hL, hS, _, _⟩ := cirV_parts hk
    rw [hk] at E0
    have HN : Hid (rtN L S l = 10 * L / gcdI (10 * L) S ∧ rtD L S l = S / gcdI (10 * L) S) := Lib.hid (by unfold rtN rtD; rw [hk]; exact ⟨rfl, rfl⟩)
    have HE := Lib.hid (fun W => l2Reduce_c (10 * L) S W (by omega) (by omega) (by omega) (by omega))
    have q2 : IntKind.i64.wrap (10 * L) = 10 * L := IntWalk.i64_in _ (by omega)
    generalize 10 * L / gcdI (10 * L) S = N at *
    generalize S / gcdI (10 * L) S = D at *
    clear hk
    go_enter Try.func46, Try.ntmps46
    go_wp2_with fail
    refine (E0.out _ _ (HR.out.below HB.out rfl)).mono ?_
    rintro e w1 ⟨rfl, b1⟩
    have HT := Lib.hid (HB.out.trans (b1.mono HB.out.size))
    obtain ⟨c0, c1, c2⟩ := blk_cell3 (blk_keep HB0.out b1 (by simp))
    clear b1
    go_wp2_with fail
    refine (HE.out _).mono ?_
    rintro e w2 ⟨rfl, d2⟩
    have HT2 := Lib.hid (HT.out.trans (d2.below _))
    clear d2 c0 c1 c2
    go_wp2
    go_ret3
    exact ⟨ret_iib HN.out.1.symm HN.out.2.symm rfl, HT2.out⟩
end Go.Proofs.Ytiioabmfonhlbaa
