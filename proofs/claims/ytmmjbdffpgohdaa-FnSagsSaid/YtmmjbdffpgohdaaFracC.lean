/- The two functions that bring a fraction to lowest terms, with a sign. Condition: sizes. -/
import Derived.Test.YtmmjbdffpgohdaaChordAtC
import Derived.Test.YtmmjbdffpgohdaaFracMath
namespace Go.Proofs.Ytmmjbdffpgohdaa
open Go.RowKit
set_option linter.unusedVariables false
set_option maxHeartbeats 1000000 in
theorem fraction_g (n d : Int) (w : World) (h0 : -1152921504606846976 ≤ n) (h1 : n ≤ 1152921504606846976) (h2 : 0 < d) (h3 : d ≤ 1152921504606846976) :
    Calls Try.prog 97 #[.int .i64 n, .int .i64 d] w fun e w' => e = .returned (.tuple #[.int .i64 (rN n d), .int .i64 (rD n d)]) ∧ Drew w w' := by
  have hg := gA_pos (n := n) h2
  have HG : Hid (gA n d = (Nat.gcd n.natAbs d.natAbs : Int)) := Lib.hid rfl
  obtain ⟨q1, q2⟩ := rN_bd (n := n) (d := d) (B := 1152921504606846976) h2 h0 h1
  have q3 := rD_le (n := n) h2
  have q4 := rD_pos (n := n) h2
  have t1 : Int.tdiv n (gA n d) = rN n d := tdiv_r n d
  have t2 : d / gA n d = rD n d := rfl
  have t2' : Int.tdiv d (gA n d) = rD n d := by rw [Int.tdiv_eq_ediv_of_nonneg (by omega)]; rfl
  have s1 : IntKind.i64.wrap (rN n d) = rN n d := IntWalk.i64_in _ (by omega)
  have s2 : IntKind.i64.wrap (rD n d) = rD n d := IntWalk.i64_in _ (by omega)
  have HA : Hid (iabs n = (n.natAbs : Int)) := Lib.hid (by unfold iabs; split <;> omega)
  have hnb : n.natAbs ≤ 1152921504606846976 := by omega
  generalize gA n d = G at *
  generalize rN n d = P at *
  generalize rD n d = Q at *
  go_enter Try.func97, Try.ntmps97
  go_wp2_with fail
  refine (absolute_c n _ (by omega) (by omega)).mono ?_
  rw [HA.out]
  rintro e w' ⟨rfl, rfl⟩
  go_wp2
  go_loopw [6, 7] (fun x y wr => ∃ X Y : Nat, x = .int .i64 (X : Int) ∧ y = .int .i64 (Y : Int) ∧ (0 < X ∧ X ≤ 1152921504606846976) ∧ Y ≤ 1152921504606846976 ∧ Hid (Nat.gcd X Y = Nat.gcd n.natAbs d.natAbs) ∧ Drew w wr) (fun _ y _ => (intOf y).toNat)
  case atStart =>
    refine ⟨d.natAbs, n.natAbs, by rw [Int.natAbs_of_nonneg (by omega)], rfl, by omega, by omega, Lib.hid (Nat.gcd_comm _ _), Drew.refl _⟩
  case round =>
    obtain ⟨X, Y, rfl, rfl, ⟨hx, hx'⟩, hy, HE, hd⟩ := hrel
    by_cases hz : 0 < Y
    · have hyb : ((Y : Int) != 0) = true := by rw [bne_iff_ne]; omega
      have hyn : ((Y : Int) == 0) = false := by rw [beq_eq_false_iff_ne]; omega
      have hrm : (X : Int) % (Y : Int) = ((X % Y : Nat) : Int) := by simp
      have hrl : X % Y < Y := Nat.mod_lt _ hz
      have HR := Lib.hid hrm
      clear hrm
      go_wp2
      go_quiet (fail)
      go_wp2
      go_roundw
      case rel =>
        refine ⟨Y, X % Y, rfl, by rw [HR.out], ⟨hz, hy⟩, by omega, Lib.hid ((gcd_step X Y hz).trans HE.out), hd.more _⟩
      case measure => simp [intOf]; omega
    · obtain rfl : Y = 0 := by omega
      have hX : (X : Int) = G := by
        have := HE.out
        rw [Nat.gcd_zero_right] at this
        rw [HG.out, this]
      rw [hX] at *
      clear hX
      go_wp2
      go_quiet (fail)
      go_wp2
      go_ret2
      exact ⟨rfl, hd.more _⟩
set_option maxHeartbeats 1000000 in
theorem l2Reduce_g (n d : Int) (w : World) (h0 : -1152921504606846976 ≤ n) (h1 : n ≤ 1152921504606846976) (h2 : 0 < d) (h3 : d ≤ 1152921504606846976) :
    Calls Try.prog 67 #[.int .i64 n, .int .i64 d] w fun e w' => e = .returned (.tuple #[.int .i64 (rN n d), .int .i64 (rD n d)]) ∧ Drew w w' := by
  have hg := gA_pos (n := n) h2
  have HG : Hid (gA n d = (Nat.gcd n.natAbs d.natAbs : Int)) := Lib.hid rfl
  obtain ⟨q1, q2⟩ := rN_bd (n := n) (d := d) (B := 1152921504606846976) h2 h0 h1
  have q3 := rD_le (n := n) h2
  have q4 := rD_pos (n := n) h2
  have t1 : Int.tdiv n (gA n d) = rN n d := tdiv_r n d
  have t2 : d / gA n d = rD n d := rfl
  have t2' : Int.tdiv d (gA n d) = rD n d := by rw [Int.tdiv_eq_ediv_of_nonneg (by omega)]; rfl
  have s1 : IntKind.i64.wrap (rN n d) = rN n d := IntWalk.i64_in _ (by omega)
  have s2 : IntKind.i64.wrap (rD n d) = rD n d := IntWalk.i64_in _ (by omega)
  have HA : Hid (imax n (-n) = (n.natAbs : Int)) := Lib.hid (by unfold imax; split <;> omega)
  have hnb : n.natAbs ≤ 1152921504606846976 := by omega
  generalize gA n d = G at *
  generalize rN n d = P at *
  generalize rD n d = Q at *
  go_enter Try.func67, Try.ntmps67
  go_wp2_with fail
  refine (l1Most_c n (-n) _).mono ?_
  rw [HA.out]
  rintro e w' ⟨rfl, rfl⟩
  go_wp2
  go_loopw [6, 7] (fun x y wr => ∃ X Y : Nat, x = .int .i64 (X : Int) ∧ y = .int .i64 (Y : Int) ∧ X ≤ 1152921504606846976 ∧ Y ≤ 1152921504606846976 ∧ Hid (Nat.gcd X Y = Nat.gcd n.natAbs d.natAbs) ∧ Drew w wr) (fun _ y _ => (intOf y).toNat)
  case atStart =>
    refine ⟨n.natAbs, d.natAbs, rfl, by rw [Int.natAbs_of_nonneg (by omega)], by omega, by omega, Lib.hid rfl, Drew.refl _⟩
  case round =>
    obtain ⟨X, Y, rfl, rfl, hx, hy, HE, hd⟩ := hrel
    by_cases hz : 0 < Y
    · have hyb : ((Y : Int) != 0) = true := by rw [bne_iff_ne]; omega
      have hyn : ((Y : Int) == 0) = false := by rw [beq_eq_false_iff_ne]; omega
      have hrm : (X : Int) % (Y : Int) = ((X % Y : Nat) : Int) := by simp
      have hrl : X % Y < Y := Nat.mod_lt _ hz
      have HR := Lib.hid hrm
      clear hrm
      go_wp2
      go_roundw
      case rel =>
        refine ⟨Y, X % Y, rfl, by rw [HR.out], by omega, by omega, Lib.hid ((gcd_step X Y hz).trans HE.out), hd⟩
      case measure => simp [intOf]; omega
    · obtain rfl : Y = 0 := by omega
      have hX : (X : Int) = G := by
        have := HE.out
        rw [Nat.gcd_zero_right] at this
        rw [HG.out, this]
      rw [hX] at *
      clear hX
      go_wp2
      go_quiet (fail)
      go_wp2
      go_ret2
      exact ⟨rfl, hd.more _⟩
end Go.Proofs.Ytmmjbdffpgohdaa
