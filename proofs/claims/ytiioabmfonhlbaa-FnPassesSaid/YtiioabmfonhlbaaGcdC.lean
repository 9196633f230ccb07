/- Fractions in lowest terms, for numbers that are not negative. Condition: sizes. -/
import Derived.Test.YtiioabmfonhlbaaGS
import Derived.Deep.RegionHeld3
import Derived.Deep.RegionWith
namespace Go.Proofs.Ytiioabmfonhlbaa
open Go.RowKit
set_option linter.unusedVariables false
/-- The greatest common divisor, for numbers that are not negative. -/
def gcdI (n d : Int) : Int := (Nat.gcd n.toNat d.toNat : Int)
theorem gcdI_pos {n d : Int} (hd : 0 < d) : 0 < gcdI n d := by
  unfold gcdI
  have : 0 < Nat.gcd n.toNat d.toNat := Nat.gcd_pos_of_pos_right _ (by omega)
  omega
theorem gcdI_le {n d : Int} (hd : 0 < d) : gcdI n d ≤ d := by
  unfold gcdI
  have : Nat.gcd n.toNat d.toNat ≤ d.toNat := Nat.le_of_dvd (by omega) (Nat.gcd_dvd_right _ _)
  omega
theorem gcd_step (x y : Nat) (hy : 0 < y) : Nat.gcd y (x % y) = Nat.gcd x y := by
  rw [Nat.gcd_comm y (x % y), ← Nat.gcd_rec, Nat.gcd_comm]
def iabs (n : Int) : Int := if n < 0 then -n else n
def imax (a b : Int) : Int := if b < a then a else b
theorem absolute_c (n : Int) (w : World) (h1 : -9223372036854775808 < n) (h2 : n ≤ 9223372036854775807) :
    Calls Try.prog 92 #[.int .i64 n] w fun e w' => e = .returned (.int .i64 (iabs n)) ∧ w = w' := by
  unfold iabs
  go_enter Try.func92, Try.ntmps92
  go_wp2
  all_goals go_ret
  all_goals exact ⟨rfl, rfl⟩
theorem l1Most_c (a b : Int) (w : World) :
    Calls Try.prog 80 #[.int .i64 a, .int .i64 b] w fun e w' => e = .returned (.int .i64 (imax a b)) ∧ w = w' := by
  by_cases h : b < a
  · rw [imax, if_pos h]
    go_enter Try.func80, Try.ntmps80
    go_wp2
    go_ret
    exact ⟨rfl, rfl⟩
  · rw [imax, if_neg h]
    go_enter Try.func80, Try.ntmps80
    go_wp2
    go_ret
    exact ⟨rfl, rfl⟩
set_option maxHeartbeats 1000000 in
theorem fraction_c (n d : Int) (w : World) (h0 : 0 ≤ n) (h1 : n ≤ 1099511627776) (h2 : 0 < d) (h3 : d ≤ 1099511627776) :
    Calls Try.prog 82 #[.int .i64 n, .int .i64 d] w fun e w' => e = .returned (.tuple #[.int .i64 (n / gcdI n d), .int .i64 (d / gcdI n d)]) ∧ Drew w w' := by
  have hg := gcdI_pos (n := n) h2
  have hgl := gcdI_le (n := n) h2
  have HG : Hid (gcdI n d = (Nat.gcd n.toNat d.toNat : Int)) := Lib.hid rfl
  have hq1 : n / gcdI n d ≤ n := Int.ediv_le_self _ h0
  have hq2 : 0 ≤ n / gcdI n d := Int.ediv_nonneg h0 (by omega)
  have hq3 : d / gcdI n d ≤ d := Int.ediv_le_self _ (by omega)
  have hq4 : 0 ≤ d / gcdI n d := Int.ediv_nonneg (by omega) (by omega)
  have HA : Hid (iabs n = n) := Lib.hid (by unfold iabs; rw [if_neg (by omega)])
  go_enter Try.func82, Try.ntmps82
  go_wp2_with fail
  refine (absolute_c n _ (by omega) (by omega)).mono ?_
  rw [HA.out]
  rintro e w' ⟨rfl, rfl⟩
  go_wp2
  go_loopw [6, 7] (fun x y wr => ∃ X Y : Nat, x = .int .i64 (X : Int) ∧ y = .int .i64 (Y : Int) ∧ (0 < X ∧ X ≤ 1099511627776) ∧ Y ≤ 1099511627776 ∧ Hid (Nat.gcd X Y = Nat.gcd n.toNat d.toNat) ∧ Drew w wr) (fun _ y _ => (intOf y).toNat)
  case atStart =>
    refine ⟨d.toNat, n.toNat, by rw [Int.toNat_of_nonneg (by omega)], by rw [Int.toNat_of_nonneg h0], by omega, by omega, Lib.hid (Nat.gcd_comm _ _), Drew.refl _⟩
  case round =>
    obtain ⟨X, Y, rfl, rfl, ⟨hx, hx'⟩, hy, HE, hd⟩ := hrel
    by_cases hz : 0 < Y
    · have hyb : ((Y : Int) != 0) = true := by rw [bne_iff_ne]; omega
      have hyn : ((Y : Int) == 0) = false := by rw [beq_eq_false_iff_ne]; omega
      have hrm : (X : Int) % (Y : Int) = ((X % Y : Nat) : Int) := by simp
      have hrl : X % Y < Y := Nat.mod_lt _ hz
      have HR := Lib.hid hrm
      clear hrm
      go_wp2
      go_quiet (fail)
      go_wp2
      go_roundw
      case rel =>
        refine ⟨Y, X % Y, rfl, by rw [HR.out], ⟨hz, hy⟩, by omega, Lib.hid ((gcd_step X Y hz).trans HE.out), hd.more _⟩
      case measure => simp [intOf]; omega
    · obtain rfl : Y = 0 := by omega
      have hX : (X : Int) = gcdI n d := by
        have := HE.out
        rw [Nat.gcd_zero_right] at this
        rw [HG.out, this]
      rw [hX] at *
      clear hX
      go_wp2
      go_quiet (fail)
      go_wp2
      go_ret2
      exact ⟨rfl, hd.more _⟩
set_option maxHeartbeats 1000000 in
theorem l2Reduce_c (n d : Int) (w : World) (h0 : 0 ≤ n) (h1 : n ≤ 1099511627776) (h2 : 0 < d) (h3 : d ≤ 1099511627776) :
    Calls Try.prog 83 #[.int .i64 n, .int .i64 d] w fun e w' => e = .returned (.tuple #[.int .i64 (n / gcdI n d), .int .i64 (d / gcdI n d)]) ∧ Drew w w' := by
  have hg := gcdI_pos (n := n) h2
  have hgl := gcdI_le (n := n) h2
  have HG : Hid (gcdI n d = (Nat.gcd n.toNat d.toNat : Int)) := Lib.hid rfl
  have hq1 : n / gcdI n d ≤ n := Int.ediv_le_self _ h0
  have hq2 : 0 ≤ n / gcdI n d := Int.ediv_nonneg h0 (by omega)
  have hq3 : d / gcdI n d ≤ d := Int.ediv_le_self _ (by omega)
  have hq4 : 0 ≤ d / gcdI n d := Int.ediv_nonneg (by omega) (by omega)
  have HA : Hid (imax n (-n) = n) := Lib.hid (by unfold imax; split <;> omega)
  go_enter Try.func83, Try.ntmps83
  go_wp2_with fail
  refine (l1Most_c n (-n) _).mono ?_
  rw [HA.out]
  rintro e w' ⟨rfl, rfl⟩
  go_wp2
  go_loopw [6, 7] (fun x y wr => ∃ X Y : Nat, x = .int .i64 (X : Int) ∧ y = .int .i64 (Y : Int) ∧ X ≤ 1099511627776 ∧ Y ≤ 1099511627776 ∧ Hid (Nat.gcd X Y = Nat.gcd n.toNat d.toNat) ∧ Drew w wr) (fun _ y _ => (intOf y).toNat)
  case atStart =>
    refine ⟨n.toNat, d.toNat, by rw [Int.toNat_of_nonneg h0], by rw [Int.toNat_of_nonneg (by omega)], by omega, by omega, Lib.hid rfl, Drew.refl _⟩
  case round =>
    obtain ⟨X, Y, rfl, rfl, hx, hy, HE, hd⟩ := hrel
    by_cases hz : 0 < Y
    · have hyb : ((Y : Int) != 0) = true := by rw [bne_iff_ne]; omega
      have hyn : ((Y : Int) == 0) = false := by rw [beq_eq_false_iff_ne]; omega
      have hrm : (X : Int) % (Y : Int) = ((X % Y : Nat) : Int) := by simp
      have hrl : X % Y < Y := Nat.mod_lt _ hz
      have HR := Lib.hid hrm
      clear hrm
      go_wp2
      go_roundw
      case rel =>
        refine ⟨Y, X % Y, rfl, by rw [HR.out], by omega, by omega, Lib.hid ((gcd_step X Y hz).trans HE.out), hd⟩
      case measure => simp [intOf]; omega
    · obtain rfl : Y = 0 := by omega
      have hX : (X : Int) = gcdI n d := by
        have := HE.out
        rw [Nat.gcd_zero_right] at this
        rw [HG.out, this]
      rw [hX] at *
      clear hX
      go_wp2
      go_quiet (fail)
      go_wp2
      go_ret2
      exact ⟨rfl, hd.more _⟩
end Go.Proofs.Ytiioabmfonhlbaa
