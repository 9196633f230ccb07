/- ChordAt: the program's and the specification's answer as one function of the line and the place. Condition: sizes. -/
import Derived.Test.YtmmjbdffpgohdaaChordMath
import Derived.Deep.RegionHeld3
import Derived.Deep.RegionWith
namespace Go.Proofs.Ytmmjbdffpgohdaa
open Go.RowKit
set_option linter.unusedVariables false
set_option maxHeartbeats 1000000 in
theorem fraction_c (n d : Int) (w : World) (h0 : 0 ≤ n) (h1 : n ≤ 1099511627776) (h2 : 0 < d) (h3 : d ≤ 1099511627776) :
    Calls Try.prog 97 #[.int .i64 n, .int .i64 d] w fun e w' => e = .returned (.tuple #[.int .i64 (n / gcdI n d), .int .i64 (d / gcdI n d)]) ∧ Drew w w' := by
  have hg := gcdI_pos (n := n) h2
  have hgl := gcdI_le (n := n) h2
  have HG : Hid (gcdI n d = (Nat.gcd n.toNat d.toNat : Int)) := Lib.hid rfl
  have hq1 : n / gcdI n d ≤ n := Int.ediv_le_self _ h0
  have hq2 : 0 ≤ n / gcdI n d := Int.ediv_nonneg h0 (by omega)
  have hq3 : d / gcdI n d ≤ d := Int.ediv_le_self _ (by omega)
  have hq4 : 0 ≤ d / gcdI n d := Int.ediv_nonneg (by omega) (by omega)
  have HA : Hid (iabs n = n) := Lib.hid (by unfold iabs; rw [if_neg (by omega)])
  go_enter Try.func97, Try.ntmps97
  go_wp2_with fail
  refine (absolute_c n _ (by omega) (by omega)).mono ?_
  rw [HA.out]
  rintro e w' ⟨rfl, rfl⟩
  go_wp2
  go_loopw [6, 7] (fun x y wr => ∃ X Y : Nat, x = .int .i64 (X : Int) ∧ y = .int .i64 (Y : Int) ∧ (0 < X ∧ X ≤ 1099511627776) ∧ Y ≤ 1099511627776 ∧ Hid (Nat.gcd X Y = Nat.gcd n.toNat d.toNat) ∧ Drew w wr) (fun _ y _ => (intOf y).toNat)
  case atStart =>
    refine ⟨d.toNat, n.toNat, by rw [Int.toNat_of_nonneg (by omega)], by rw [Int.toNat_of_nonneg h0], by omega, by omega, Lib.hid (Nat.gcd_comm _ _), Drew.refl _⟩
  case round =>
    obtain ⟨X, Y, rfl, rfl, ⟨hx, hx'⟩, hy, HE, hd⟩ := hrel
    by_cases hz : 0 < Y
    · have hyb : ((Y : Int) != 0) = true := by rw [bne_iff_ne]; omega
      have hyn : ((Y : Int) == 0) = false := by rw [beq_eq_false_iff_ne]; omega
      have hrm : (X : Int) % (Y : Int) = ((X % Y : Nat) : Int) := by simp
      have hrl : X % Y < Y := Nat.mod_lt _ hz
      have HR := Lib.hid hrm
      clear hrm
      go_wp2
      go_quiet (fail)
      go_wp2
      go_roundw
      case rel =>
        refine ⟨Y, X % Y, rfl, by rw [HR.out], ⟨hz, hy⟩, by omega, Lib.hid ((gcd_step X Y hz).trans HE.out), hd.more _⟩
      case measure => simp [intOf]; omega
    · obtain rfl : Y = 0 := by omega
      have hX : (X : Int) = gcdI n d := by
        have := HE.out
        rw [Nat.gcd_zero_right] at this
        rw [HG.out, this]
      rw [hX] at *
      clear hX
      go_wp2
      go_quiet (fail)
      go_wp2
      go_ret2
      exact ⟨rfl, hd.more _⟩
set_option maxHeartbeats 1000000 in
theorem l2Reduce_c (n d : Int) (w : World) (h0 : 0 ≤ n) (h1 : n ≤ 1099511627776) (h2 : 0 < d) (h3 : d ≤ 1099511627776) :
    Calls Try.prog 67 #[.int .i64 n, .int .i64 d] w fun e w' => e = .returned (.tuple #[.int .i64 (n / gcdI n d), .int .i64 (d / gcdI n d)]) ∧ Drew w w' := by
  have hg := gcdI_pos (n := n) h2
  have hgl := gcdI_le (n := n) h2
  have HG : Hid (gcdI n d = (Nat.gcd n.toNat d.toNat : Int)) := Lib.hid rfl
  have hq1 : n / gcdI n d ≤ n := Int.ediv_le_self _ h0
  have hq2 : 0 ≤ n / gcdI n d := Int.ediv_nonneg h0 (by omega)
  have hq3 : d / gcdI n d ≤ d := Int.ediv_le_self _ (by omega)
  have hq4 : 0 ≤ d / gcdI n d := Int.ediv_nonneg (by omega) (by omega)
  have HA : Hid (imax n (-n) = n) := Lib.hid (by unfold imax; split <;> omega)
  go_enter Try.func67, Try.ntmps67
  go_wp2_with fail
  refine (l1Most_c n (-n) _).mono ?_
  rw [HA.out]
  rintro e w' ⟨rfl, rfl⟩
  go_wp2
  go_loopw [6, 7] (fun x y wr => ∃ X Y : Nat, x = .int .i64 (X : Int) ∧ y = .int .i64 (Y : Int) ∧ X ≤ 1099511627776 ∧ Y ≤ 1099511627776 ∧ Hid (Nat.gcd X Y = Nat.gcd n.toNat d.toNat) ∧ Drew w wr) (fun _ y _ => (intOf y).toNat)
  case atStart =>
    refine ⟨n.toNat, d.toNat, by rw [Int.toNat_of_nonneg h0], by rw [Int.toNat_of_nonneg (by omega)], by omega, by omega, Lib.hid rfl, Drew.refl _⟩
  case round =>
    obtain ⟨X, Y, rfl, rfl, hx, hy, HE, hd⟩ := hrel
    by_cases hz : 0 < Y
    · have hyb : ((Y : Int) != 0) = true := by rw [bne_iff_ne]; omega
      have hyn : ((Y : Int) == 0) = false := by rw [beq_eq_false_iff_ne]; omega
      have hrm : (X : Int) % (Y : Int) = ((X % Y : Nat) : Int) := by simp
      have hrl : X % Y < Y := Nat.mod_lt _ hz
      have HR := Lib.hid hrm
      clear hrm
      go_wp2
      go_roundw
      case rel =>
        refine ⟨Y, X % Y, rfl, by rw [HR.out], by omega, by omega, Lib.hid ((gcd_step X Y hz).trans HE.out), hd⟩
      case measure => simp [intOf]; omega
    · obtain rfl : Y = 0 := by omega
      have hX : (X : Int) = gcdI n d := by
        have := HE.out
        rw [Nat.gcd_zero_right] at this
        rw [HG.out, this]
      rw [hX] at *
      clear hX
      go_wp2
      go_quiet (fail)
      go_wp2
      go_ret2
      exact ⟨rfl, hd.more _⟩
set_option maxHeartbeats 1000000 in
theorem l2Span_s (v : Value) (l : List Sup) (p : Int) (w : World) (hr : Rs w v l.length (sups l)) (ho : OnAt l p (spanN l p)) :
    Calls Try.prog 99 #[v, .int .i64 p] w fun e w' => e = .returned (.int .i64 ((spanN l p : Nat) : Int)) ∧ w' = w := by
  have hl := ho.line
  have hlt := ho.lt
  have hit := ho.hi
  have h8 := hl.eight
  have HLe : Hid (∀ j, j < spanN l p → (nth l (j + 1)).a < p) := Lib.hid (fun j hj => spanN_least hj)
  obtain ⟨a, oa, ca, rfl, hla, hm, hs⟩ := hr.sup (by omega)
  have HA := Lib.hid hs
  clear hr hs hl ho
  generalize hz : spanN l p = z at *
  clear hz
  go_enter Try.func99, Try.ntmps99
  go_wp2
  go_loop [5] (fun i => ∃ k : Nat, k ≤ z ∧ i = .int .i64 k) (fun i => l.length - (intOf i).toNat)
  case atStart => exact ⟨0, by omega, rfl⟩
  case round =>
    obtain ⟨k, hk, rfl⟩ := hrel
    obtain ⟨c0, _, _⟩ := HA.out (k + 1) (by omega)
    have hi1 : k + 1 < l.length := by omega
    by_cases hlt1 : k < z
    · have hx := HLe.out k hlt1
      clear hit
      generalize (nth l (k + 1)).a = B at *
      go_wp2
      go_round
      case rel => exact ⟨k + 1, by omega, by go_num⟩
      case measure => simp [intOf]; omega
    · obtain rfl : k = z := by omega
      generalize (nth l (k + 1)).a = B at *
      go_wp2
      go_ret
      exact ⟨rfl, rfl⟩
end Go.Proofs.Ytmmjbdffpgohdaa
