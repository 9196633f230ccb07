/- The walks of the decimals. Condition: at most nine digits. -/
import Derived.Test.YtinlcbljpclccaaDoorRows
import Derived.Test.YtinlcbljpclccaaDoorL1Math
import Derived.Test.YtinlcbljpclccaaDoorNumMath
import Derived.LoopTactic
import Derived.OwnWalk
import Derived.Below
import Derived.Outline
import Derived.WalkKit
import Derived.Lib.Hide
import Derived.Deep.QuietTactic
import Derived.BigQuiet
namespace Go.Proofs.YtinlcbljpclccaaDoor
open Go.RowKit
set_option linter.unusedVariables false
set_option maxHeartbeats 400000 in
theorem l1In_any (x a b : Int) (w : World) :
    Calls Tryd.prog 31 #[.int .i64 x, .int .i64 a, .int .i64 b] w fun e w' => e = .returned (.bool (decide (a ≤ x ∧ x ≤ b))) ∧ w = w' := by
  by_cases h1 : a ≤ x
  · by_cases h2 : x ≤ b
    · have e : decide (a ≤ x ∧ x ≤ b) = true := by simp [h1, h2]
      rw [e]
      clear e
      go_enter Tryd.func31, Tryd.ntmps31
      go_wp2
      go_ret
      exact ⟨rfl, rfl⟩
    · have e : decide (a ≤ x ∧ x ≤ b) = false := by simp [h2]
      rw [e]
      clear e
      have h3 : decide (x ≤ b) = false := by simpa using h2
      go_enter Tryd.func31, Tryd.ntmps31
      go_wp2
      go_ret
      exact ⟨rfl, rfl⟩
  · have e : decide (a ≤ x ∧ x ≤ b) = false := by simp [h1]
    rw [e]
    clear e
    go_enter Tryd.func31, Tryd.ntmps31
    go_wp2
    go_ret
    exact ⟨rfl, rfl⟩
theorem l1In_yes (x a b : Int) (w : World) (h1 : a ≤ x) (h2 : x ≤ b) :
    Calls Tryd.prog 31 #[.int .i64 x, .int .i64 a, .int .i64 b] w fun e w' => e = .returned (.bool true) ∧ w = w' := by
  have h := l1In_any x a b w
  rw [decide_eq_true (show a ≤ x ∧ x ≤ b from ⟨h1, h2⟩)] at h
  exact h
theorem l1In_no (x a b : Int) (w : World) (h : x < a ∨ b < x) :
    Calls Tryd.prog 31 #[.int .i64 x, .int .i64 a, .int .i64 b] w fun e w' => e = .returned (.bool false) ∧ w = w' := by
  have h' := l1In_any x a b w
  rw [decide_eq_false (show ¬ (a ≤ x ∧ x ≤ b) from by omega)] at h'
  exact h'
theorem dig_text (d : Nat) (h : d < 10) : (⟨#[48, 49, 50, 51, 52, 53, 54, 55, 56, 57]⟩ : ByteArray).extract d (d + 1) = ⟨#[UInt8.ofNat (48 + d)]⟩ := by
  have : ∀ i : Fin 10, (⟨#[48, 49, 50, 51, 52, 53, 54, 55, 56, 57]⟩ : ByteArray).extract i.val (i.val + 1) = ⟨#[UInt8.ofNat (48 + i.val)]⟩ := by decide +kernel
  exact this ⟨d, h⟩
theorem run_cut_str (P : Program) (t : TypeId) (s : ByteArray) (lo hi : Nat) (W : World) (ht : P.underlying t = some .string) (h1 : lo ≤ hi) (h2 : hi ≤ s.size) :
    (Instr.slice t (.string s) (some (.int .i64 (lo : Int))) (some (.int .i64 (hi : Int))) none).run P W = .ok (.string (s.extract lo hi)) W := by
  have a1 : (lo : Int) ≤ (hi : Int) := by omega
  have a2 : (hi : Int) ≤ (s.size : Int) := by omega
  go_simp
theorem digit_cut (P : Program) (t : TypeId) (d : Int) (ht : P.underlying t = some .string) (h0 : 0 ≤ d) (h9 : d < 10) : ∀ W : World,
    (Instr.slice t (.string ⟨#[48, 49, 50, 51, 52, 53, 54, 55, 56, 57]⟩) (some (.int .i64 d)) (some (.int .i64 (d + 1))) none).run P W = .ok (.string ⟨#[UInt8.ofNat (48 + d.toNat)]⟩) W := by
  intro W
  obtain ⟨n, rfl⟩ := Int.eq_ofNat_of_zero_le h0
  have h := run_cut_str P t ⟨#[48, 49, 50, 51, 52, 53, 54, 55, 56, 57]⟩ n (n + 1) W ht (by omega) (by show n + 1 ≤ 10; omega)
  rw [dig_text n (by omega)] at h
  exact h
set_option maxHeartbeats 400000 in
theorem l1Num_pos (k : Nat) : ∀ (n : Int) (w : World), k ≤ 8 → 0 ≤ n → n < 10 ^ (k + 1) →
    Calls Tryd.prog 28 #[.int .i64 n] w fun e w' => e = .returned (.string (num n)) ∧ ∃ m, w' = w.drewN m := by
  induction k with
  | zero =>
    intro n w hk h0 hn
    have h10 : n < 10 := by omega
    have hsl := digit_cut Tryd.prog 9 n Tryd.underlying9 h0 h10
    have E2 := Lib.hid (num_small n h0 h10)
    clear hn
    go_enter Tryd.func28, Tryd.ntmps28
    go_wp2_with fail
    go_ret
    exact ⟨ret_str (by rw [E2.out]; simp), 0, rfl⟩
  | succ k ih =>
    intro n w hk h0 hn
    by_cases h10 : n < 10
    · have hsl := digit_cut Tryd.prog 9 n Tryd.underlying9 h0 h10
      have E2 := Lib.hid (num_small n h0 h10)
      clear hn ih
      go_enter Tryd.func28, Tryd.ntmps28
      go_wp2_with fail
      go_ret
      exact ⟨ret_str (by rw [E2.out]; simp), 0, rfl⟩
    · have h2 : (10 : Int) ^ (k + 1 + 1) = 10 ^ (k + 1) * 10 := by rw [Int.pow_succ]
      have hsl := digit_cut Tryd.prog 9 (n % 10) Tryd.underlying9 (by omega) (by omega)
      have E2 := Lib.hid (num_big n h0 (by omega))
      have hs := num_len k (n / 10) (by omega) (by omega)
      have hs1 : (num (n / 10)).size ≤ 9 := by omega
      have h9 : (10 : Int) ^ (k + 1 + 1) ≤ 10 ^ 9 := by
        have e : k ≤ 7 := by omega
        have : ∀ i : Fin 8, (10 : Int) ^ (i.val + 1 + 1) ≤ 10 ^ 9 := by decide
        exact this ⟨k, by omega⟩
      have hn9 : n < 1000000000 := by omega
      have IH := Lib.hid (ih (n / 10))
      have HD : Hid (n / 10 < 10 ^ (k + 1)) := by show n / 10 < _; omega
      clear ih hn h2 h9 hs
      go_enter Tryd.func28, Tryd.ntmps28
      go_wp2_with fail
      go_quiet ((go_at_call 28; exact Calls.quiet_of (IH.out _ (by omega) (by omega) HD.out)))
      go_wp2_with fail
      go_ret
      exact ⟨ret_str (by rw [E2.out]; simp), nq, rfl⟩
set_option maxHeartbeats 400000 in
theorem l1Num_any (n : Int) (w : World) (h0 : -999999999 ≤ n) (h1 : n ≤ 999999999) :
    Calls Tryd.prog 28 #[.int .i64 n] w fun e w' => e = .returned (.string (num n)) ∧ ∃ m, w' = w.drewN m := by
  by_cases hn : n < 0
  · have E := Lib.hid (num_neg n hn)
    have hs := num_len 8 (-n) (by omega) (by omega)
    have hs1 : (num (-n)).size ≤ 9 := by omega
    clear hs
    go_enter Tryd.func28, Tryd.ntmps28
    go_wp2_with (go_at_call 28; refine (l1Num_pos 8 (-n) _ (by omega) (by omega) (by omega)).mono ?_; rintro e w' ⟨rfl, m, rfl⟩)
    go_ret
    exact ⟨ret_str E.out.symm, m, rfl⟩
  · exact l1Num_pos 8 n w (by omega) (by omega) (by omega)
end Go.Proofs.YtinlcbljpclccaaDoor
