/- Plain facts on reading decimals. No condition. -/
import Derived.Test.YtmmjbdffpgohdaaDoorNumMath
import Derived.Lib.Atoi
namespace Go.Proofs.YtmmjbdffpgohdaaDoor
open Go.RowKit
set_option linter.unusedVariables false
theorem decFrom_app (l r : List UInt8) : ∀ acc, Lib.decFrom acc (l ++ r) = (Lib.decFrom acc l).bind fun m => Lib.decFrom m r := by
  induction l with
  | nil => intro acc; rfl
  | cons b l ih =>
    intro acc
    simp only [List.cons_append, Lib.decFrom]
    cases Lib.digitVal b with
    | none => rfl
    | some d => exact ih _
theorem dig_val (d : Nat) (h : d < 10) : Lib.digitVal (UInt8.ofNat (48 + d)) = some d := by
  have : ∀ i : Fin 10, Lib.digitVal (UInt8.ofNat (48 + i.val)) = some i.val := by decide
  exact this ⟨d, h⟩
theorem decDigits_val (u : Nat) : Lib.decFrom 0 (Lib.decDigits u) = some u := by
  induction u using Nat.strongRecOn with
  | _ u ih =>
    by_cases h : u < 10
    · rw [Lib.decDigits_one h, Lib.decFrom, dig_val u h]; simp [Lib.decFrom]
    · rw [Lib.decDigits, dif_neg h, decFrom_app, ih (u / 10) (by omega)]
      simp only [Option.bind_some, Lib.decFrom, dig_val (u % 10) (by omega)]
      congr 1; omega
theorem decDigits_ne (u : Nat) : Lib.decDigits u ≠ [] := by
  intro h
  have := Lib.decDigits_length u
  rw [h] at this
  have := Lib.nDigits_pos u
  simp at *; omega
theorem decDigits_dig (u : Nat) : ∀ c ∈ Lib.decDigits u, 48 ≤ c.toNat ∧ c.toNat ≤ 57 := by
  induction u using Nat.strongRecOn with
  | _ u ih =>
    have hd : ∀ i : Fin 10, 48 ≤ (UInt8.ofNat (48 + i.val)).toNat ∧ (UInt8.ofNat (48 + i.val)).toNat ≤ 57 := by decide
    by_cases h : u < 10
    · rw [Lib.decDigits_one h]
      intro c hc
      obtain rfl : c = UInt8.ofNat (48 + u) := List.mem_singleton.1 hc
      exact hd ⟨u, h⟩
    · rw [Lib.decDigits, dif_neg h]
      intro c hc
      rcases List.mem_append.1 hc with hc | hc
      · exact ih _ (by omega) c hc
      · obtain rfl : c = UInt8.ofNat (48 + u % 10) := List.mem_singleton.1 hc
        exact hd ⟨u % 10, by omega⟩
theorem num_list (n : Int) : (num n).data.toList = Lib.itoa n := by simp [num]
theorem atoi_num (n : Int) : Lib.atoi (num n).data.toList = some n := by
  rw [num_list]
  unfold Lib.itoa
  split
  · simp only [Lib.atoi, beq_self_eq_true, if_true, Lib.decNat]
    have h : (Lib.decDigits n.natAbs).isEmpty = false := by simpa using decDigits_ne n.natAbs
    rw [h, decDigits_val]
    simp; omega
  · rename_i h0
    have hne := decDigits_ne n.toNat
    cases hl : Lib.decDigits n.toNat with
    | nil => exact absurd hl hne
    | cons b r =>
      have hb := decDigits_dig n.toNat b (by rw [hl]; simp)
      have h1 : (b == 45) = false := by rw [beq_eq_false_iff_ne]; rintro rfl; simp at hb
      have h2 : (b == 43) = false := by rw [beq_eq_false_iff_ne]; rintro rfl; simp at hb
      simp only [Lib.atoi, h1, h2, Lib.decNat]
      rw [← hl]
      have h : (Lib.decDigits n.toNat).isEmpty = false := by simpa using hne
      rw [h, decDigits_val]
      simp; omega
theorem num_inj {a b : Int} (h : num a = num b) : a = b := by
  have ha := atoi_num a
  rw [h, atoi_num b] at ha
  exact (Option.some.inj ha).symm
/-- s is the decimal of some number in the range. -/
def Dec (s : ByteArray) : Prop := ∃ n : Int, -999999 ≤ n ∧ n ≤ 999999 ∧ num n = s
theorem num_size (n : Int) (h0 : -999999 ≤ n) (h1 : n ≤ 999999) : (num n).size ≤ 7 ∧ 1 ≤ (num n).size := by
  by_cases h : n < 0
  · have := num_len 5 (-n) (by omega) (by omega)
    rw [num_neg n h, ByteArray.size_append]
    have e : (⟨#[45]⟩ : ByteArray).size = 1 := rfl
    omega
  · have := num_len 5 n (by omega) (by omega)
    omega
end Go.Proofs.YtmmjbdffpgohdaaDoor
