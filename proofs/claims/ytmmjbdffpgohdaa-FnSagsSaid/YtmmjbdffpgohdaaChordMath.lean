/- The chord at a place, in plain words. No condition. -/
import Derived.Test.YtmmjbdffpgohdaaSpanAtC
namespace Go.Proofs.Ytmmjbdffpgohdaa
open Go.RowKit
set_option linter.unusedVariables false
/-- The chord's height at a place times the length of its span. -/
def chRaw (l : List Sup) (i : Nat) (p : Int) : Int := (nth l i).h * ((nth l (i + 1)).a - p) + (nth l (i + 1)).h * (p - (nth l i).a)
theorem chRaw_eq (l : List Sup) (i : Nat) (p : Int) : (nth l i).h * slen l i + srise l i * (p - (nth l i).a) = chRaw l i p := by
  unfold chRaw slen srise
  generalize (nth l i).h = H
  generalize (nth l (i + 1)).h = J
  generalize (nth l i).a = A
  generalize (nth l (i + 1)).a = B
  have e : B - A = (B - p) + (p - A) := by omega
  rw [e, Int.mul_add, Int.sub_mul]
  omega
theorem mulB {x y : Int} (h1 : 0 ≤ x ∧ x ≤ 2000) (h2 : 0 ≤ y ∧ y ≤ 3000) : 0 ≤ x * y ∧ x * y ≤ 6000000 :=
  ⟨Int.mul_nonneg h1.1 h2.1, by
    have := Int.mul_le_mul h1.2 h2.2 h2.1 (by omega : (0:Int) ≤ 2000)
    omega⟩
theorem chRaw_bd {l : List Sup} (hl : IsL l) {i : Nat} (hi : i + 1 < l.length) {p : Int} (h0 : (nth l i).a ≤ p) (h1 : p ≤ (nth l (i + 1)).a) : 0 ≤ chRaw l i p ∧ chRaw l i p ≤ 12000000 := by
  have b0 := hl.bd (i := i) (by omega)
  have b1 := hl.bd hi
  have m1 := mulB ⟨b0.2.2.1, b0.2.2.2⟩ (y := (nth l (i + 1)).a - p) (by omega)
  have m2 := mulB ⟨b1.2.2.1, b1.2.2.2⟩ (y := p - (nth l i).a) (by omega)
  unfold chRaw
  omega
/-- The greatest common divisor, for numbers that are not negative. -/
def gcdI (n d : Int) : Int := (Nat.gcd n.toNat d.toNat : Int)
theorem gcdI_pos {n d : Int} (hd : 0 < d) : 0 < gcdI n d := by
  unfold gcdI
  have : 0 < Nat.gcd n.toNat d.toNat := Nat.gcd_pos_of_pos_right _ (by omega)
  omega
theorem gcdI_le {n d : Int} (hd : 0 < d) : gcdI n d ≤ d := by
  unfold gcdI
  have : Nat.gcd n.toNat d.toNat ≤ d.toNat := Nat.le_of_dvd (by omega) (Nat.gcd_dvd_right _ _)
  omega
noncomputable def chN (l : List Sup) (p : Int) : Int := if onL l p then chRaw l (spanN l p) p / gcdI (chRaw l (spanN l p) p) (slen l (spanN l p)) else 0
noncomputable def chD (l : List Sup) (p : Int) : Int := if onL l p then slen l (spanN l p) / gcdI (chRaw l (spanN l p) p) (slen l (spanN l p)) else 0
/-- What is known of a place on a line. -/
structure OnAt (l : List Sup) (p : Int) (i : Nat) : Prop where
  line : IsL l
  lt : i + 1 < l.length
  lo : (nth l i).a ≤ p
  hi : p ≤ (nth l (i + 1)).a
  zero : 0 ≤ p
theorem onAt {l : List Sup} {p : Int} (h : onL l p = true) : OnAt l p (spanN l p) := by
  obtain ⟨hl, h0, h1⟩ := (onL_iff l p).1 h
  exact ⟨hl, spanN_lt hl.two h1, spanN_ge hl h0, spanN_hit hl.two h1, h0⟩
theorem gcd_step (x y : Nat) (hy : 0 < y) : Nat.gcd y (x % y) = Nat.gcd x y := by
  rw [Nat.gcd_comm y (x % y), ← Nat.gcd_rec, Nat.gcd_comm]
end Go.Proofs.Ytmmjbdffpgohdaa
