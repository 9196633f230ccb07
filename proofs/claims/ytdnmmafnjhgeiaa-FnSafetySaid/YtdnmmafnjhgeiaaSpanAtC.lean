/- SpanAt: the program's and the specification's answer as one function of the line and the place. Condition: sizes. -/
import Derived.Test.YtdnmmafnjhgeiaaSpanW
namespace Go.Proofs.Ytdnmmafnjhgeiaa
open Go.RowKit
set_option linter.unusedVariables false
theorem ret_ib {k : IntKind} {a b : Int} {p q : Bool} (h : a = b) (g : p = q) : Ending.returned (.tuple #[.int k a, .bool p]) = .returned (.tuple #[.int k b, .bool q]) := by rw [h, g]
noncomputable def onL (l : List Sup) (p : Int) : Bool := isL l && (decide (0 ≤ p) && decide (p ≤ (nth l (l.length - 1)).a))
/-- The span with a place: the first one that ends at it or behind it. -/
def spanN (l : List Sup) (p : Int) : Nat := (List.range (l.length - 1)).findIdx (fun i => decide (p ≤ (nth l (i + 1)).a))
noncomputable def spanOf (l : List Sup) (p : Int) : Int := if onL l p then (spanN l p : Int) else 0
theorem spanN_eq {l : List Sup} {p : Int} {i : Nat} (h : i + 1 < l.length) (h1 : p ≤ (nth l (i + 1)).a) (h2 : ∀ j, j < i → ¬ p ≤ (nth l (j + 1)).a) : spanN l p = i := by
  unfold spanN
  rw [List.findIdx_eq (by simp; omega)]
  refine ⟨by simpa using h1, fun j hj => ?_⟩
  simpa using h2 j hj
theorem onL_iff (l : List Sup) (p : Int) : onL l p = true ↔ IsL l ∧ 0 ≤ p ∧ p ≤ (nth l (l.length - 1)).a := by
  unfold onL; simp [isL_iff]
theorem spanN_lt {l : List Sup} {p : Int} (h2 : 2 ≤ l.length) (h : p ≤ (nth l (l.length - 1)).a) : spanN l p + 1 < l.length := by
  have : spanN l p < (List.range (l.length - 1)).length := by
    unfold spanN
    rw [List.findIdx_lt_length]
    refine ⟨l.length - 2, by simp; omega, ?_⟩
    have e : l.length - 2 + 1 = l.length - 1 := by omega
    simpa [e] using h
  simp at this; omega
theorem spanN_hit {l : List Sup} {p : Int} (h2 : 2 ≤ l.length) (h : p ≤ (nth l (l.length - 1)).a) : p ≤ (nth l (spanN l p + 1)).a := by
  have hlt := spanN_lt h2 h
  have : spanN l p < (List.range (l.length - 1)).length := by simp; omega
  unfold spanN at this ⊢
  have := List.findIdx_getElem (w := this)
  simpa using this
theorem spanN_least {l : List Sup} {p : Int} {j : Nat} (h : j < spanN l p) : (nth l (j + 1)).a < p := by
  unfold spanN at h
  have := List.not_of_lt_findIdx h
  simp at this
  exact this
theorem IsL.mono {l : List Sup} (hl : IsL l) : ∀ (d i : Nat), i + d < l.length → (nth l i).a ≤ (nth l (i + d)).a
  | 0, i, _ => Int.le_refl _
  | d + 1, i, h => by
    have h1 := IsL.mono hl d i (by omega)
    have h2 := hl.asc (i := i + d) (by omega)
    have e : i + (d + 1) = i + d + 1 := by omega
    rw [e]; omega
/-- The place lies behind the start of its span, or at it. -/
theorem spanN_ge {l : List Sup} {p : Int} (hl : IsL l) (h0 : 0 ≤ p) : (nth l (spanN l p)).a ≤ p := by
  cases h : spanN l p with
  | zero => rw [hl.a0]; exact h0
  | succ j => have := spanN_least (l := l) (p := p) (j := j) (by omega); omega
end Go.Proofs.Ytdnmmafnjhgeiaa
