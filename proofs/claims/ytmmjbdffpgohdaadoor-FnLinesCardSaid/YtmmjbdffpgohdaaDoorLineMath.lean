/- What a line is, in plain words. No condition. -/
import Derived.Test.YtmmjbdffpgohdaaDoorSupS
import Derived.Test.YtmmjbdffpgohdaaDoorDrew
namespace Go.Proofs.YtmmjbdffpgohdaaDoor
open Go.RowKit
set_option linter.unusedVariables false
/-- The support i of a line is in order. -/
def OkAt (l : List Sup) (i : Nat) : Prop := 0 ≤ (nth l i).a ∧ (nth l i).a ≤ 3000 ∧ 0 ≤ (nth l i).h ∧ (nth l i).h ≤ 2000 ∧ (0 < i → (nth l (i - 1)).a < (nth l i).a)
structure IsL (l : List Sup) : Prop where
  two : 2 ≤ l.length
  eight : l.length ≤ 8
  a0 : (nth l 0).a = 0
  s0 : (nth l 0).s = true
  sl : (nth l (l.length - 1)).s = true
  ok : ∀ i, i < l.length → OkAt l i
theorem okAt_cases {l : List Sup} {i : Nat} (h : ¬ OkAt l i) :
    ((nth l i).a < 0 ∨ 3000 < (nth l i).a) ∨ (0 ≤ (nth l i).a ∧ (nth l i).a ≤ 3000 ∧ ((nth l i).h < 0 ∨ 2000 < (nth l i).h)) ∨
    (0 ≤ (nth l i).a ∧ (nth l i).a ≤ 3000 ∧ 0 ≤ (nth l i).h ∧ (nth l i).h ≤ 2000 ∧ 0 < i ∧ (nth l i).a ≤ (nth l (i - 1)).a) := by
  unfold OkAt at h
  by_cases h1 : 0 ≤ (nth l i).a ∧ (nth l i).a ≤ 3000
  · by_cases h2 : 0 ≤ (nth l i).h ∧ (nth l i).h ≤ 2000
    · refine .inr (.inr ⟨h1.1, h1.2, h2.1, h2.2, ?_⟩)
      by_cases h3 : 0 < i ∧ (nth l i).a ≤ (nth l (i - 1)).a
      · exact h3
      · exact absurd ⟨h1.1, h1.2, h2.1, h2.2, by intro hp; omega⟩ h
    · exact .inr (.inl ⟨h1.1, h1.2, by omega⟩)
  · exact .inl (by omega)
/-- The cells of a line. -/
def SupAt (w : World) (b off : Nat) (l : List Sup) : Prop := ∀ i, i < l.length →
  w.cell? ⟨b, off + i * 3, none⟩ = some (.int .i64 (nth l i).a) ∧ w.cell? ⟨b, off + i * 3 + 1, none⟩ = some (.int .i64 (nth l i).h) ∧ w.cell? ⟨b, off + i * 3 + 2, none⟩ = some (.bool (nth l i).s)
theorem SupAt.below {w w' : World} {b off : Nat} {l : List Sup} {B : Nat} (h : SupAt w b off l) (hb : Below B w w') (hlt : b < B) : SupAt w' b off l := fun i hi =>
  ⟨(hb.cell (p := ⟨b, off + i * 3, none⟩) hlt).trans (h i hi).1, (hb.cell (p := ⟨b, off + i * 3 + 1, none⟩) hlt).trans (h i hi).2.1, (hb.cell (p := ⟨b, off + i * 3 + 2, none⟩) hlt).trans (h i hi).2.2⟩
theorem SupAt.drew {w w' : World} {b off : Nat} {l : List Sup} (h : SupAt w b off l) (hd : Drew w w') : SupAt w' b off l := fun i hi =>
  ⟨(hd.cell _).trans (h i hi).1, (hd.cell _).trans (h i hi).2.1, (hd.cell _).trans (h i hi).2.2⟩
theorem SupAt.zero {w : World} {b off : Nat} {l : List Sup} (h : SupAt w b off l) (h0 : 0 < l.length) :
    w.cell? ⟨b, off, none⟩ = some (.int .i64 (nth l 0).a) ∧ w.cell? ⟨b, off + 1, none⟩ = some (.int .i64 (nth l 0).h) ∧ w.cell? ⟨b, off + 2, none⟩ = some (.bool (nth l 0).s) := by
  have := h 0 h0; simpa using this
theorem Rs.sup {w : World} {v : Value} {l : List Sup} (h : Rs w v l.length (sups l)) (h0 : l.length ≠ 0) :
    ∃ b off cap, v = .slice (some ⟨b, off, none⟩) l.length cap ∧ b < w.heap.size ∧ l.length ≤ maxLen ∧ SupAt w b off l := by
  obtain ⟨b, off, cap, rfl, hb, hc, hm, hx⟩ := h.pos h0
  refine ⟨b, off, cap, rfl, hb, hm, fun i hi => ?_⟩
  obtain ⟨e0, e1, e2⟩ := sups_at l i hi
  exact ⟨hx _ _ e0, hx _ _ e1, hx _ _ e2⟩
end Go.Proofs.YtmmjbdffpgohdaaDoor
