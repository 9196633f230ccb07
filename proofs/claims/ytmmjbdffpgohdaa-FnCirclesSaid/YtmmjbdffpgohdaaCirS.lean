/- Circles as values: what the laws do with them. Condition: sizes. -/
import Derived.Test.YtmmjbdffpgohdaaIntC
import Derived.Test.YtmmjbdffpgohdaaToInt
import Derived.Test.YtmmjbdffpgohdaaGS
import Derived.Test.YtmmjbdffpgohdaaBlk3
namespace Go.Proofs.Ytmmjbdffpgohdaa
open Go.RowKit
set_option linter.unusedVariables false
/-- a box of three cells -/
theorem box3 (w : World) (a b c : Value) (t : TypeId) (g : Nat) (hg : g = w.heap.size) (W : World) (h : Below (g + 1) (w.alloc (.cells #[a, b, c] t)) W) :
    W.cell? ⟨g, 0, none⟩ = some a ∧ W.cell? ⟨g, 1, none⟩ = some b ∧ W.cell? ⟨g, 2, none⟩ = some c := by
  subst hg
  refine ⟨?_, ?_, ?_⟩ <;> (rw [h.cell (by simp), World.cell?_alloc_at _ _ _ _ rfl]; rfl)
theorem Rd.isl {w : World} {v : Value} {l : List Int} (h : Rd w v (intVs l)) : ∃ a c, v = .slice a l.length c := by
  obtain ⟨a, c, h⟩ := h.lt (base := 0)
  exact ⟨a, c, by simpa [intVs] using h⟩
end Go.Proofs.Ytmmjbdffpgohdaa
