/- The walks of the model's JoinStrings, and of what the laws use around it. Condition: sizes. -/
import Derived.Test.YtmmjbdffpgohdaaDoorRows
import Derived.Test.YtmmjbdffpgohdaaDoorRd
import Derived.Test.YtmmjbdffpgohdaaDoorJoinMath
import Derived.Test.YtmmjbdffpgohdaaDoorStandsW
import Derived.LoopTactic
import Derived.OwnWalk
import Derived.Below
import Derived.Outline
import Derived.WalkKit
import Derived.Lib.Hide
import Derived.Deep.QuietTactic
import Derived.BigQuiet
import Derived.Laws.MakeOwn
namespace Go.Proofs.YtmmjbdffpgohdaaDoor
open Go.RowKit
set_option linter.unusedVariables false
/-- A reader's slice of strings that is not empty. -/
theorem Rd.strs {w : World} {v : Value} {l : List ByteArray} (h : Rd w v (l.map Value.string)) (h0 : l ≠ []) :
    ∃ b off cap, v = .slice (some ⟨b, off, none⟩) l.length cap ∧ b < w.heap.size ∧ l.length ≤ cap ∧ l.length ≤ 9223372036854775807 ∧ ∀ (k : Nat) (h : k < l.length), w.cell? ⟨b, off + k, none⟩ = some (.string l[k]) := by
  rcases h with ⟨h, _⟩ | ⟨b, o, c, h, h1, h2, h3⟩
  · simp at h; exact absurd h h0
  · simp at h h2
    exact ⟨b, o, c, h, h1, h2.1, by have := h2.2; unfold maxLen at this; omega, fun k hk => h3 k _ (by simp [hk])⟩
theorem Rd.slc {w : World} {v : Value} {l : List ByteArray} (h : Rd w v (l.map Value.string)) : ∃ a cap, v = .slice a l.length cap := by
  obtain ⟨a, c, h⟩ := h.lt (base := 0)
  exact ⟨a, c, by simpa using h⟩
theorem Rd.empty {w : World} {v : Value} (h : Rd w v []) : ∃ a cap, v = .slice a 0 cap := by
  rcases h with ⟨_, h⟩ | ⟨b, o, c, h, _⟩
  · exact h
  · exact ⟨_, _, h⟩
end Go.Proofs.YtmmjbdffpgohdaaDoor
