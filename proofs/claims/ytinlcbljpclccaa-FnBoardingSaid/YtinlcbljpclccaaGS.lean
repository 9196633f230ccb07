/- Lists of structs read by a total index. No condition. -/
import Derived.Test.YtinlcbljpclccaaRows
import Derived.Test.YtinlcbljpclccaaRs
import Derived.Test.YtinlcbljpclccaaDrew
import Derived.LoopTactic
import Derived.OwnWalk
import Derived.Below
import Derived.Outline
import Derived.WalkKit
import Derived.Lib.Hide
import Derived.Deep.QuietTactic
import Derived.BigQuiet
import Derived.Deep.RegionHeld3
import Derived.StillTailTactics
import Derived.RegionTactic
import Derived.Maps.AppendAt
namespace Go.Proofs.Ytinlcbljpclccaa
open Go.RowKit
set_option linter.unusedVariables false
/-- Element i of l (the default one past the end). -/
def gth {α : Type} [Inhabited α] (l : List α) (i : Nat) : α := l.getD i default
section
variable {α : Type} [Inhabited α]
theorem gth_some {l : List α} {i : Nat} (h : i < l.length) : l[i]? = some (gth l i) := by simp [gth, List.getD, h]
theorem gth_get {l : List α} {i : Nat} (h : i < l.length) : gth l i = l[i] := by simp [gth, List.getD, h]
theorem take_gth (l : List α) (j : Nat) (h : j < l.length) : l.take (j + 1) = l.take j ++ [gth l j] := by
  rw [List.take_add_one, gth_some h]; rfl
theorem drop_gth (l : List α) (j : Nat) (h : j < l.length) : l.drop j = gth l j :: l.drop (j + 1) := by
  rw [List.drop_eq_getElem_cons h, gth_get h]
theorem gth_mem {l : List α} {i : Nat} (h : i < l.length) : gth l i ∈ l := by rw [gth_get h]; exact List.getElem_mem h
theorem gth_ext {l r : List α} (h : l.length = r.length) (g : ∀ i, i < l.length → gth l i = gth r i) : l = r := by
  apply List.ext_getElem h
  intro i h1 h2
  have := g i h1
  rwa [gth_get h1, gth_get h2] at this
theorem gth_append_left {l r : List α} {i : Nat} (h : i < l.length) : gth (l ++ r) i = gth l i := by
  simp [gth, List.getD, List.getElem?_append_left h]
theorem gth_append_right {l r : List α} {i : Nat} (h : l.length ≤ i) : gth (l ++ r) i = gth r (i - l.length) := by
  simp [gth, List.getD, List.getElem?_append_right h]
theorem gth_take {l : List α} {n i : Nat} (h : i < n) : gth (l.take n) i = gth l i := by
  simp [gth, List.getD, h]
theorem gth_drop {l : List α} {n i : Nat} : gth (l.drop n) i = gth l (n + i) := by
  simp [gth, List.getD, List.getElem?_drop]
theorem gth_set_same {l : List α} {i : Nat} {x : α} (h : i < l.length) : gth (l.set i x) i = x := by simp [gth, List.getD, h]
theorem gth_set_other {l : List α} {i j : Nat} {x : α} (h : i ≠ j) : gth (l.set i x) j = gth l j := by simp [gth, List.getD, h]
theorem gth_map {β : Type} [Inhabited β] {l : List α} {f : α → β} {i : Nat} (h : i < l.length) : gth (l.map f) i = f (gth l i) := by
  simp [gth, List.getD, h]
end
theorem gs_addr (b off i : Nat) : (⟨b, off, none⟩ : Addr).add i = ⟨b, off + i, none⟩ := by
  unfold Addr.add; split
  · rename_i hz; rw [hz]; rfl
  · rfl
end Go.Proofs.Ytinlcbljpclccaa
