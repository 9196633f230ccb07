/- The kinds that are possible: both sides. Condition: sizes. -/
import Derived.Test.YtinlcbljpclccaaDoorBpC
import Derived.Test.YtinlcbljpclccaaDoorAft
import Derived.Test.YtinlcbljpclccaaDoorAppAny
import Derived.Deep.DeepCutAuto
import Derived.Deep.AppendLies
namespace Go.Proofs.YtinlcbljpclccaaDoor
open Go.RowKit
set_option linter.unusedVariables false
theorem Tryd.infoStrB : (Tryd.prog.info? 9).map (fun i => (i.zero, i.size, i.bytes)) = some (some (.string ⟨#[]⟩), 1, 16) := by kernel_rfl
def kinW (l : List ByteArray) : List Value := l.map Value.string
theorem kinW_snoc (l : List ByteArray) (x : ByteArray) : kinW (l ++ [x]) = kinW l ++ [.string x] := by simp [kinW]
/-- The possible ones among the first j kinds. -/
def pkx (p : Plt) (j : Nat) : List ByteArray := (allK.take j).filter (pkB p)
theorem pkx_succ (p : Plt) (j : Nat) (h : j < 8) : pkx p (j + 1) = if pkB p (gth allK j) = true then pkx p j ++ [gth allK j] else pkx p j := by
  unfold pkx
  rw [take_gth allK j h, List.filter_append]
  by_cases e : pkB p (gth allK j) = true <;> simp [List.filter, e]
theorem pkx_len (p : Plt) (j : Nat) : (pkx p j).length ≤ 8 := by
  unfold pkx
  refine Nat.le_trans (List.length_filter_le _ _) ?_
  rw [List.length_take]; exact Nat.min_le_right _ _
theorem pkx_all {p : Plt} (h : plV p = true) : pkx p 8 = pkL p := by simp [pkx, pkL, h, allK]
theorem pkL_len (p : Plt) : (pkL p).length ≤ 8 := by
  unfold pkL; split
  · exact List.length_filter_le _ _
  · simp
theorem pkL_no {p : Plt} (h : plV p = false) : pkL p = [] := by simp [pkL, h]
theorem allK_most (j : Nat) (h : j < 8) : 0 ≤ mostK (gth allK j) := by
  rcases (by omega : j = 0 ∨ j = 1 ∨ j = 2 ∨ j = 3 ∨ j = 4 ∨ j = 5 ∨ j = 6 ∨ j = 7) with rfl | rfl | rfl | rfl | rfl | rfl | rfl | rfl
  · show 0 ≤ mostK kCome; rw [mostK_0]; decide
  · show 0 ≤ mostK kOpen; rw [mostK_1]; decide
  · show 0 ≤ mostK kShut; rw [mostK_2]; decide
  · show 0 ≤ mostK kEnter; rw [mostK_3]; decide
  · show 0 ≤ mostK kLeave; rw [mostK_4]; decide
  · show 0 ≤ mostK kArrive; rw [mostK_5]; decide
  · show 0 ≤ mostK kLevel; rw [mostK_6]; decide
  · show 0 ≤ mostK kGo; rw [mostK_7]; decide
theorem pk_step {k : ByteArray} (p : Plt) (h : 0 ≤ mostK k) : stOk p ⟨k, bcL k⟩ = pkB p k := by
  have e : bcL k = min 1 (mostK k) := by unfold bcL; split <;> omega
  have v : evV ⟨k, bcL k⟩ = true := by
    rw [evV_iff]
    show (mostK k = 0 ∧ bcL k = 0) ∨ (1 ≤ bcL k ∧ bcL k ≤ mostK k)
    unfold bcL; split <;> omega
  unfold stOk pkB
  rw [v, Bool.true_and]
  show canP p (kd k) (bcL k) = _
  rw [e]
theorem lit_kin : (#[.string ⟨#[99, 111, 109, 101]⟩, .string ⟨#[111, 112, 101, 110]⟩, .string ⟨#[115, 104, 117, 116]⟩, .string ⟨#[101, 110, 116, 101, 114]⟩, .string ⟨#[108, 101, 97, 118, 101]⟩, .string ⟨#[97, 114, 114, 105, 118, 101]⟩, .string ⟨#[108, 101, 118, 101, 108]⟩, .string ⟨#[103, 111]⟩] : Array Value) = (allK.map Value.string).toArray := rfl
theorem lit_cell {w : World} {Q j : Nat} {t : TypeId} (h : w.heap[Q]? = some (.cells #[.string ⟨#[99, 111, 109, 101]⟩, .string ⟨#[111, 112, 101, 110]⟩, .string ⟨#[115, 104, 117, 116]⟩, .string ⟨#[101, 110, 116, 101, 114]⟩, .string ⟨#[108, 101, 97, 118, 101]⟩, .string ⟨#[97, 114, 114, 105, 118, 101]⟩, .string ⟨#[108, 101, 118, 101, 108]⟩, .string ⟨#[103, 111]⟩] t (0, 0))) (hj : j < 8) : w.cell? ⟨Q, j, none⟩ = some (.string (gth allK j)) := by
  rw [cell_of_row w Q j _ _ _ h]
  rcases (by omega : j = 0 ∨ j = 1 ∨ j = 2 ∨ j = 3 ∨ j = 4 ∨ j = 5 ∨ j = 6 ∨ j = 7) with rfl | rfl | rfl | rfl | rfl | rfl | rfl | rfl <;> rfl
theorem grow_keep {w w' : World} {B e size n b : Nat} {v : Value} {xs : List Value} {cs : Array Value} {t : TypeId} {fr : Nat × Nat} (h : w.ownsRow B e size v n xs) (g : w.grownBy w' v.ownBlock) (hb : w.heap[b]? = some (.cells cs t fr)) (ht : t ≠ e) : w'.heap[b]? = some (.cells cs t fr) :=
  (g.block b (blk_lt hb) (fun e2 => own_ne h hb ht e2.symm)).trans hb
theorem grow_other {w w' : World} {b : Nat} {row : Option Nat} {o : Obj} (g : w.grownBy w' row) (hb : w.heap[b]? = some o) (hne : row ≠ some b) : w'.heap[b]? = some o :=
  (g.block b (blk_lt hb) (fun e2 => hne e2.symm)).trans hb
end Go.Proofs.YtinlcbljpclccaaDoor
