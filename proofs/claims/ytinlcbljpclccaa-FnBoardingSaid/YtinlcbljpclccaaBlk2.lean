/- Blocks of two cells: what they hold behind stores. No condition. -/
import Derived.Test.YtinlcbljpclccaaBlk3
namespace Go.Proofs.Ytinlcbljpclccaa
open Go.RowKit
set_option linter.unusedVariables false
theorem blk_new2 (w : World) (a c : Value) (t : TypeId) : (w.alloc (.cells #[a, c] t)).heap[w.heap.size]? = some (.cells #[a, c] t (0, 0)) := heap_alloc_new w _
theorem blk_cell2 {w : World} {b : Nat} {a c : Value} {t : TypeId} (h : w.heap[b]? = some (.cells #[a, c] t (0, 0))) :
    w.cell? ⟨b, 0, none⟩ = some a ∧ w.cell? ⟨b, 1, none⟩ = some c := by
  have h0 := cell_of_row w b 0 _ _ _ h
  have h1 := cell_of_row w b 1 _ _ _ h
  simp at h0 h1
  exact ⟨h0, h1⟩
theorem blk_froz2 {w : World} {b : Nat} {a c : Value} {t : TypeId} (h : w.heap[b]? = some (.cells #[a, c] t (0, 0))) :
    w.frozen? ⟨b, 0, none⟩ = false ∧ w.frozen? ⟨b, 1, none⟩ = false :=
  ⟨frozen_of_row w b 0 _ _ h, frozen_of_row w b 1 _ _ h⟩
theorem blk_all2 {w : World} {b : Nat} {a c x y : Value} {t : TypeId} (h : w.heap[b]? = some (.cells #[a, c] t (0, 0))) :
    ((w.setCell ⟨b, 0, none⟩ x).setCell ⟨b, 1, none⟩ y).heap[b]? = some (.cells #[x, y] t (0, 0)) := by
  have h1 := blk_put (i := 1) (v := y) (blk_put (i := 0) (v := x) h)
  simpa using h1
theorem below_all2 {B : Nat} {a w : World} (h : Below B a w) {b : Nat} (hb : B ≤ b) (x y : Value) : Below B a ((w.setCell ⟨b, 0, none⟩ x).setCell ⟨b, 1, none⟩ y) :=
  (h.setCell (p := ⟨b, 0, none⟩) hb x).setCell (p := ⟨b, 1, none⟩) hb y
theorem blk_other2 {w : World} {b j : Nat} {x y : Value} (h : b ≠ j) : ((w.setCell ⟨b, 0, none⟩ x).setCell ⟨b, 1, none⟩ y).heap[j]? = w.heap[j]? := (blk_by h).trans (blk_by h)
/-- the three boxes of a reading -/
theorem three_new (w : World) (o1 o2 : Obj) (a c : Value) (t : TypeId) : (((w.alloc o1).alloc o2).alloc (.cells #[a, c] t)).heap[w.heap.size + 2]? = some (.cells #[a, c] t (0, 0)) := by
  have h := blk_new2 ((w.alloc o1).alloc o2) a c t
  have e : ((w.alloc o1).alloc o2).heap.size = w.heap.size + 2 := by simp
  rw [e] at h; exact h
theorem two_new (w : World) (o1 o3 : Obj) (a c : Value) (t : TypeId) : (((w.alloc o1).alloc (.cells #[a, c] t)).alloc o3).heap[w.heap.size + 1]? = some (.cells #[a, c] t (0, 0)) := by
  have h := blk_new2 (w.alloc o1) a c t
  have e : (w.alloc o1).heap.size = w.heap.size + 1 := by simp
  rw [e] at h; exact blk_stay h
end Go.Proofs.Ytinlcbljpclccaa
