/- Blocks of three cells: what they hold behind stores. No condition. -/
import Derived.Test.YtinlcbljpclccaaGS
import Derived.Laws.Rows
import Derived.Deep.Heap
namespace Go.Proofs.Ytinlcbljpclccaa
open Go.RowKit
set_option linter.unusedVariables false
theorem blk_put {w : World} {b i : Nat} {cs : Array Value} {t : TypeId} {v : Value} (h : w.heap[b]? = some (.cells cs t (0, 0))) : (w.setCell ⟨b, i, none⟩ v).heap[b]? = some (.cells (cs.setIfInBounds i v) t (0, 0)) := by
  simp [World.setCell, Array.getElem?_modify, h]
theorem blk_by {w : World} {b i j : Nat} {v : Value} (h : b ≠ j) : (w.setCell ⟨b, i, none⟩ v).heap[j]? = w.heap[j]? := by
  simp [World.setCell, Array.getElem?_modify, h]
theorem blk_new3 (w : World) (a c d : Value) (t : TypeId) : (w.alloc (.cells #[a, c, d] t)).heap[w.heap.size]? = some (.cells #[a, c, d] t (0, 0)) := heap_alloc_new w _
theorem blk_keep {w w' : World} {B b : Nat} {o : Obj} (h : w.heap[b]? = some o) (hb : Below B w w') (hB : b < B) : w'.heap[b]? = some o := (hb.block b hB).trans h
theorem blk_stay {w : World} {b : Nat} {o o' : Obj} (h : w.heap[b]? = some o) : (w.alloc o').heap[b]? = some o := by
  have hl := (Array.getElem?_eq_some_iff.1 h).1
  exact (((Below.refl w.heap.size w).alloc (Nat.le_refl _) o').block b hl).trans h
theorem blk_lt {w : World} {b : Nat} {o : Obj} (h : w.heap[b]? = some o) : b < w.heap.size := (Array.getElem?_eq_some_iff.1 h).1
theorem blk_cell3 {w : World} {b : Nat} {a c d : Value} {t : TypeId} (h : w.heap[b]? = some (.cells #[a, c, d] t (0, 0))) :
    w.cell? ⟨b, 0, none⟩ = some a ∧ w.cell? ⟨b, 1, none⟩ = some c ∧ w.cell? ⟨b, 2, none⟩ = some d := by
  have h0 := cell_of_row w b 0 _ _ _ h
  have h1 := cell_of_row w b 1 _ _ _ h
  have h2 := cell_of_row w b 2 _ _ _ h
  simp at h0 h1 h2
  exact ⟨h0, h1, h2⟩
theorem blk_froz3 {w : World} {b : Nat} {a c d : Value} {t : TypeId} (h : w.heap[b]? = some (.cells #[a, c, d] t (0, 0))) :
    w.frozen? ⟨b, 0, none⟩ = false ∧ w.frozen? ⟨b, 1, none⟩ = false ∧ w.frozen? ⟨b, 2, none⟩ = false :=
  ⟨frozen_of_row w b 0 _ _ h, frozen_of_row w b 1 _ _ h, frozen_of_row w b 2 _ _ h⟩
theorem blk_all3 {w : World} {b : Nat} {a c d x y z : Value} {t : TypeId} (h : w.heap[b]? = some (.cells #[a, c, d] t (0, 0))) :
    (((w.setCell ⟨b, 0, none⟩ x).setCell ⟨b, 1, none⟩ y).setCell ⟨b, 2, none⟩ z).heap[b]? = some (.cells #[x, y, z] t (0, 0)) := by
  have h1 := blk_put (i := 2) (v := z) (blk_put (i := 1) (v := y) (blk_put (i := 0) (v := x) h))
  simpa using h1
theorem below_all3 {B : Nat} {a w : World} (h : Below B a w) {b : Nat} (hb : B ≤ b) (x y z : Value) : Below B a (((w.setCell ⟨b, 0, none⟩ x).setCell ⟨b, 1, none⟩ y).setCell ⟨b, 2, none⟩ z) :=
  ((h.setCell (p := ⟨b, 0, none⟩) hb x).setCell (p := ⟨b, 1, none⟩) hb y).setCell (p := ⟨b, 2, none⟩) hb z
theorem grown_put (w : World) (a : Addr) (v : Value) : w.grownBy (w.setCell a v) (some a.block) :=
  ⟨rfl, rfl, rfl, by simp [World.setCell], fun k hk hne => by simp only [World.setCell, Array.getElem?_modify]; rw [if_neg (fun e => hne (by rw [e]))]⟩
theorem grown_all3 (w : World) (b : Nat) (x y z : Value) : w.grownBy (((w.setCell ⟨b, 0, none⟩ x).setCell ⟨b, 1, none⟩ y).setCell ⟨b, 2, none⟩ z) (some b) :=
  ((grown_put w ⟨b, 0, none⟩ x).trans (grown_put _ ⟨b, 1, none⟩ y)).trans (grown_put _ ⟨b, 2, none⟩ z)
/-- a row that lies in another block stays through stores -/
theorem own_by {w w' : World} {B e size n : Nat} {v : Value} {xs : List Value} {b : Nat} (h : w.ownsRow B e size v n xs) (hg : w.grownBy w' (some b)) (hne : v.ownBlock ≠ some b) : w'.ownsRow B e size v n xs := h.kept hg (.inr hne)
end Go.Proofs.Ytinlcbljpclccaa
