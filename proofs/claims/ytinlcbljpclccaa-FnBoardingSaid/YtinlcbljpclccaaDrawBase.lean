/- What all drawing functions share. No condition. -/
import Derived.Test.YtinlcbljpclccaaCurAm
import Derived.Deep.Heap
namespace Go.Proofs.Ytinlcbljpclccaa
open Go.RowKit
set_option linter.unusedVariables false
theorem num_cells1 (w : World) (t : TypeId) (l : List Int) (cs : Array Value) (hcs : cs = (l.map (Value.int .i64)).toArray) (g : Nat) (hg : g = w.heap.size) :
    ∀ (i : Nat) (h : i < l.length), (w.alloc (.cells cs t)).cell? ⟨g, i, none⟩ = some (.int .i64 l[i]) := by subst hg; exact num_cells w t l cs hcs
theorem grown_past {w w2 w3 : World} {row : Option Nat} {S : Nat} (h : w.grownBy w2 row) (g : w2.grownBy w3 (some S)) (hS : w.heap.size ≤ S) : w.grownBy w3 row :=
  ⟨g.os.trans h.os, g.tape.trans h.tape, g.output.trans h.output, Nat.le_trans h.size g.size, fun k hk hr => (g.block k (Nat.lt_of_lt_of_le hk h.size) (fun e => by cases e; omega)).trans (h.block k hk hr)⟩
theorem blk_setD {w : World} {b i : Nat} {cs : Array Value} {t : TypeId} {v : Value} (h : w.heap[b]? = some (.cells cs t (0, 0))) : (w.setCell ⟨b, i, none⟩ v).heap[b]? = some (.cells (cs.setIfInBounds i v) t (0, 0)) := by
  simp [World.setCell, Array.getElem?_modify, h]
theorem old_allocD {W : World} {o o' : Obj} {g : Nat} (h : W.heap[g]? = some o) : (W.alloc o').heap[g]? = some o := by
  have hl := (Array.getElem?_eq_some_iff.1 h).1
  exact (((Below.refl W.heap.size W).alloc (Nat.le_refl _) o').block g hl).trans h
theorem aszD (W : World) (o : Obj) : W.heap.size + 1 = (W.alloc o).heap.size := by simp
def imaxD (a b : Int) : Int := if b < a then a else b
end Go.Proofs.Ytinlcbljpclccaa
