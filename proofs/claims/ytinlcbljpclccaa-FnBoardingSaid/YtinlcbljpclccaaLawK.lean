/- Exact laws whose functions take and hand back structs: what a region leaves. Condition: none. -/
import Derived.Test.YtinlcbljpclccaaBlk2
import Derived.Test.YtinlcbljpclccaaBlk3
import Derived.Deep.DeepCutAuto
namespace Go.Proofs.Ytinlcbljpclccaa
open Go.RowKit
set_option linter.unusedVariables false
theorem below_al {a w : World} (h : Below a.heap.size a w) (o : Obj) : Below a.heap.size a (w.alloc o) := h.alloc h.size o
theorem bel_then {a x w' : World} (h : Below a.heap.size a x) (k : Below x.heap.size x w') : Below a.heap.size a w' := h.trans (k.mono h.size)
theorem new_at (w : World) (o : Obj) (n : Nat) (h : n = w.heap.size) : (w.alloc o).heap[n]? = some o := by subst h; exact heap_alloc_new w o
theorem blk_kept {w w' : World} {b : Nat} {o : Obj} (h : w.heap[b]? = some o) (k : Below w.heap.size w w') : w'.heap[b]? = some o := blk_keep h k (blk_lt h)
theorem blk_drew {w : World} {b : Nat} {o : Obj} (h : w.heap[b]? = some o) : w.drew.heap[b]? = some o := h
theorem named12 {a w' : World} {B : Nat} (h : Hid (Below B a w')) : ∃ W : World, W = w' := ⟨_, rfl⟩
/-- a row's block is no block of another type -/
theorem own_ne {w : World} {B e size n b : Nat} {v : Value} {xs : List Value} {cs : Array Value} {t : TypeId} {fr : Nat × Nat} (h : w.ownsRow B e size v n xs) (hb : w.heap[b]? = some (.cells cs t fr)) (ht : t ≠ e) : v.ownBlock ≠ some b := by
  rcases h.2 with ⟨rfl, _⟩ | ⟨g, cap, cur, rfl, _, hg, _⟩
  · simp [Value.ownBlock]
  · intro e2
    simp only [Value.ownBlock, Option.some.injEq] at e2
    subst e2
    rw [hb] at hg
    cases hg
    exact ht rfl
end Go.Proofs.Ytinlcbljpclccaa
