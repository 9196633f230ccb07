/- The walks of FormatInt. Condition: the table of the library's is as laid. -/
import Derived.Test.YtinlcbljpclccaaDoorNumW
import Derived.Test.YtinlcbljpclccaaDoorShelf
import Derived.Test.YtinlcbljpclccaaDoorRd
import Derived.WalkSmall
namespace Go.Proofs.YtinlcbljpclccaaDoor
open Go.RowKit
set_option linter.unusedVariables false
/-- The library's table of powers is as laid. -/
def TabP (w : World) : Prop := Lib.TabIs Tryd.prog w "internal/strconv.uint64pow10" .u64 Lib.pow10Tab
theorem gTab : Tryd.prog.globalNamed "internal/strconv.uint64pow10" = some 0 := by kernel_rfl
theorem tab_lt {w : World} (h : TabP w) : 0 < w.heap.size := by
  have h' : w.var? Tryd.prog "internal/strconv.uint64pow10" = _ := h
  unfold World.var? at h'
  simp only [gTab, Option.bind_some] at h'
  cases hb : w.heap[0]? with
  | none => simp [hb] at h'
  | some o => exact (Array.getElem?_eq_some_iff.1 hb).1
theorem TabP.below {w w' : World} (h : TabP w) (hb : Below w.heap.size w w') : TabP w' := var?_below hb gTab (tab_lt h) h
theorem TabP.drewN {w : World} (h : TabP w) (m : Nat) : TabP (w.drewN m) := h.below (below_drewN (Below.refl _ _) m)
theorem below_grow (w : World) (q : Nat) (os : Array Obj) : Below w.heap.size w (Go.Sort.grow (w.drewN q) os) :=
  ⟨rfl, rfl, rfl, by show w.heap.size ≤ (w.heap ++ os).size; simp, fun i hi => by
    show ((w.drewN q).heap ++ os)[i]? = _
    rw [Array.getElem?_append_left (by show i < w.heap.size; omega)]
    rfl⟩
end Go.Proofs.YtinlcbljpclccaaDoor
