/- Rows of structs and the library's sort: an own row as the sort takes it, and behind it. No condition. -/
import Derived.Test.YtiogjocbiagipabDoorCabInC
import Derived.Test.YtiogjocbiagipabDoorAppAny
import Derived.Shelf.SlSortCmp.SmallK
import Derived.Sort.OwnSorted
namespace Go.Proofs.YtiogjocbiagipabDoor
open Go.RowKit Go.Sort Go.Shelf Go.Lib
set_option linter.unusedVariables false
theorem flat_bang {α : Type} [Inhabited α] {enc : α → List Value} {k : Nat} (hk : ∀ x, (enc x).length = k) (l : List α) (t : Nat) (ht : t < l.length * k) :
    (flat enc l)[t]? = some ((flatK enc k l.toArray)[t]!) := by
  have k0 : 0 < k := by rcases Nat.eq_zero_or_pos k with h | h; · subst h; simp at ht
                        · exact h
  rw [get_flatK _ _ _ _ (by simpa using ht)]
  have hi : t / k < l.length := Nat.div_lt_of_lt_mul (by rwa [Nat.mul_comm] at ht)
  have hm := Nat.mod_lt t k0
  have h := flat_at hk default l (t / k) (t % k) hi hm
  rw [Nat.mul_comm (t / k) k, Nat.div_add_mod] at h
  rw [h]
  have e1 : l.toArray[t / k]! = l.getD (t / k) default := by simp [List.getD, Array.getElem!_eq_getD, Array.getD_eq_getD_getElem?]
  rw [e1, List.getElem?_eq_getElem (by rw [hk]; exact hm)]
  rw [getElem!_pos _ _ (by rw [hk]; exact hm)]
theorem holdsK_own {α : Type} [Inhabited α] {enc : α → List Value} {k : Nat} (hk : ∀ x, (enc x).length = k) {w : World} {B g cap : Nat} {T : TypeId} {l : List α} (h : w.ownsRow B T k (.slice (some ⟨g, 0, none⟩) l.length cap) l.length (flat enc l)) : HoldsK enc k w g 0 l.toArray := by
  intro j hj
  have hj' : j < l.length * k := by simpa using hj
  have h1 := flat_bang hk l j hj'
  have hl := flat_len hk l
  refine ⟨?_, ?_⟩
  · have := h.cellAt j (by omega)
    rw [Nat.zero_add]
    rw [this, h1]; rfl
  · have := h.frozenAt j
    rw [Nat.zero_add]; exact this
theorem flatK_list {α : Type} [Inhabited α] {enc : α → List Value} {k : Nat} (hk : ∀ x, (enc x).length = k) (d : Array α) : (flatK enc k d).toList = flat enc d.toList := by
  apply List.ext_getElem?
  intro t
  by_cases ht : t < d.size * k
  · have h := flat_bang hk d.toList t (by simpa using ht)
    rw [h, Array.getElem?_toList, Array.getElem?_eq_getElem (by simpa using ht)]
    rw [getElem!_pos _ t (by simpa using ht)]
  · rw [List.getElem?_eq_none (by simp; omega), List.getElem?_eq_none (by rw [flat_len hk]; simp; omega)]
theorem heap_sortedK {w : World} {g n : Nat} {os : Array Obj} {cur : Array Value} {e : TypeId} {fr : Nat × Nat} (F : Array Value) (hb : w.heap[g]? = some (.cells cur e fr)) :
    (grow (putRow id (Sort.ahead w n) g 0 F) os).heap[g]? = some (.cells (putCells id 0 F cur) e fr) := by
  have hg : g < w.heap.size := (Array.getElem?_eq_some_iff.1 hb).1
  rw [heap_grow_old _ _ (by simpa using hg)]
  simp [putRow, mapBlock, Sort.ahead, Array.getElem?_modify, hb, onCells]
theorem grownBy_sortedK {w : World} {g n : Nat} {os : Array Obj} (F : Array Value) : w.grownBy (grow (putRow id (Sort.ahead w n) g 0 F) os) (some g) := by
  refine ⟨rfl, rfl, rfl, by simp, fun k hk hne => ?_⟩
  rw [heap_grow_old _ _ (by simpa using hk)]
  have : g ≠ k := fun e => hne (by rw [e])
  simp [putRow, mapBlock, Sort.ahead, Array.getElem?_modify, this]
theorem take_putCellsK (cur F : Array Value) (h : F.size ≤ cur.size) : (putCells id 0 F cur).toList.take F.size = F.toList := by
  apply List.ext_getElem?
  intro j
  by_cases hj : j < F.size
  · rw [List.getElem?_take_of_lt hj, Array.getElem?_toList]
    simp [putCells, hj, show j < cur.size by omega]
  · rw [List.getElem?_take_eq_none (by omega), List.getElem?_eq_none (by simp; omega)]
/-- Behind the sort the same slice owns what the sort left. -/
theorem own_sortedK {α : Type} [Inhabited α] {enc : α → List Value} {k : Nat} (hk : ∀ x, (enc x).length = k) {w : World} {B g cap n : Nat} {T : TypeId} {l : List α} {d : Array α} {os : Array Obj} (hd : d.size = l.length)
    (h : w.ownsRow B T k (.slice (some ⟨g, 0, none⟩) l.length cap) l.length (flat enc l)) :
    (sortWorldK enc k w g 0 n d os).ownsRow B T k (.slice (some ⟨g, 0, none⟩) l.length cap) l.length (flat enc d.toList) := by
  rcases h.2 with ⟨hv, _⟩ | ⟨g', cap', cur, hv, hbase, hb, h1, h2, h3, h4⟩
  · cases hv
  · cases hv
    refine ⟨by rw [flat_len hk]; simp [hd], .inr ⟨g, cap, _, rfl, hbase, heap_sortedK _ hb, h1, h2, by simp [putCells, h3], ?_⟩⟩
    have hs : (flatK enc k d).size = l.length * k := by simp [hd]
    have h5 : l.length * k ≤ cap * k := Nat.mul_le_mul_right k h1
    have := take_putCellsK cur (flatK enc k d) (by rw [hs, h3]; exact h5)
    rw [hs, flatK_list hk] at this
    exact this
theorem grownBy_sortWorldK {α : Type} [Inhabited α] {enc : α → List Value} {k : Nat} {w : World} {g n : Nat} {d : Array α} {os : Array Obj} : w.grownBy (sortWorldK enc k w g 0 n d os) (some g) := grownBy_sortedK _
theorem cab_cell (x : Cab) : ∀ v ∈ Cab.enc x, v.oneCell' = true := by
  intro v hv; simp [Cab.enc] at hv; rcases hv with rfl | rfl | rfl | rfl | rfl <;> rfl
end Go.Proofs.YtiogjocbiagipabDoor
