/- The walks of FormatInt. Condition: the table of the library's is as laid. -/
import Derived.Test.YtmmjbdffpgohdaaDoorNumW
import Derived.Test.YtmmjbdffpgohdaaDoorShelf
import Derived.Test.YtmmjbdffpgohdaaDoorRd
import Derived.WalkSmall
namespace Go.Proofs.YtmmjbdffpgohdaaDoor
open Go.RowKit
set_option linter.unusedVariables false
/-- The library's table of powers is as laid. -/
def TabP (w : World) : Prop := Lib.TabIs Tryd.prog w "internal/strconv.uint64pow10" .u64 Lib.pow10Tab
theorem gTab : Tryd.prog.globalNamed "internal/strconv.uint64pow10" = some 1 := by kernel_rfl
theorem tab_lt {w : World} (h : TabP w) : 1 < w.heap.size := by
  have h' : w.var? Tryd.prog "internal/strconv.uint64pow10" = _ := h
  unfold World.var? at h'
  simp only [gTab, Option.bind_some] at h'
  cases hb : w.heap[1]? with
  | none => simp [hb] at h'
  | some o => exact (Array.getElem?_eq_some_iff.1 hb).1
theorem TabP.below {w w' : World} (h : TabP w) (hb : Below w.heap.size w w') : TabP w' := var?_below hb gTab (tab_lt h) h
theorem TabP.drewN {w : World} (h : TabP w) (m : Nat) : TabP (w.drewN m) := h.below (below_drewN (Below.refl _ _) m)
theorem below_grow (w : World) (q : Nat) (os : Array Obj) : Below w.heap.size w (Go.Sort.grow (w.drewN q) os) :=
  ⟨rfl, rfl, rfl, by show w.heap.size ≤ (w.heap ++ os).size; simp, fun i hi => by
    show ((w.drewN q).heap ++ os)[i]? = _
    rw [Array.getElem?_append_left (by show i < w.heap.size; omega)]
    rfl⟩
set_option maxHeartbeats 400000 in
theorem FormatInt_yes (n : Int) (w : World) (h0 : -999999 ≤ n) (h1 : n ≤ 999999) (ht : TabP w) :
    Calls Tryd.prog 49 #[.int .i64 n] w fun e w' => e = .returned (.tuple #[.string (num n), .bool true]) ∧ Below w.heap.size w w' := by
  have HT := Lib.hid ht
  have c1 : ¬ n < -999999 := by omega
  have c2 : decide (n < -999999) = false := by simpa using h0
  have c3 : decide (999999 < n) = false := by simpa using h1
  clear ht
  go_enter Tryd.func49, Tryd.ntmps49
  go_wp2_with (go_at_call 34; refine (Tryd.strconv_Itoa n (by omega) (by omega) _ HT.out).mono ?_; rintro e w' ⟨rfl, k, os, rfl⟩)
  go_ret2
  exact ⟨rfl, below_grow _ _ _⟩
set_option maxHeartbeats 400000 in
theorem FormatInt_no (n : Int) (w : World) (h : n < -999999 ∨ 999999 < n) :
    Calls Tryd.prog 49 #[.int .i64 n] w fun e w' => e = .returned (.tuple #[.string ⟨#[]⟩, .bool false]) ∧ w = w' := by
  by_cases h1 : n < -999999
  · clear h
    go_enter Tryd.func49, Tryd.ntmps49
    go_wp2
    go_ret2
    exact ⟨rfl, rfl⟩
  · have h2 : 999999 < n := by omega
    clear h
    go_enter Tryd.func49, Tryd.ntmps49
    go_wp2
    go_ret2
    exact ⟨rfl, rfl⟩
end Go.Proofs.YtmmjbdffpgohdaaDoor
