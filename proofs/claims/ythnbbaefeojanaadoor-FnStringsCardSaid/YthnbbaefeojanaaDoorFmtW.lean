/- The walks of FormatInt. Condition: the table of the library's is as laid. -/
import Derived.Test.YthnbbaefeojanaaDoorNumW
import Derived.Test.YthnbbaefeojanaaDoorShelf
import Derived.Test.YthnbbaefeojanaaDoorRd
import Derived.WalkSmall
namespace Go.Proofs.YthnbbaefeojanaaDoor
open Go.RowKit
set_option linter.unusedVariables false
/-- The library's table of powers is as laid. -/
def TabP (w : World) : Prop := Lib.TabIs Tryd.prog w "internal/strconv.uint64pow10" .u64 Lib.pow10Tab
theorem gTab : Tryd.prog.globalNamed "internal/strconv.uint64pow10" = some 3 := by kernel_rfl
theorem tab_lt {w : World} (h : TabP w) : 3 < w.heap.size := by
  have h' : w.var? Tryd.prog "internal/strconv.uint64pow10" = _ := h
  unfold World.var? at h'
  simp only [gTab, Option.bind_some] at h'
  cases hb : w.heap[3]? with
  | none => simp [hb] at h'
  | some o => exact (Array.getElem?_eq_some_iff.1 hb).1
theorem TabP.below {w w' : World} (h : TabP w) (hb : Below w.heap.size w w') : TabP w' := var?_below hb gTab (tab_lt h) h
theorem TabP.drewN {w : World} (h : TabP w) (m : Nat) : TabP (w.drewN m) := h.below (below_drewN (Below.refl _ _) m)
theorem below_grow (w : World) (q : Nat) (os : Array Obj) : Below w.heap.size w (Go.Sort.grow (w.drewN q) os) :=
  ⟨rfl, rfl, rfl, by show w.heap.size ≤ (w.heap ++ os).size; simp, fun i hi => by
    show ((w.drewN q).heap ++ os)[i]? = _
    rw [Array.getElem?_append_left (by show i < w.heap.size; omega)]
    rfl⟩
set_option maxHeartbeats 400000 in
theorem FormatInt_yes (n : Int) (w : World) (h0 : -999999 ≤ n) (h1 : n ≤ 999999) (ht : TabP w) :
    Calls Tryd.prog 10 #[.int .i64 n] w fun e w' => e = .returned (.tuple #[.string (num n), .bool true]) ∧ Below w.heap.size w w' := by
  have HT := Lib.hid ht
  have c1 : ¬ n < -999999 := by omega
  have c2 : decide (n < -999999) = false := by simpa using h0
  have c3 : decide (999999 < n) = false := by simpa using h1
  clear ht
  go_enter Tryd.func10, Tryd.ntmps10
  go_wp2_with (go_at_call 23; refine (Tryd.strconv_Itoa n (by omega) (by omega) _ HT.out).mono ?_; rintro e w' ⟨rfl, k, os, rfl⟩)
  go_ret2
  exact ⟨rfl, below_grow _ _ _⟩
set_option maxHeartbeats 400000 in
theorem FormatInt_no (n : Int) (w : World) (h : n < -999999 ∨ 999999 < n) :
    Calls Tryd.prog 10 #[.int .i64 n] w fun e w' => e = .returned (.tuple #[.string ⟨#[]⟩, .bool false]) ∧ w = w' := by
  by_cases h1 : n < -999999
  · clear h
    go_enter Tryd.func10, Tryd.ntmps10
    go_wp2
    go_ret2
    exact ⟨rfl, rfl⟩
  · have h2 : 999999 < n := by omega
    clear h
    go_enter Tryd.func10, Tryd.ntmps10
    go_wp2
    go_ret2
    exact ⟨rfl, rfl⟩
set_option maxHeartbeats 400000 in
theorem specFormatInt_yes (n : Int) (w : World) (h0 : -999999 ≤ n) (h1 : n ≤ 999999) :
    Calls Tryd.prog 11 #[.int .i64 n] w fun e w' => e = .returned (.tuple #[.string (num n), .bool true]) ∧ ∃ m, w' = w.drewN m := by
  go_enter Tryd.func11, Tryd.ntmps11
  go_wp2_with (first
    | (go_at_call 24; refine (l1In_yes _ _ _ _ h0 h1).mono ?_; rintro e w' ⟨rfl, rfl⟩)
    | (go_at_call 25; refine (l1Num_any n _ (by omega) (by omega)).mono ?_; rintro e w' ⟨rfl, m, rfl⟩))
  go_ret2
  exact ⟨rfl, m, rfl⟩
set_option maxHeartbeats 400000 in
theorem specFormatInt_no (n : Int) (w : World) (h : n < -999999 ∨ 999999 < n) :
    Calls Tryd.prog 11 #[.int .i64 n] w fun e w' => e = .returned (.tuple #[.string ⟨#[]⟩, .bool false]) ∧ w = w' := by
  have H := Lib.hid h
  clear h
  go_enter Tryd.func11, Tryd.ntmps11
  go_wp2_with (go_at_call 24; refine (l1In_no _ _ _ _ H.out).mono ?_; rintro e w' ⟨rfl, rfl⟩)
  go_ret2
  exact ⟨rfl, rfl⟩
set_option maxHeartbeats 400000 in
theorem FnExactFormatInt_walk (n : Int) (w : World) (hn : (Lit.int .i64 n).wf = true) (ht : TabP w) :
    Calls Tryd.prog 4 #[.int .i64 n] w fun e w' => e = .returned (.bool true) ∧ Below w.heap.size w w' := by
  have HT := Lib.hid ht
  clear ht hn
  by_cases h : -999999 ≤ n ∧ n ≤ 999999
  · obtain ⟨h0, h1⟩ := h
    go_enter Tryd.func4, Tryd.ntmps4
    go_wp2_with fail
    refine (specFormatInt_yes n _ h0 h1).mono ?_
    rintro e w1 ⟨rfl, m, rfl⟩
    go_wp2_with fail
    refine (FormatInt_yes n _ h0 h1 (HT.out.drewN m)).mono ?_
    rintro e w2 ⟨rfl, hb⟩
    go_wp2_with fail
    go_ret
    exact ⟨rfl, (below_drewN (Below.refl _ _) m).trans hb⟩
  · have H : Hid (n < -999999 ∨ 999999 < n) := by show _ ∨ _; omega
    clear h
    go_enter Tryd.func4, Tryd.ntmps4
    go_wp2_with fail
    refine (specFormatInt_no n _ H.out).mono ?_
    rintro e w1 ⟨rfl, rfl⟩
    go_wp2_with fail
    refine (FormatInt_no n _ H.out).mono ?_
    rintro e w2 ⟨rfl, rfl⟩
    go_wp2_with fail
    go_ret
    exact ⟨rfl, Below.refl _ _⟩
end Go.Proofs.YthnbbaefeojanaaDoor
