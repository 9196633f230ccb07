/- The walks of the laws on AppendChecksum and VerifyChecksum. Condition: the library's variables are as laid. -/
import Derived.Test.YthnbbaefeojanaaDoorSealW
namespace Go.Proofs.YthnbbaefeojanaaDoor
open Go.RowKit
set_option linter.unusedVariables false
set_option maxHeartbeats 1000000 in
theorem appendLaw (s : ByteArray) (x : ByteArray) (b : Bool) (w : World) (h1 : s.size ≤ 1048576) (ht : TabP w)
    (hS : ∀ w, Calls Tryd.prog 17 #[.string s] w fun e w' => e = .returned (.tuple #[.string x, .bool b]) ∧ Below w.heap.size w w')
    (hI : ∀ w, TabP w → Calls Tryd.prog 16 #[.string s] w fun e w' => e = .returned (.tuple #[.string x, .bool b]) ∧ Below w.heap.size w w') :
    Calls Tryd.prog 6 #[.string s] w fun e w' => e = .returned (.bool true) ∧ Below w.heap.size w w' := by
  have HS := Lib.hid hS
  have HI := Lib.hid hI
  have HT := Lib.hid ht
  clear hS hI ht
  go_enter Tryd.func6, Tryd.ntmps6
  go_wp2_with fail
  refine (HS.out _).mono ?_
  rintro e w1 ⟨rfl, hb⟩
  go_wp2_with fail
  refine (HI.out _ (HT.out.below hb)).mono ?_
  rintro e w2 ⟨rfl, hb2⟩
  go_wp2_with fail
  go_ret
  exact ⟨rfl, hb.trans (hb2.mono hb.size)⟩
theorem of_drew {P : Program} {f : FuncId} {args : Array Value} {w : World} {e0 : Ending} (h : Calls P f args w fun e w' => e = e0 ∧ ∃ m, w' = w.drewN m) : Calls P f args w fun e w' => e = e0 ∧ Below w.heap.size w w' :=
  h.mono fun _ _ ⟨h1, m, h2⟩ => ⟨h1, by subst h2; exact below_drewN (Below.refl _ _) m⟩
theorem FnExactAppendChecksum_walk (s : ByteArray) (w : World) (hs : s.size ≤ maxLen) (ht : TabP w) (hm : MlP w) :
    Calls Tryd.prog 6 #[.string s] w fun e w' => e = .returned (.bool true) ∧ Below w.heap.size w w' := by
  by_cases h1 : s.size ≤ 1048576
  · by_cases h : Sok s
    · exact appendLaw s _ true w h1 ht (fun w => of_drew (specAppend_yes s w h)) (fun w ht => Append_yes s w h ht)
    · exact appendLaw s _ false w h1 ht (fun w => of_drew (specAppend_no s w h1 h)) (fun w ht => Append_no s w h1 h ht)
  · have hbig : (1048576 : Int) < (s.size : Int) := by omega
    unfold maxLen at hs
    clear ht hm
    go_enter Tryd.func6, Tryd.ntmps6
    go_wp2_with fail
    go_ret
    exact ⟨rfl, Below.refl _ _⟩
set_option maxHeartbeats 1000000 in
theorem verifyLaw (s : ByteArray) (x : ByteArray) (b : Bool) (w : World) (h1 : s.size ≤ 1048576) (ht : TabP w) (hm : MlP w)
    (hS : ∀ w, Calls Tryd.prog 20 #[.string s] w fun e w' => e = .returned (.tuple #[.string x, .bool b]) ∧ Below w.heap.size w w')
    (hI : ∀ w, TabP w → MlP w → Calls Tryd.prog 18 #[.string s] w fun e w' => e = .returned (.tuple #[.string x, .bool b]) ∧ Below w.heap.size w w') :
    Calls Tryd.prog 7 #[.string s] w fun e w' => e = .returned (.bool true) ∧ Below w.heap.size w w' := by
  have HS := Lib.hid hS
  have HI := Lib.hid hI
  have HT := Lib.hid ht
  have HM := Lib.hid hm
  clear hS hI ht hm
  go_enter Tryd.func7, Tryd.ntmps7
  go_wp2_with fail
  refine (HS.out _).mono ?_
  rintro e w1 ⟨rfl, hb⟩
  go_wp2_with fail
  refine (HI.out _ (HT.out.below hb) (HM.out.below hb)).mono ?_
  rintro e w2 ⟨rfl, hb2⟩
  go_wp2_with fail
  go_ret
  exact ⟨rfl, hb.trans (hb2.mono hb.size)⟩
theorem specVerify_yes (s : ByteArray) (w : World) (h : Vok s) :
    Calls Tryd.prog 20 #[.string s] w fun e w' => e = .returned (.tuple #[.string (pre s), .bool true]) ∧ Below w.heap.size w w' :=
  specVerify_any s w h.1 _ _ (fun _ => ⟨rfl, rfl⟩) (fun e => absurd h.2 e)
theorem specVerify_no (s : ByteArray) (w : World) (hs : s.size ≤ maxLen) (h : ¬ Vok s) :
    Calls Tryd.prog 20 #[.string s] w fun e w' => e = .returned (.tuple #[.string ⟨#[]⟩, .bool false]) ∧ Below w.heap.size w w' := by
  by_cases h4 : s.size ≤ 4000
  · exact specVerify_any s w h4 _ _ (fun e => absurd ⟨h4, e⟩ h) (fun _ => ⟨rfl, rfl⟩)
  · exact specVerify_far s w hs (by omega)
theorem FnExactVerifyChecksum_walk (s : ByteArray) (w : World) (hs : s.size ≤ maxLen) (ht : TabP w) (hm : MlP w) :
    Calls Tryd.prog 7 #[.string s] w fun e w' => e = .returned (.bool true) ∧ Below w.heap.size w w' := by
  by_cases h1 : s.size ≤ 1048576
  · by_cases h : Vok s
    · exact verifyLaw s _ true w h1 ht hm (fun w => specVerify_yes s w h) (fun w ht hm => Verify_yes s w h ht hm)
    · exact verifyLaw s _ false w h1 ht hm (fun w => specVerify_no s w hs h) (fun w ht hm => Verify_no s w h1 h ht hm)
  · have hbig : (1048576 : Int) < (s.size : Int) := by omega
    unfold maxLen at hs
    clear ht hm
    go_enter Tryd.func7, Tryd.ntmps7
    go_wp2_with fail
    go_ret
    exact ⟨rfl, Below.refl _ _⟩
theorem ml_of {w : World} (h : w.ShapedOpen Tryd.prog) : MlP w := Tryd.laysM145.s1_3 w h
end Go.Proofs.YthnbbaefeojanaaDoor
