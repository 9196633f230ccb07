/- The law FnExactSplitString's walk. Condition: each string has at most maxLen bytes. -/
import Derived.Test.YthnbbaefeojanaaSplitImpl
import Derived.Test.YthnbbaefeojanaaStrS
namespace Go.Proofs.Ythnbbaefeojanaa
open Go.RowKit
set_option linter.unusedVariables false
set_option maxHeartbeats 1000000 in
theorem splitLaw_yes (s sep : ByteArray) (c : UInt8) (w : World) (hs : s.size ≤ 4000) (hp0 : 0 < sep.size) (hp : sep.size = 1) (hc : sep[0] = c) :
    Calls Try.prog 4 #[.string s, .string sep] w fun e w' => e = .returned (.bool true) ∧ Below w.heap.size w w' := by
  have hn := splitAll_len c s
  have h1 : ¬ (1048576 : Int) < (s.size : Int) := by omega
  have h2 : ¬ (1048576 : Int) < (sep.size : Int) := by omega
  have HP := Lib.hid hp
  have HC := Lib.hid hc
  clear hp hc
  go_enter Try.func4, Try.ntmps4
  go_wp2_with fail
  refine (specSplitString_yes s sep c _ hs hp0 HP.out HC.out).mono ?_
  rintro e W1 ⟨v0, rfl, o0, b0⟩
  have r0 := Rd.of_own o0
  go_wp2_with fail
  refine (SplitString_yes s sep c _ hs hp0 HP.out HC.out).mono ?_
  rintro e W2 ⟨v1, rfl, o1, b1⟩
  have r0 := r0.below b1 rfl
  have r1 := Rd.of_own o1
  go_wp2_with fail
  refine (eqStringS_same v1 v0 _ _ r1 r0).mono ?_
  rintro e W2' ⟨rfl, m1, rfl⟩
  go_wp2_with fail
  refine (markStringS_any W1.heap.size 1 (splitAll c s).length v1 _ (W2.drewN m1) (by omega) (by omega) b1.size o1).mono ?_
  rintro e W3 ⟨rfl, o3, b3⟩
  have r0 : Rd W3 v0 _ := (Rd.of_own o0).below (b1.trans ((below_drewN (Below.refl _ _) m1).trans b3)) rfl
  go_wp2_with fail
  refine (heldStringS_any 1 (splitAll c s).length v1 W3 (by omega) (by omega) (Rd.of_own o3)).mono ?_
  rintro e W4 ⟨rfl, b4⟩
  have r0 := r0.below b4 rfl
  have r3 := (Rd.of_own o3).below b4 rfl
  go_wp2_with fail
  refine (SplitString_yes s sep c _ hs hp0 HP.out HC.out).mono ?_
  rintro e W5 ⟨v2, rfl, o5, b5⟩
  have r0 := r0.below b5 rfl
  have r3 := r3.below b5 rfl
  go_wp2_with fail
  refine (eqStringS_same v2 v0 _ _ (Rd.of_own o5) r0).mono ?_
  rintro e W5' ⟨rfl, m2, rfl⟩
  go_wp2_with fail
  refine (heldStringS_any 1 (splitAll c s).length v1 (W5.drewN m2) (by omega) (by omega) (r3.drewN m2)).mono ?_
  rintro e W6 ⟨rfl, b6⟩
  go_wp2_with fail
  go_ret
  refine ⟨rfl, ?_⟩
  have s1 := b0.size
  have s2 := b1.size
  have s3 := b3.size
  have s4 := b4.size
  have s5 := b5.size
  have t2 : Below w.heap.size w (W2.drewN m1) := below_drewN (b0.trans (b1.mono s1)) m1
  have t3 := t2.trans (b3.mono s1)
  have t4 := t3.trans (b4.mono t3.size)
  have t5 := below_drewN (t4.trans (b5.mono t4.size)) m2
  exact t5.trans (b6.mono t5.size)
set_option maxHeartbeats 1000000 in
theorem splitLaw_no (s sep : ByteArray) (w : World) (hs : s.size ≤ maxLen) (hp : sep.size ≤ maxLen) (h : 4000 < s.size ∨ sep.size ≠ 1) :
    Calls Try.prog 4 #[.string s, .string sep] w fun e w' => e = .returned (.bool true) ∧ Below w.heap.size w w' := by
  have hs' := hs
  have hp' := hp
  unfold maxLen at hs' hp'
  by_cases h1 : (1048576 : Int) < (s.size : Int)
  · clear h
    go_enter Try.func4, Try.ntmps4
    go_wp2_with fail
    go_ret
    exact ⟨rfl, Below.refl _ _⟩
  by_cases h2 : (1048576 : Int) < (sep.size : Int)
  · clear h
    go_enter Try.func4, Try.ntmps4
    go_wp2_with fail
    go_ret
    exact ⟨rfl, Below.refl _ _⟩
  have H := Lib.hid h
  clear h
  go_enter Try.func4, Try.ntmps4
  go_wp2_with fail
  refine (specSplitString_no s sep _ hs hp H.out).mono ?_
  rintro e W1 ⟨v0, rfl, o0, b0⟩
  have r0 : Rd W1 v0 (([] : List ByteArray).map Value.string) := Rd.of_own o0
  go_wp2_with fail
  refine (SplitString_no s sep _ hs hp H.out).mono ?_
  rintro e W2 ⟨v1, rfl, o1, b1⟩
  have r0 := r0.below b1 rfl
  have r1 : Rd W2 v1 (([] : List ByteArray).map Value.string) := Rd.of_own o1
  go_wp2_with fail
  refine (eqStringS_same v1 v0 _ _ r1 r0).mono ?_
  rintro e W2' ⟨rfl, m1, rfl⟩
  go_wp2_with fail
  refine (markStringS_any W1.heap.size 1 0 v1 _ (W2.drewN m1) (by omega) (by omega) b1.size o1).mono ?_
  rintro e W3 ⟨rfl, o3, b3⟩
  have r0 : Rd W3 v0 (([] : List ByteArray).map Value.string) := (show Rd W1 v0 (([] : List ByteArray).map Value.string) from Rd.of_own o0).below (b1.trans ((below_drewN (Below.refl _ _) m1).trans b3)) rfl
  go_wp2_with fail
  refine (heldStringS_any 1 0 v1 W3 (by omega) (by omega) (Rd.of_own o3)).mono ?_
  rintro e W4 ⟨rfl, b4⟩
  have r0 := r0.below b4 rfl
  have r3 := (Rd.of_own o3).below b4 rfl
  go_wp2_with fail
  refine (SplitString_no s sep _ hs hp H.out).mono ?_
  rintro e W5 ⟨v2, rfl, o5, b5⟩
  have r0 := r0.below b5 rfl
  have r3 := r3.below b5 rfl
  have r5 : Rd W5 v2 (([] : List ByteArray).map Value.string) := Rd.of_own o5
  go_wp2_with fail
  refine (eqStringS_same v2 v0 _ _ r5 r0).mono ?_
  rintro e W5' ⟨rfl, m2, rfl⟩
  go_wp2_with fail
  refine (heldStringS_any 1 0 v1 (W5.drewN m2) (by omega) (by omega) (r3.drewN m2)).mono ?_
  rintro e W6 ⟨rfl, b6⟩
  go_wp2_with fail
  go_ret
  refine ⟨rfl, ?_⟩
  have s1 := b0.size
  have t2 : Below w.heap.size w (W2.drewN m1) := below_drewN (b0.trans (b1.mono s1)) m1
  have t3 := t2.trans (b3.mono s1)
  have t4 := t3.trans (b4.mono t3.size)
  have t5 := below_drewN (t4.trans (b5.mono t4.size)) m2
  exact t5.trans (b6.mono t5.size)
theorem FnExactSplitString_walk (s sep : ByteArray) (w : World) (hs : s.size ≤ maxLen) (hp : sep.size ≤ maxLen) :
    Calls Try.prog 4 #[.string s, .string sep] w fun e w' => e = .returned (.bool true) ∧ Below w.heap.size w w' := by
  by_cases h : 4000 < s.size ∨ sep.size ≠ 1
  · exact splitLaw_no s sep w hs hp h
  · exact splitLaw_yes s sep (sep[0]'(by omega)) w (by omega) (by omega) (by omega) rfl
end Go.Proofs.Ythnbbaefeojanaa
