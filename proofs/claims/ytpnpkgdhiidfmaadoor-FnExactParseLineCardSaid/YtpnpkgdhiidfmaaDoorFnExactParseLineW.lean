/- The law FnExactParseLine's walk. Condition: the library's listed variables are as laid. -/
import Derived.Test.YtpnpkgdhiidfmaaDoorParseLineS
import Derived.Test.YtpnpkgdhiidfmaaDoorEqC
namespace Go.Proofs.YtpnpkgdhiidfmaaDoor
open Go.RowKit
set_option linter.unusedVariables false
theorem plL_len (s : ByteArray) : (plL s).length ≤ 8 := by
  by_cases h : ∃ l, Pl s l
  · obtain ⟨l, hl⟩ := h
    rw [(pl_yes hl).2]; exact hl.1.eight
  · rw [(pl_no (fun l hl => h ⟨l, hl⟩)).2]; simp
set_option maxRecDepth 100000 in
set_option maxHeartbeats 4000000 in
theorem FnExactParseLine_walk (s : ByteArray) (w : World) (hs : s.size ≤ maxLen) (ht : TabP w) (he : ErrP w) (hm : MlP w) :
    Calls Tryd.prog 4 #[.string s] w fun e w' => e = .returned (.bool true) ∧ Below w.heap.size w w' := by
  have HV : Hid (∀ W, Below w.heap.size w W → Vars W) := Lib.hid (fun W hW => (Vars.mk ht he hm).below hW)
  have HS := Lib.hid hs
  clear ht he hm
  have hb0 := plL_len s
  by_cases h1 : s.size ≤ 1048576
  · have hb1 : ¬ (1048576 : Int) < (s.size : Int) := by omega
    clear hs
    go_enter Tryd.func4, Tryd.ntmps4
    have t0 := Below.refl w.heap.size w
    go_wp2_with fail
    refine (specParseLine_c s _ HS.out).mono ?_
    rintro e W1 ⟨vw, rfl, nw, b1⟩
    have t1 := t0.trans (b1.mono t0.size)
    have z1 := b1.size
    have ow := nw
    have lw := betw_of ow
    go_wp2_with fail
    refine (implParseLine_c s _ HS.out (HV.out _ t1)).mono ?_
    rintro e W2 ⟨vg, rfl, ng, b2⟩
    have ow := owns_below ow b2
    have t2 := t1.trans (b2.mono t1.size)
    have z2 := b2.size
    have og := ng
    have lg := betw_of og
    go_wp2_with fail
    refine (eqSupportS_c vg vw (plL s) _ (Rs.of_own og) (Rs.of_own ow)).mono ?_
    rintro e W3 ⟨rfl, b3⟩
    have ow := owns_below ow b3
    have og := owns_below og b3
    have t3 := t2.trans (b3.mono t2.size)
    have z3 := b3.size
    go_wp2_with fail
    refine (markSupportS_any _ 1 (plL s).length vg _ _ (by omega) (by omega) (by have := b3.size; omega) og).mono ?_
    rintro e W4 ⟨rfl, og, b4⟩
    have ow := ow.kept b4 (apart lw lg (by omega))
    have t4 := t3.trans (below_mark b4 lg (by first | exact Nat.le_refl _ | (have := t3.size; omega) | omega) t3.size)
    have z4 := b4.size
    go_wp2_with fail
    refine (heldSupportS_c 1 (plL s).length vg _ (by omega) (by omega) (Rs.of_own og)).mono ?_
    rintro e W5 ⟨rfl, b5⟩
    have ow := owns_below ow b5
    have og := owns_below og b5
    have t5 := t4.trans (b5.mono t4.size)
    have z5 := b5.size
    go_wp2_with fail
    refine (implParseLine_c s _ HS.out (HV.out _ t5)).mono ?_
    rintro e W6 ⟨vh, rfl, nh, b6⟩
    have ow := owns_below ow b6
    have og := owns_below og b6
    have t6 := t5.trans (b6.mono t5.size)
    have z6 := b6.size
    have oh := nh
    have lh := betw_of oh
    go_wp2_with fail
    refine (eqSupportS_c vh vw (plL s) _ (Rs.of_own oh) (Rs.of_own ow)).mono ?_
    rintro e W7 ⟨rfl, b7⟩
    have ow := owns_below ow b7
    have og := owns_below og b7
    have oh := owns_below oh b7
    have t7 := t6.trans (b7.mono t6.size)
    have z7 := b7.size
    go_wp2_with fail
    refine (heldSupportS_c 1 (plL s).length vg _ (by omega) (by omega) (Rs.of_own og)).mono ?_
    rintro e W8 ⟨rfl, b8⟩
    have ow := owns_below ow b8
    have og := owns_below og b8
    have oh := owns_below oh b8
    have t8 := t7.trans (b8.mono t7.size)
    have z8 := b8.size
    go_wp2_with fail
    go_ret
    exact ⟨rfl, t8⟩
  · have hbig : (1048576 : Int) < (s.size : Int) := by omega
    unfold maxLen at hs
    go_enter Tryd.func4, Tryd.ntmps4
    go_wp2_with fail
    go_ret
    exact ⟨rfl, Below.refl _ _⟩
end Go.Proofs.YtpnpkgdhiidfmaaDoor
