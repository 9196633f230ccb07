/- The law FnExactEvenStarts's walk. Condition: sizes. -/
import Derived.Test.YtiioabmfonhlbaaCirS
import Derived.Test.YtiioabmfonhlbaaCirV
namespace Go.Proofs.Ytiioabmfonhlbaa
open Go.RowKit
set_option linter.unusedVariables false
set_option maxRecDepth 100000 in
set_option maxHeartbeats 4000000 in
theorem FnExactEvenStarts_walk (L S n : Int) (w : World) (hwL : (Lit.int .i64 L).wf = true) (hwS : (Lit.int .i64 S).wf = true) (hwn : (Lit.int .i64 n).wf = true) :
    Calls Try.prog 14 #[.int .i64 L, .int .i64 S, .int .i64 n] w fun e w' => e = .returned (.bool true) ∧ Below w.heap.size w w' := by
  have HWL := Lib.hid hwL
  have HWS := Lib.hid hwS
  have HWn := Lib.hid hwn
  clear hwL hwS hwn
  have t0 := Below.refl w.heap.size w
  go_enter Try.func14, Try.ntmps14
  go_wp2_with fail
  refine (specEvenStarts_c L S n _ HWL.out HWS.out HWn.out).mono ?_
  rintro e W1 ⟨vw0, rfl, nw0, b1⟩
  have t2 := t0.trans (b1.mono t0.size)
  have z2 := b1.size
  have ow0 := nw0
  obtain ⟨adw0, cpw0, rfl⟩ := (Rs.of_own ow0).shape
  have lw0 := betw_of ow0
  have Kw0 := Lib.hid (blk_new3 W1 (.int .i64 (evX L S n)) (.int .i64 (evY L S n)) ((.slice adw0 ((evR L S n).length) cpw0)) 26)
  have ow0 := ow0.alloc (.cells #[.int .i64 (evX L S n), .int .i64 (evY L S n), (.slice adw0 ((evR L S n).length) cpw0)] 26)
  have t3 := t2.alloc t2.size (.cells #[.int .i64 (evX L S n), .int .i64 (evY L S n), (.slice adw0 ((evR L S n).length) cpw0)] 26)
  go_wp2_with fail
  generalize hW4 : W1.alloc (.cells #[.int .i64 (evX L S n), .int .i64 (evY L S n), (.slice adw0 ((evR L S n).length) cpw0)] 26) = Y4 at *
  have s4 : Y4.heap.size = W1.heap.size + 1 := by rw [← hW4]; simp
  clear hW4
  refine (implEvenStarts_c L S n _ HWL.out HWS.out HWn.out).mono ?_
  rintro e W5 ⟨vg0, rfl, ng0, b5⟩
  have ow0 := owns_below ow0 b5
  have Kw0 := Lib.hid (blk_keep Kw0.out b5 (blk_lt Kw0.out))
  have t6 := t3.trans (b5.mono t3.size)
  have z6 := b5.size
  have og0 := ng0
  obtain ⟨adg0, cpg0, rfl⟩ := (Rs.of_own og0).shape
  have lg0 := betw_of og0
  have Kw0 := Lib.hid (blk_stay (o' := .cells #[.int .i64 (evX L S n), .int .i64 (evY L S n), (.slice adg0 ((evR L S n).length) cpg0)] 26) Kw0.out)
  have Kg0 := Lib.hid (blk_new3 W5 (.int .i64 (evX L S n)) (.int .i64 (evY L S n)) ((.slice adg0 ((evR L S n).length) cpg0)) 26)
  have ow0 := ow0.alloc (.cells #[.int .i64 (evX L S n), .int .i64 (evY L S n), (.slice adg0 ((evR L S n).length) cpg0)] 26)
  have og0 := og0.alloc (.cells #[.int .i64 (evX L S n), .int .i64 (evY L S n), (.slice adg0 ((evR L S n).length) cpg0)] 26)
  have t7 := t6.alloc t6.size (.cells #[.int .i64 (evX L S n), .int .i64 (evY L S n), (.slice adg0 ((evR L S n).length) cpg0)] 26)
  obtain ⟨y0_0, y0_1, y0_2⟩ := blk_cell3 Kw0.out
  go_wp2_with fail
  clear y0_0 y0_1 y0_2
  generalize hW8 : W5.alloc (.cells #[.int .i64 (evX L S n), .int .i64 (evY L S n), (.slice adg0 ((evR L S n).length) cpg0)] 26) = Y8 at *
  have s8 : Y8.heap.size = W5.heap.size + 1 := by rw [← hW8]; simp
  clear hW8
  refine (eqCircle_c (evX L S n) (evY L S n) (.slice adg0 ((evR L S n).length) cpg0) (.slice adw0 ((evR L S n).length) cpw0) (evR L S n) _ (Rd.of_own og0) (Rd.of_own ow0)).mono ?_
  rintro e W9 ⟨rfl, b9⟩
  have ow0 := owns_below ow0 b9
  have og0 := owns_below og0 b9
  have Kw0 := Lib.hid (blk_keep Kw0.out b9 (blk_lt Kw0.out))
  have Kg0 := Lib.hid (blk_keep Kg0.out b9 (blk_lt Kg0.out))
  have t10 := t7.trans (b9.mono t7.size)
  have z10 := b9.size
  have hb0 : (evR L S n).length ≤ 1048576 := by first | omega | exact Nat.le_trans (by first | exact plR_len L S l _ | exact gpR_len L S l | exact rcR_len L S l _ | exact evR_len _ _ _ | exact acR_len L S l _ | omega) (by omega)
  obtain ⟨y0_0, y0_1, y0_2⟩ := blk_cell3 Kg0.out
  go_wp2_with fail
  clear y0_0 y0_1 y0_2
  refine (markCircle_any _ 1 ((evR L S n).length) _ _ (.slice adg0 ((evR L S n).length) cpg0) _ _ (by omega) (by omega) (by have := t10.size; omega) og0).mono ?_
  rintro e W11 ⟨rfl, pg0, g11⟩
  have ow0 := ow0.kept g11 (apart lw0 lg0 (by omega))
  have Kw0 := Lib.hid ((g11.block _ (blk_lt Kw0.out) (fun e => by have := lg0 _ e.symm; omega)).trans Kw0.out)
  have Kg0 := Lib.hid ((g11.block _ (blk_lt Kg0.out) (fun e => by have := lg0 _ e.symm; omega)).trans Kg0.out)
  have t12 := t10.trans (below_mark g11 lg0 (by first | exact Nat.le_refl _ | (have := t10.size; omega) | omega) t10.size)
  have z12 := g11.size
  have og0 := pg0
  obtain ⟨y0_0, y0_1, y0_2⟩ := blk_cell3 Kg0.out
  go_wp2_with fail
  clear y0_0 y0_1 y0_2
  refine (heldCircle_c 1 (evR L S n).length (evX L S n) (evY L S n) (.slice adg0 ((evR L S n).length) cpg0) _ (by omega) (by omega) (Rd.of_own og0)).mono ?_
  rintro e W13 ⟨rfl, b13⟩
  have ow0 := owns_below ow0 b13
  have og0 := owns_below og0 b13
  have Kw0 := Lib.hid (blk_keep Kw0.out b13 (blk_lt Kw0.out))
  have Kg0 := Lib.hid (blk_keep Kg0.out b13 (blk_lt Kg0.out))
  have t14 := t12.trans (b13.mono t12.size)
  have z14 := b13.size
  go_wp2_with fail
  refine (implEvenStarts_c L S n _ HWL.out HWS.out HWn.out).mono ?_
  rintro e W15 ⟨vh0, rfl, nh0, b15⟩
  have ow0 := owns_below ow0 b15
  have og0 := owns_below og0 b15
  have Kw0 := Lib.hid (blk_keep Kw0.out b15 (blk_lt Kw0.out))
  have Kg0 := Lib.hid (blk_keep Kg0.out b15 (blk_lt Kg0.out))
  have t16 := t14.trans (b15.mono t14.size)
  have z16 := b15.size
  have oh0 := nh0
  obtain ⟨adh0, cph0, rfl⟩ := (Rs.of_own oh0).shape
  have lh0 := betw_of oh0
  have Kw0 := Lib.hid (blk_stay (o' := .cells #[.int .i64 (evX L S n), .int .i64 (evY L S n), (.slice adh0 ((evR L S n).length) cph0)] 26) Kw0.out)
  have Kg0 := Lib.hid (blk_stay (o' := .cells #[.int .i64 (evX L S n), .int .i64 (evY L S n), (.slice adh0 ((evR L S n).length) cph0)] 26) Kg0.out)
  have Kh0 := Lib.hid (blk_new3 W15 (.int .i64 (evX L S n)) (.int .i64 (evY L S n)) ((.slice adh0 ((evR L S n).length) cph0)) 26)
  have ow0 := ow0.alloc (.cells #[.int .i64 (evX L S n), .int .i64 (evY L S n), (.slice adh0 ((evR L S n).length) cph0)] 26)
  have og0 := og0.alloc (.cells #[.int .i64 (evX L S n), .int .i64 (evY L S n), (.slice adh0 ((evR L S n).length) cph0)] 26)
  have oh0 := oh0.alloc (.cells #[.int .i64 (evX L S n), .int .i64 (evY L S n), (.slice adh0 ((evR L S n).length) cph0)] 26)
  have t17 := t16.alloc t16.size (.cells #[.int .i64 (evX L S n), .int .i64 (evY L S n), (.slice adh0 ((evR L S n).length) cph0)] 26)
  obtain ⟨y0_0, y0_1, y0_2⟩ := blk_cell3 Kw0.out
  go_wp2_with fail
  clear y0_0 y0_1 y0_2
  generalize hW18 : W15.alloc (.cells #[.int .i64 (evX L S n), .int .i64 (evY L S n), (.slice adh0 ((evR L S n).length) cph0)] 26) = Y18 at *
  have s18 : Y18.heap.size = W15.heap.size + 1 := by rw [← hW18]; simp
  clear hW18
  refine (eqCircle_c (evX L S n) (evY L S n) (.slice adh0 ((evR L S n).length) cph0) (.slice adw0 ((evR L S n).length) cpw0) (evR L S n) _ (Rd.of_own oh0) (Rd.of_own ow0)).mono ?_
  rintro e W19 ⟨rfl, b19⟩
  have ow0 := owns_below ow0 b19
  have og0 := owns_below og0 b19
  have oh0 := owns_below oh0 b19
  have Kw0 := Lib.hid (blk_keep Kw0.out b19 (blk_lt Kw0.out))
  have Kg0 := Lib.hid (blk_keep Kg0.out b19 (blk_lt Kg0.out))
  have Kh0 := Lib.hid (blk_keep Kh0.out b19 (blk_lt Kh0.out))
  have t20 := t17.trans (b19.mono t17.size)
  have z20 := b19.size
  obtain ⟨y0_0, y0_1, y0_2⟩ := blk_cell3 Kg0.out
  go_wp2_with fail
  clear y0_0 y0_1 y0_2
  refine (heldCircle_c 1 (evR L S n).length (evX L S n) (evY L S n) (.slice adg0 ((evR L S n).length) cpg0) _ (by omega) (by omega) (Rd.of_own og0)).mono ?_
  rintro e W21 ⟨rfl, b21⟩
  have ow0 := owns_below ow0 b21
  have og0 := owns_below og0 b21
  have oh0 := owns_below oh0 b21
  have Kw0 := Lib.hid (blk_keep Kw0.out b21 (blk_lt Kw0.out))
  have Kg0 := Lib.hid (blk_keep Kg0.out b21 (blk_lt Kg0.out))
  have Kh0 := Lib.hid (blk_keep Kh0.out b21 (blk_lt Kh0.out))
  have t22 := t20.trans (b21.mono t20.size)
  have z22 := b21.size
  go_wp2_with fail
  go_ret
  exact ⟨rfl, t22⟩
end Go.Proofs.Ytiioabmfonhlbaa
