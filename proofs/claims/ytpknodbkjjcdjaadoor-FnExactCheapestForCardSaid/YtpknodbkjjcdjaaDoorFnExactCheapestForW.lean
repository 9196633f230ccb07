/- The law FnExactCheapestFor's walk. Condition: sizes. -/
import Derived.Test.YtpknodbkjjcdjaaDoorChpI
import Derived.Test.YtpknodbkjjcdjaaDoorChpS
import Derived.Test.YtpknodbkjjcdjaaDoorIntC
import Derived.Test.YtpknodbkjjcdjaaDoorMarkT
namespace Go.Proofs.YtpknodbkjjcdjaaDoor
open Go.RowKit
set_option linter.unusedVariables false
set_option maxRecDepth 100000 in
set_option maxHeartbeats 4000000 in
theorem FnExactCheapestFor_walk (q : Prc) (m : Int) (n : Int) (w : World) (hw0 : q.wf) (hw1 : (Lit.int .i64 m).wf = true) (hw2 : (Lit.int .i64 n).wf = true) (hwf0 : RulP w) :
    Calls Tryd.prog 13 #[.agg #[.int .i64 q.a, .int .i64 q.b, .int .i64 q.c, .int .i64 q.d], .int .i64 m, .int .i64 n] w fun e w' => e = .returned (.bool true) ∧ Below w.heap.size w w' := by
  have HW0 := Lib.hid hw0
  clear hw0
  have HW1 := Lib.hid hw1
  clear hw1
  have HW2 := Lib.hid hw2
  clear hw2
  have HF0 : Hid (∀ W, Below w.heap.size w W → RulP W) := Lib.hid (fun W hW => hwf0.below hW)
  clear hwf0
  go_enter Tryd.func13, Tryd.ntmps13
  go_wp2_with fail
  have HX0 : Hid (∀ W, Below (w.heap.size + 1) (w.alloc (.cells #[.int .i64 q.a, .int .i64 q.b, .int .i64 q.c, .int .i64 q.d] 75)) W → W.cell? ⟨w.heap.size, 0, none⟩ = some (.int .i64 q.a) ∧ W.cell? ⟨w.heap.size, 1, none⟩ = some (.int .i64 q.b) ∧ W.cell? ⟨w.heap.size, 2, none⟩ = some (.int .i64 q.c) ∧ W.cell? ⟨w.heap.size, 3, none⟩ = some (.int .i64 q.d)) := Lib.hid (fun W h => box_Prc w q _ _ (by simp) W h)
  generalize hW0 : w.alloc (.cells #[.int .i64 q.a, .int .i64 q.b, .int .i64 q.c, .int .i64 q.d] 75) = W0 at *
  have hs0 : W0.heap.size = w.heap.size + 1 := by rw [← hW0]; simp
  have HT0 : Hid (Below w.heap.size w W0) := Lib.hid (by rw [← hW0]; exact ((Below.refl _ _).alloc (by simp) _))
  clear hW0
  have HF0 : Hid (∀ W, Below W0.heap.size W0 W → RulP W) := Lib.hid (fun W hW => HF0.out W (HT0.out.trans (hW.mono (by omega))))
  have t0 := Below.refl W0.heap.size W0
  refine (toPrices_any q _).mono ?_
  rintro e W1 ⟨rfl, b1⟩
  have t1 := t0.trans (b1.mono t0.size)
  have z1 := b1.size
  go_wp2_with fail
  refine (specCheapestFor_c q m n _ ).mono ?_
  rintro e W2 ⟨vw0, rfl, nw0, b2⟩
  have t2 := t1.trans (b2.mono t1.size)
  have z2 := b2.size
  have ow0 := nw0
  have lw0 := betw_of ow0
  obtain ⟨y0_0, y0_1, y0_2, y0_3⟩ := HX0.out _ (by rw [← hs0]; exact t2)
  go_wp2_with fail
  refine (toPrices_any q _).mono ?_
  rintro e W3 ⟨rfl, b3⟩
  have ow0 := owns_below ow0 b3
  have t3 := t2.trans (b3.mono t2.size)
  clear y0_0 y0_1 y0_2 y0_3
  have z3 := b3.size
  go_wp2_with fail
  refine (implCheapestFor_c q m n _ (HF0.out _ t3)).mono ?_
  rintro e W4 ⟨vg0, Tg, rfl, ng0, b4⟩
  have ow0 := owns_below ow0 b4
  have t4 := t3.trans (b4.mono t3.size)
  have z4 := b4.size
  have og0 := ng0
  have lg0 := betw_of og0
  go_wp2_with fail
  refine (eqIntS_c vg0 vw0 (chR q m n) _ (Rd.of_own og0) (Rd.of_own ow0)).mono ?_
  rintro e W5 ⟨rfl, b5⟩
  have ow0 := owns_below ow0 b5
  have og0 := owns_below og0 b5
  have t5 := t4.trans (b5.mono t4.size)
  have z5 := b5.size
  have hb0 : (chR q m n).length ≤ 8388608 := by (have := chR_len q m n; omega)
  go_wp2_with fail
  refine (markIntS_T Tg _ 1 (chR q m n).length vg0 _ _ (by omega) (by omega) (by have := b5.size; omega) og0).mono ?_
  rintro e W7 ⟨rfl, og0, b7⟩
  have ow0 := ow0.kept b7 (apart lw0 lg0 (by omega))
  have t7 := t5.trans (below_mark b7 lg0 (by first | exact Nat.le_refl _ | (have := t5.size; omega) | omega) t5.size)
  have z7 := b7.size
  go_wp2_with fail
  refine (heldIntS_c 1 (chR q m n).length vg0 _ (by omega) (by omega) (Rd.of_own og0)).mono ?_
  rintro e W8 ⟨rfl, b8⟩
  have ow0 := owns_below ow0 b8
  have og0 := owns_below og0 b8
  have t8 := t7.trans (b8.mono t7.size)
  have z8 := b8.size
  obtain ⟨y0_0, y0_1, y0_2, y0_3⟩ := HX0.out _ (by rw [← hs0]; exact t8)
  go_wp2_with fail
  refine (toPrices_any q _).mono ?_
  rintro e W9 ⟨rfl, b9⟩
  have ow0 := owns_below ow0 b9
  have og0 := owns_below og0 b9
  have t9 := t8.trans (b9.mono t8.size)
  clear y0_0 y0_1 y0_2 y0_3
  have z9 := b9.size
  go_wp2_with fail
  refine (implCheapestFor_c q m n _ (HF0.out _ t9)).mono ?_
  rintro e W10 ⟨vh0, Th, rfl, nh0, b10⟩
  have ow0 := owns_below ow0 b10
  have og0 := owns_below og0 b10
  have t10 := t9.trans (b10.mono t9.size)
  have z10 := b10.size
  have oh0 := nh0
  have lh0 := betw_of oh0
  go_wp2_with fail
  refine (eqIntS_c vh0 vw0 (chR q m n) _ (Rd.of_own oh0) (Rd.of_own ow0)).mono ?_
  rintro e W11 ⟨rfl, b11⟩
  have ow0 := owns_below ow0 b11
  have og0 := owns_below og0 b11
  have oh0 := owns_below oh0 b11
  have t11 := t10.trans (b11.mono t10.size)
  have z11 := b11.size
  go_wp2_with fail
  refine (heldIntS_c 1 (chR q m n).length vg0 _ (by omega) (by omega) (Rd.of_own og0)).mono ?_
  rintro e W12 ⟨rfl, b12⟩
  have ow0 := owns_below ow0 b12
  have og0 := owns_below og0 b12
  have oh0 := owns_below oh0 b12
  have t12 := t11.trans (b12.mono t11.size)
  go_wp2_with fail
  go_ret
  exact ⟨rfl, HT0.out.trans (t12.mono (by omega))⟩
end Go.Proofs.YtpknodbkjjcdjaaDoor
