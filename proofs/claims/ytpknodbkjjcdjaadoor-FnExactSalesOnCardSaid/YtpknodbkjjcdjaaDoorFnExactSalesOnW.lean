/- The law FnExactSalesOn's walk. Condition: sizes. -/
import Derived.Test.YtpknodbkjjcdjaaDoorTksSa
import Derived.Test.YtpknodbkjjcdjaaDoorTikM
namespace Go.Proofs.YtpknodbkjjcdjaaDoor
open Go.RowKit
set_option linter.unusedVariables false
set_option maxRecDepth 100000 in
set_option maxHeartbeats 4000000 in
theorem FnExactSalesOn_walk (q : Prc) (v1 : Value) (l : List Tik) (d : Int) (w : World) (hw0 : q.wf) (hr1 : Rs w v1 l.length (tiks l)) (hn1 : l.length ≤ maxLen) (hw2 : (Lit.int .i64 d).wf = true) (hwf0 : RulP w) :
    Calls Tryd.prog 12 #[.agg #[.int .i64 q.a, .int .i64 q.b, .int .i64 q.c, .int .i64 q.d], v1, .int .i64 d] w fun e w' => e = .returned (.bool true) ∧ Below w.heap.size w w' := by
  have HR1 := Lib.hid hr1
  clear hr1
  have hm1 := hn1
  unfold maxLen at hm1
  have HW0 := Lib.hid hw0
  clear hw0
  have HW2 := Lib.hid hw2
  clear hw2
  have HF0 : Hid (∀ W, Below w.heap.size w W → RulP W) := Lib.hid (fun W hW => hwf0.below hW)
  clear hwf0
  by_cases h1 : l.length ≤ 1048576
  · skip
    go_enter Tryd.func12, Tryd.ntmps12
    go_wp2_with fail
    have HX0 : Hid (∀ W, Below (w.heap.size + 1) (w.alloc (.cells #[.int .i64 q.a, .int .i64 q.b, .int .i64 q.c, .int .i64 q.d] 75)) W → W.cell? ⟨w.heap.size, 0, none⟩ = some (.int .i64 q.a) ∧ W.cell? ⟨w.heap.size, 1, none⟩ = some (.int .i64 q.b) ∧ W.cell? ⟨w.heap.size, 2, none⟩ = some (.int .i64 q.c) ∧ W.cell? ⟨w.heap.size, 3, none⟩ = some (.int .i64 q.d)) := Lib.hid (fun W h => box_Prc w q _ _ (by simp) W h)
    generalize hW0 : w.alloc (.cells #[.int .i64 q.a, .int .i64 q.b, .int .i64 q.c, .int .i64 q.d] 75) = W0 at *
    have hs0 : W0.heap.size = w.heap.size + 1 := by rw [← hW0]; simp
    have HT0 : Hid (Below w.heap.size w W0) := Lib.hid (by rw [← hW0]; exact ((Below.refl _ _).alloc (by simp) _))
    clear hW0
    have HR1 := Lib.hid (HR1.out.below HT0.out rfl)
    have HF0 : Hid (∀ W, Below W0.heap.size W0 W → RulP W) := Lib.hid (fun W hW => HF0.out W (HT0.out.trans (hW.mono (by omega))))
    refine (szTicketS_ok v1 l.length _ _ _ HR1.out (by omega) (by omega)).mono ?_
    rintro e w' ⟨rfl, hw⟩
    have hw := hw.symm
    subst hw
    have t0 := Below.refl W0.heap.size W0
    obtain ⟨y0_0, y0_1, y0_2, y0_3⟩ := HX0.out _ (by rw [← hs0]; exact t0)
    go_wp2_with fail
    refine (toPrices_any q _).mono ?_
    rintro e W1 ⟨rfl, b1⟩
    have t1 := t0.trans (b1.mono t0.size)
    clear y0_0 y0_1 y0_2 y0_3
    have z1 := b1.size
    go_wp2_with fail
    refine (toTicketS_any v1 l _ (HR1.out.below t1 rfl) h1).mono ?_
    rintro e W2 ⟨vs1, rfl, ns1, b2⟩
    have t2 := t1.trans (b2.mono t1.size)
    have z2 := b2.size
    have os1 := ns1
    have ls1 := betw_of os1
    go_wp2_with fail
    refine (specSalesOn_c q vs1 l d _ (Rs.of_own os1) h1).mono ?_
    rintro e W3 ⟨rfl, b3⟩
    have os1 := owns_below os1 b3
    have t3 := t2.trans (b3.mono t2.size)
    have z3 := b3.size
    go_wp2_with fail
    refine (toTicketS_any v1 l _ (HR1.out.below t3 rfl) h1).mono ?_
    rintro e W4 ⟨vx1, rfl, nx1, b4⟩
    have t4 := t3.trans (b4.mono t3.size)
    have z4 := b4.size
    have ox1 := nx1
    have lx1 := betw_of ox1
    obtain ⟨y0_0, y0_1, y0_2, y0_3⟩ := HX0.out _ (by rw [← hs0]; exact t4)
    go_wp2_with fail
    refine (toPrices_any q _).mono ?_
    rintro e W5 ⟨rfl, b5⟩
    have ox1 := owns_below ox1 b5
    have t5 := t4.trans (b5.mono t4.size)
    clear y0_0 y0_1 y0_2 y0_3
    have z5 := b5.size
    go_wp2_with fail
    refine (implSalesOn_c q vx1 l d _ (Rs.of_own ox1) h1 (HF0.out _ t5)).mono ?_
    rintro e W6 ⟨rfl, b6⟩
    have ox1 := owns_below ox1 b6
    have t6 := t5.trans (b6.mono t5.size)
    have z6 := b6.size
    go_wp2_with fail
    refine (toTicketS_any v1 l _ (HR1.out.below t6 rfl) h1).mono ?_
    rintro e W7 ⟨vy1, rfl, ny1, b7⟩
    have ox1 := owns_below ox1 b7
    have t7 := t6.trans (b7.mono t6.size)
    have z7 := b7.size
    have oy1 := ny1
    have ly1 := betw_of oy1
    go_wp2_with fail
    refine (eqTicketS_same vx1 vy1 l _ (Rs.of_own ox1) (Rs.of_own oy1)).mono ?_
    rintro e W8 ⟨rfl, b8⟩
    have ox1 := owns_below ox1 b8
    have oy1 := owns_below oy1 b8
    have t8 := t7.trans (b8.mono t7.size)
    have z8 := b8.size
    go_wp2_with fail
    go_ret
    exact ⟨rfl, HT0.out.trans (t8.mono (by omega))⟩
  · skip
    go_enter Tryd.func12, Tryd.ntmps12
    go_wp2_with fail
    have HX0 : Hid (∀ W, Below (w.heap.size + 1) (w.alloc (.cells #[.int .i64 q.a, .int .i64 q.b, .int .i64 q.c, .int .i64 q.d] 75)) W → W.cell? ⟨w.heap.size, 0, none⟩ = some (.int .i64 q.a) ∧ W.cell? ⟨w.heap.size, 1, none⟩ = some (.int .i64 q.b) ∧ W.cell? ⟨w.heap.size, 2, none⟩ = some (.int .i64 q.c) ∧ W.cell? ⟨w.heap.size, 3, none⟩ = some (.int .i64 q.d)) := Lib.hid (fun W h => box_Prc w q _ _ (by simp) W h)
    generalize hW0 : w.alloc (.cells #[.int .i64 q.a, .int .i64 q.b, .int .i64 q.c, .int .i64 q.d] 75) = W0 at *
    have hs0 : W0.heap.size = w.heap.size + 1 := by rw [← hW0]; simp
    have HT0 : Hid (Below w.heap.size w W0) := Lib.hid (by rw [← hW0]; exact ((Below.refl _ _).alloc (by simp) _))
    clear hW0
    have HR1 := Lib.hid (HR1.out.below HT0.out rfl)
    have HF0 : Hid (∀ W, Below W0.heap.size W0 W → RulP W) := Lib.hid (fun W hW => HF0.out W (HT0.out.trans (hW.mono (by omega))))
    refine (szTicketS_big v1 l.length _ _ _ HR1.out hn1 (by omega) (by omega) (by omega)).mono ?_
    rintro e w' ⟨rfl, hw⟩
    have hw := hw.symm
    subst hw
    go_wp2_with fail
    go_ret
    exact ⟨rfl, HT0.out⟩
end Go.Proofs.YtpknodbkjjcdjaaDoor
