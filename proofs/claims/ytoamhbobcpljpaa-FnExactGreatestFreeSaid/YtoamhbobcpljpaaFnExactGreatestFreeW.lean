/- The law FnExactGreatestFree's walk. Condition: sizes. -/
import Derived.Test.YtoamhbobcpljpaaWndU
import Derived.Test.YtoamhbobcpljpaaWruM
namespace Go.Proofs.Ytoamhbobcpljpaa
open Go.RowKit
set_option linter.unusedVariables false
set_option maxRecDepth 100000 in
set_option maxHeartbeats 4000000 in
theorem FnExactGreatestFree_walk (r : Wru) (w : World) (hw0 : r.wf) :
    Calls Try.prog 12 #[.agg #[.int .i64 r.a, .int .i64 r.b, .int .i64 r.c, .int .i64 r.d]] w fun e w' => e = .returned (.bool true) ∧ Below w.heap.size w w' := by
  have HW0 := Lib.hid hw0
  clear hw0
  go_enter Try.func12, Try.ntmps12
  go_wp2_with fail
  have HX0 : Hid (∀ W, Below (w.heap.size + 1) (w.alloc (.cells #[.int .i64 r.a, .int .i64 r.b, .int .i64 r.c, .int .i64 r.d] 60)) W → W.cell? ⟨w.heap.size, 0, none⟩ = some (.int .i64 r.a) ∧ W.cell? ⟨w.heap.size, 1, none⟩ = some (.int .i64 r.b) ∧ W.cell? ⟨w.heap.size, 2, none⟩ = some (.int .i64 r.c) ∧ W.cell? ⟨w.heap.size, 3, none⟩ = some (.int .i64 r.d)) := Lib.hid (fun W h => box_Wru w r _ _ (by simp) W h)
  generalize hW0 : w.alloc (.cells #[.int .i64 r.a, .int .i64 r.b, .int .i64 r.c, .int .i64 r.d] 60) = W0 at *
  have hs0 : W0.heap.size = w.heap.size + 1 := by rw [← hW0]; simp
  have HT0 : Hid (Below w.heap.size w W0) := Lib.hid (by rw [← hW0]; exact ((Below.refl _ _).alloc (by simp) _))
  clear hW0
  have t0 := Below.refl W0.heap.size W0
  refine (toWindRule_any r _).mono ?_
  rintro e W1 ⟨rfl, b1⟩
  have t1 := t0.trans (b1.mono t0.size)
  have z1 := b1.size
  go_wp2_with fail
  refine (specGreatestFree_c r _ ).mono ?_
  rintro e W2 ⟨rfl, b2⟩
  have t2 := t1.trans (b2.mono t1.size)
  have z2 := b2.size
  obtain ⟨y0_0, y0_1, y0_2, y0_3⟩ := HX0.out _ (by rw [← hs0]; exact t2)
  go_wp2_with fail
  refine (toWindRule_any r _).mono ?_
  rintro e W3 ⟨rfl, b3⟩
  have t3 := t2.trans (b3.mono t2.size)
  clear y0_0 y0_1 y0_2 y0_3
  have z3 := b3.size
  go_wp2_with fail
  refine (implGreatestFree_c r _ ).mono ?_
  rintro e W4 ⟨rfl, b4⟩
  have t4 := t3.trans (b4.mono t3.size)
  have z4 := b4.size
  go_wp2_with fail
  go_ret
  exact ⟨rfl, HT0.out.trans (t4.mono (by omega))⟩
end Go.Proofs.Ytoamhbobcpljpaa
