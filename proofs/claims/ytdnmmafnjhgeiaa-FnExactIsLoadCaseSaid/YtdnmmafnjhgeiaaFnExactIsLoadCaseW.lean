/- The law FnExactIsLoadCase's walk. Condition: sizes. -/
import Derived.Test.YtdnmmafnjhgeiaaCaseC
namespace Go.Proofs.Ytdnmmafnjhgeiaa
open Go.RowKit
set_option linter.unusedVariables false
set_option maxRecDepth 100000 in
set_option maxHeartbeats 4000000 in
theorem FnExactIsLoadCase_walk (x : LC) (w : World) (hw0 : x.wf) :
    Calls Try.prog 4 #[.agg #[.int .i64 x.w, .int .i64 x.c, .int .i64 x.r]] w fun e w' => e = .returned (.bool true) ∧ Below w.heap.size w w' := by
  have HW0 := Lib.hid hw0
  clear hw0
  go_enter Try.func4, Try.ntmps4
  go_wp2_with fail
  have HX0 : Hid (∀ W, Below (w.heap.size + 1) (w.alloc (.cells #[.int .i64 x.w, .int .i64 x.c, .int .i64 x.r] 44)) W → W.cell? ⟨w.heap.size, 0, none⟩ = some (.int .i64 x.w) ∧ W.cell? ⟨w.heap.size, 1, none⟩ = some (.int .i64 x.c) ∧ W.cell? ⟨w.heap.size, 2, none⟩ = some (.int .i64 x.r)) := Lib.hid (fun W h => box_LC w x _ _ (by simp) W h)
  generalize hW0 : w.alloc (.cells #[.int .i64 x.w, .int .i64 x.c, .int .i64 x.r] 44) = W0 at *
  have hs0 : W0.heap.size = w.heap.size + 1 := by rw [← hW0]; simp
  have HT0 : Hid (Below w.heap.size w W0) := Lib.hid (by rw [← hW0]; exact ((Below.refl _ _).alloc (by simp) _))
  clear hW0
  have t0 := Below.refl W0.heap.size W0
  refine (toLoadCase_any x _).mono ?_
  rintro e W1 ⟨rfl, b1⟩
  have t1 := t0.trans (b1.mono t0.size)
  have z1 := b1.size
  go_wp2_with fail
  refine (specIsLoadCase_c x _ ).mono ?_
  rintro e W2 ⟨rfl, b2⟩
  have t2 := t1.trans (b2.mono t1.size)
  have z2 := b2.size
  obtain ⟨y0_0, y0_1, y0_2⟩ := HX0.out _ (by rw [← hs0]; exact t2)
  go_wp2_with fail
  refine (toLoadCase_any x _).mono ?_
  rintro e W3 ⟨rfl, b3⟩
  have t3 := t2.trans (b3.mono t2.size)
  clear y0_0 y0_1 y0_2
  have z3 := b3.size
  go_wp2_with fail
  refine (implIsLoadCase_c x _ ).mono ?_
  rintro e W4 ⟨rfl, b4⟩
  have t4 := t3.trans (b4.mono t3.size)
  have z4 := b4.size
  go_wp2_with fail
  go_ret
  exact ⟨rfl, HT0.out.trans (t4.mono (by omega))⟩
end Go.Proofs.Ytdnmmafnjhgeiaa
