/- The law FnExactRidesLeft's walk. Condition: sizes. -/
import Derived.Test.YtpknodbkjjcdjaaDoorTikQ
namespace Go.Proofs.YtpknodbkjjcdjaaDoor
open Go.RowKit
set_option linter.unusedVariables false
set_option maxRecDepth 100000 in
set_option maxHeartbeats 4000000 in
theorem FnExactRidesLeft_walk (c : Tik) (d : Int) (w : World) (hw0 : c.wf) (hw1 : (Lit.int .i64 d).wf = true) (hwf0 : RulP w) :
    Calls Tryd.prog 10 #[.agg #[.int .i64 c.i, .int .i64 c.s, .int .i64 c.w, .int .i64 c.g, .int .i64 c.p], .int .i64 d] w fun e w' => e = .returned (.bool true) ∧ Below w.heap.size w w' := by
  have HW0 := Lib.hid hw0
  clear hw0
  have HW1 := Lib.hid hw1
  clear hw1
  have HF0 : Hid (∀ W, Below w.heap.size w W → RulP W) := Lib.hid (fun W hW => hwf0.below hW)
  clear hwf0
  go_enter Tryd.func10, Tryd.ntmps10
  go_wp2_with fail
  have HX0 : Hid (∀ W, Below (w.heap.size + 1) (w.alloc (.cells #[.int .i64 c.i, .int .i64 c.s, .int .i64 c.w, .int .i64 c.g, .int .i64 c.p] 63)) W → W.cell? ⟨w.heap.size, 0, none⟩ = some (.int .i64 c.i) ∧ W.cell? ⟨w.heap.size, 1, none⟩ = some (.int .i64 c.s) ∧ W.cell? ⟨w.heap.size, 2, none⟩ = some (.int .i64 c.w) ∧ W.cell? ⟨w.heap.size, 3, none⟩ = some (.int .i64 c.g) ∧ W.cell? ⟨w.heap.size, 4, none⟩ = some (.int .i64 c.p)) := Lib.hid (fun W h => box_Tik w c _ _ (by simp) W h)
  generalize hW0 : w.alloc (.cells #[.int .i64 c.i, .int .i64 c.s, .int .i64 c.w, .int .i64 c.g, .int .i64 c.p] 63) = W0 at *
  have hs0 : W0.heap.size = w.heap.size + 1 := by rw [← hW0]; simp
  have HT0 : Hid (Below w.heap.size w W0) := Lib.hid (by rw [← hW0]; exact ((Below.refl _ _).alloc (by simp) _))
  clear hW0
  have HF0 : Hid (∀ W, Below W0.heap.size W0 W → RulP W) := Lib.hid (fun W hW => HF0.out W (HT0.out.trans (hW.mono (by omega))))
  have t0 := Below.refl W0.heap.size W0
  refine (toTicket_any c _).mono ?_
  rintro e W1 ⟨rfl, b1⟩
  have t1 := t0.trans (b1.mono t0.size)
  have z1 := b1.size
  go_wp2_with fail
  refine (specRidesLeft_c c d _ ).mono ?_
  rintro e W2 ⟨rfl, b2⟩
  have t2 := t1.trans (b2.mono t1.size)
  have z2 := b2.size
  obtain ⟨y0_0, y0_1, y0_2, y0_3, y0_4⟩ := HX0.out _ (by rw [← hs0]; exact t2)
  go_wp2_with fail
  refine (toTicket_any c _).mono ?_
  rintro e W3 ⟨rfl, b3⟩
  have t3 := t2.trans (b3.mono t2.size)
  clear y0_0 y0_1 y0_2 y0_3 y0_4
  have z3 := b3.size
  go_wp2_with fail
  refine (implRidesLeft_c c d _ (HF0.out _ t3)).mono ?_
  rintro e W4 ⟨rfl, b4⟩
  have t4 := t3.trans (b4.mono t3.size)
  have z4 := b4.size
  go_wp2_with fail
  go_ret
  exact ⟨rfl, HT0.out.trans (t4.mono (by omega))⟩
end Go.Proofs.YtpknodbkjjcdjaaDoor
