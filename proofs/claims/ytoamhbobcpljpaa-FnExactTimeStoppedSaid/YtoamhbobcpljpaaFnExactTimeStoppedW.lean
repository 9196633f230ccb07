/- The law FnExactTimeStopped's walk. Condition: sizes. -/
import Derived.Test.YtoamhbobcpljpaaWndT
import Derived.Test.YtoamhbobcpljpaaWruM
import Derived.Test.YtoamhbobcpljpaaIntC
import Derived.Test.YtoamhbobcpljpaaToInt
namespace Go.Proofs.Ytoamhbobcpljpaa
open Go.RowKit
set_option linter.unusedVariables false
set_option maxRecDepth 100000 in
set_option maxHeartbeats 4000000 in
theorem FnExactTimeStopped_walk (r : Wru) (v1 : Value) (l : List Int) (w : World) (hw0 : r.wf) (hr1 : Rd w v1 (intVs l)) (hn1 : l.length ≤ maxLen) :
    Calls Try.prog 10 #[.agg #[.int .i64 r.a, .int .i64 r.b, .int .i64 r.c, .int .i64 r.d], v1] w fun e w' => e = .returned (.bool true) ∧ Below w.heap.size w w' := by
  have hsh1 : ∃ a c, v1 = .slice a l.length c := by rcases hr1 with ⟨h0, a, c, rfl⟩ | ⟨b, off, c, rfl, _⟩ <;> simp_all [intVs]
  obtain ⟨as1, cs1, rfl⟩ := hsh1
  have HR1 := Lib.hid hr1
  clear hr1
  have hm1 := hn1
  unfold maxLen at hm1
  have HW0 := Lib.hid hw0
  clear hw0
  by_cases hq1 : l.length ≤ 1048576
  · skip
    have hl1 : l.length ≤ 1048576 := by omega
    have hg1 : ¬ ((1048576 : Int) < (l.length : Int)) := by omega
    go_enter Try.func10, Try.ntmps10
    go_wp2_with fail
    have HX0 : Hid (∀ W, Below (w.heap.size + 1) (w.alloc (.cells #[.int .i64 r.a, .int .i64 r.b, .int .i64 r.c, .int .i64 r.d] 60)) W → W.cell? ⟨w.heap.size, 0, none⟩ = some (.int .i64 r.a) ∧ W.cell? ⟨w.heap.size, 1, none⟩ = some (.int .i64 r.b) ∧ W.cell? ⟨w.heap.size, 2, none⟩ = some (.int .i64 r.c) ∧ W.cell? ⟨w.heap.size, 3, none⟩ = some (.int .i64 r.d)) := Lib.hid (fun W h => box_Wru w r _ _ (by simp) W h)
    generalize hW0 : w.alloc (.cells #[.int .i64 r.a, .int .i64 r.b, .int .i64 r.c, .int .i64 r.d] 60) = W0 at *
    have hs0 : W0.heap.size = w.heap.size + 1 := by rw [← hW0]; simp
    have HT0 : Hid (Below w.heap.size w W0) := Lib.hid (by rw [← hW0]; exact ((Below.refl _ _).alloc (by simp) _))
    clear hW0
    have HR1 := Lib.hid (HR1.out.below HT0.out rfl)
    have t0 := Below.refl W0.heap.size W0
    obtain ⟨y0_0, y0_1, y0_2, y0_3⟩ := HX0.out _ (by rw [← hs0]; exact t0)
    go_wp2_with fail
    refine (toWindRule_any r _).mono ?_
    rintro e W1 ⟨rfl, b1⟩
    have t1 := t0.trans (b1.mono t0.size)
    clear y0_0 y0_1 y0_2 y0_3
    have z1 := b1.size
    go_wp2_with fail
    refine (toIntS_any _ l _ (HR1.out.below t1 rfl) hl1).mono ?_
    rintro e W2 ⟨vs1, rfl, ns1, b2⟩
    have t2 := t1.trans (b2.mono t1.size)
    have z2 := b2.size
    have os1 := ns1
    have ls1 := betw_of os1
    go_wp2_with fail
    refine (specTimeStopped_c r vs1 l _ (Rd.of_own os1) hl1).mono ?_
    rintro e W3 ⟨rfl, b3⟩
    have os1 := owns_below os1 b3
    have t3 := t2.trans (b3.mono t2.size)
    have z3 := b3.size
    go_wp2_with fail
    refine (toIntS_any _ l _ (HR1.out.below t3 rfl) hl1).mono ?_
    rintro e W4 ⟨vx1, rfl, nx1, b4⟩
    have t4 := t3.trans (b4.mono t3.size)
    have z4 := b4.size
    have ox1 := nx1
    have lx1 := betw_of ox1
    obtain ⟨y0_0, y0_1, y0_2, y0_3⟩ := HX0.out _ (by rw [← hs0]; exact t4)
    go_wp2_with fail
    refine (toWindRule_any r _).mono ?_
    rintro e W5 ⟨rfl, b5⟩
    have ox1 := owns_below ox1 b5
    have t5 := t4.trans (b5.mono t4.size)
    clear y0_0 y0_1 y0_2 y0_3
    have z5 := b5.size
    go_wp2_with fail
    refine (implTimeStopped_c r vx1 l _ (Rd.of_own ox1) hl1).mono ?_
    rintro e W6 ⟨rfl, b6⟩
    have ox1 := owns_below ox1 b6
    have t6 := t5.trans (b6.mono t5.size)
    have z6 := b6.size
    go_wp2_with fail
    refine (toIntS_any _ l _ (HR1.out.below t6 rfl) hl1).mono ?_
    rintro e W7 ⟨vy1, rfl, ny1, b7⟩
    have ox1 := owns_below ox1 b7
    have t7 := t6.trans (b7.mono t6.size)
    have z7 := b7.size
    have oy1 := ny1
    have ly1 := betw_of oy1
    go_wp2_with fail
    refine (eqIntS_c vx1 vy1 l _ (Rd.of_own ox1) (Rd.of_own oy1)).mono ?_
    rintro e W8 ⟨rfl, b8⟩
    have ox1 := owns_below ox1 b8
    have oy1 := owns_below oy1 b8
    have t8 := t7.trans (b8.mono t7.size)
    have z8 := b8.size
    go_wp2_with fail
    go_ret
    exact ⟨rfl, HT0.out.trans (t8.mono (by omega))⟩
  · skip
    have hg1 : (1048576 : Int) < (l.length : Int) := by omega
    go_enter Try.func10, Try.ntmps10
    go_wp2
    go_ret
    exact ⟨rfl, ((Below.refl _ _).alloc (Nat.le_refl _) _)⟩
end Go.Proofs.Ytoamhbobcpljpaa
