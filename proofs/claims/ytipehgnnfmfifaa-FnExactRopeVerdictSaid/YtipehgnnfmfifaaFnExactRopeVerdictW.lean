/- The law FnExactRopeVerdict's walk. Condition: sizes. -/
import Derived.Test.YtipehgnnfmfifaaVerdictC
namespace Go.Proofs.Ytipehgnnfmfifaa
open Go.RowKit
set_option linter.unusedVariables false
set_option maxRecDepth 100000 in
set_option maxHeartbeats 4000000 in
theorem FnExactRopeVerdict_walk (k : RK) (v1 : Value) (l : List Dmg) (w : World) (hw0 : k.wf) (hr1 : Rs w v1 l.length (dmgs l)) (hn1 : l.length ≤ maxLen) :
    Calls Try.prog 10 #[.agg #[.int .i64 k.i, .int .i64 k.s, .int .i64 k.w, .int .i64 k.g, .int .i64 k.p], v1] w fun e w' => e = .returned (.bool true) ∧ Below w.heap.size w w' := by
  have HR1 := Lib.hid hr1
  clear hr1
  have hm1 := hn1
  unfold maxLen at hm1
  have HW0 := Lib.hid hw0
  clear hw0
  by_cases h1 : l.length ≤ 1048576
  · skip
    go_enter Try.func10, Try.ntmps10
    go_wp2_with fail
    have HX0 : Hid (∀ W, Below (w.heap.size + 1) (w.alloc (.cells #[.int .i64 k.i, .int .i64 k.s, .int .i64 k.w, .int .i64 k.g, .int .i64 k.p] 58)) W → W.cell? ⟨w.heap.size, 0, none⟩ = some (.int .i64 k.i) ∧ W.cell? ⟨w.heap.size, 1, none⟩ = some (.int .i64 k.s) ∧ W.cell? ⟨w.heap.size, 2, none⟩ = some (.int .i64 k.w) ∧ W.cell? ⟨w.heap.size, 3, none⟩ = some (.int .i64 k.g) ∧ W.cell? ⟨w.heap.size, 4, none⟩ = some (.int .i64 k.p)) := Lib.hid (fun W h => box_RK w k _ _ (by simp) W h)
    generalize hW0 : w.alloc (.cells #[.int .i64 k.i, .int .i64 k.s, .int .i64 k.w, .int .i64 k.g, .int .i64 k.p] 58) = W0 at *
    have hs0 : W0.heap.size = w.heap.size + 1 := by rw [← hW0]; simp
    have HT0 : Hid (Below w.heap.size w W0) := Lib.hid (by rw [← hW0]; exact ((Below.refl _ _).alloc (by simp) _))
    clear hW0
    have HR1 := Lib.hid (HR1.out.below HT0.out rfl)
    refine (szDamageS_ok v1 l.length _ _ _ HR1.out (by omega) (by omega)).mono ?_
    rintro e w' ⟨rfl, hw⟩
    have hw := hw.symm
    subst hw
    have t0 := Below.refl W0.heap.size W0
    obtain ⟨y0_0, y0_1, y0_2, y0_3, y0_4⟩ := HX0.out _ (by rw [← hs0]; exact t0)
    go_wp2_with fail
    refine (toRopeKind_any k _).mono ?_
    rintro e W1 ⟨rfl, b1⟩
    have t1 := t0.trans (b1.mono t0.size)
    clear y0_0 y0_1 y0_2 y0_3 y0_4
    have z1 := b1.size
    go_wp2_with fail
    refine (toDamageS_any v1 l _ (HR1.out.below t1 rfl) h1).mono ?_
    rintro e W2 ⟨vs1, rfl, ns1, b2⟩
    have t2 := t1.trans (b2.mono t1.size)
    have z2 := b2.size
    have os1 := ns1
    have ls1 := betw_of os1
    go_wp2_with fail
    refine (specRopeVerdict_c k vs1 l _ (Rs.of_own os1) h1).mono ?_
    rintro e W3 ⟨rfl, b3⟩
    have os1 := owns_below os1 b3
    have t3 := t2.trans (b3.mono t2.size)
    have z3 := b3.size
    go_wp2_with fail
    refine (toDamageS_any v1 l _ (HR1.out.below t3 rfl) h1).mono ?_
    rintro e W4 ⟨vx1, rfl, nx1, b4⟩
    have t4 := t3.trans (b4.mono t3.size)
    have z4 := b4.size
    have ox1 := nx1
    have lx1 := betw_of ox1
    obtain ⟨y0_0, y0_1, y0_2, y0_3, y0_4⟩ := HX0.out _ (by rw [← hs0]; exact t4)
    go_wp2_with fail
    refine (toRopeKind_any k _).mono ?_
    rintro e W5 ⟨rfl, b5⟩
    have ox1 := owns_below ox1 b5
    have t5 := t4.trans (b5.mono t4.size)
    clear y0_0 y0_1 y0_2 y0_3 y0_4
    have z5 := b5.size
    go_wp2_with fail
    refine (implRopeVerdict_c k vx1 l _ (Rs.of_own ox1) h1).mono ?_
    rintro e W6 ⟨rfl, b6⟩
    have ox1 := owns_below ox1 b6
    have t6 := t5.trans (b6.mono t5.size)
    have z6 := b6.size
    go_wp2_with fail
    refine (toDamageS_any v1 l _ (HR1.out.below t6 rfl) h1).mono ?_
    rintro e W7 ⟨vy1, rfl, ny1, b7⟩
    have ox1 := owns_below ox1 b7
    have t7 := t6.trans (b7.mono t6.size)
    have z7 := b7.size
    have oy1 := ny1
    have ly1 := betw_of oy1
    go_wp2_with fail
    refine (eqDamageS_same vx1 vy1 l _ (Rs.of_own ox1) (Rs.of_own oy1)).mono ?_
    rintro e W8 ⟨rfl, b8⟩
    have ox1 := owns_below ox1 b8
    have oy1 := owns_below oy1 b8
    have t8 := t7.trans (b8.mono t7.size)
    have z8 := b8.size
    go_wp2_with fail
    go_ret
    exact ⟨rfl, HT0.out.trans (t8.mono (by omega))⟩
  · skip
    go_enter Try.func10, Try.ntmps10
    go_wp2_with fail
    have HX0 : Hid (∀ W, Below (w.heap.size + 1) (w.alloc (.cells #[.int .i64 k.i, .int .i64 k.s, .int .i64 k.w, .int .i64 k.g, .int .i64 k.p] 58)) W → W.cell? ⟨w.heap.size, 0, none⟩ = some (.int .i64 k.i) ∧ W.cell? ⟨w.heap.size, 1, none⟩ = some (.int .i64 k.s) ∧ W.cell? ⟨w.heap.size, 2, none⟩ = some (.int .i64 k.w) ∧ W.cell? ⟨w.heap.size, 3, none⟩ = some (.int .i64 k.g) ∧ W.cell? ⟨w.heap.size, 4, none⟩ = some (.int .i64 k.p)) := Lib.hid (fun W h => box_RK w k _ _ (by simp) W h)
    generalize hW0 : w.alloc (.cells #[.int .i64 k.i, .int .i64 k.s, .int .i64 k.w, .int .i64 k.g, .int .i64 k.p] 58) = W0 at *
    have hs0 : W0.heap.size = w.heap.size + 1 := by rw [← hW0]; simp
    have HT0 : Hid (Below w.heap.size w W0) := Lib.hid (by rw [← hW0]; exact ((Below.refl _ _).alloc (by simp) _))
    clear hW0
    have HR1 := Lib.hid (HR1.out.below HT0.out rfl)
    refine (szDamageS_big v1 l.length _ _ _ HR1.out hn1 (by omega) (by omega) (by omega)).mono ?_
    rintro e w' ⟨rfl, hw⟩
    have hw := hw.symm
    subst hw
    go_wp2_with fail
    go_ret
    exact ⟨rfl, HT0.out⟩
end Go.Proofs.Ytipehgnnfmfifaa
