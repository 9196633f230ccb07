/- The law FnExactSafetyAt's walk. Condition: sizes. -/
import Derived.Test.YtdnmmafnjhgeiaaSafeC
namespace Go.Proofs.Ytdnmmafnjhgeiaa
open Go.RowKit
set_option linter.unusedVariables false
set_option maxRecDepth 100000 in
set_option maxHeartbeats 4000000 in
theorem FnExactSafetyAt_walk (v0 : Value) (l : List Sup) (x : LC) (s : Int) (q : Int) (w : World) (hr0 : Rs w v0 l.length (sups l)) (hn0 : l.length ≤ maxLen) (hw1 : x.wf) (hw2 : (Lit.int .i64 s).wf = true) (hw3 : (Lit.int .i64 q).wf = true) :
    Calls Try.prog 10 #[v0, .agg #[.int .i64 x.w, .int .i64 x.c, .int .i64 x.r], .int .i64 s, .int .i64 q] w fun e w' => e = .returned (.bool true) ∧ Below w.heap.size w w' := by
  have HR0 := Lib.hid hr0
  clear hr0
  have hm0 := hn0
  unfold maxLen at hm0
  have HW1 := Lib.hid hw1
  clear hw1
  have HW2 := Lib.hid hw2
  clear hw2
  have HW3 := Lib.hid hw3
  clear hw3
  by_cases hb0 : (l.length : Int) ≤ 1048576
  · skip
    have hl0 : l.length ≤ 1048576 := by omega
    go_enter Try.func10, Try.ntmps10
    go_wp2_with fail
    have HX1 : Hid (∀ W, Below (w.heap.size + 1) (w.alloc (.cells #[.int .i64 x.w, .int .i64 x.c, .int .i64 x.r] 44)) W → W.cell? ⟨w.heap.size, 0, none⟩ = some (.int .i64 x.w) ∧ W.cell? ⟨w.heap.size, 1, none⟩ = some (.int .i64 x.c) ∧ W.cell? ⟨w.heap.size, 2, none⟩ = some (.int .i64 x.r)) := Lib.hid (fun W h => box_LC w x _ _ (by simp) W h)
    generalize hW0 : w.alloc (.cells #[.int .i64 x.w, .int .i64 x.c, .int .i64 x.r] 44) = W0 at *
    have hs0 : W0.heap.size = w.heap.size + 1 := by rw [← hW0]; simp
    have HT0 : Hid (Below w.heap.size w W0) := Lib.hid (by rw [← hW0]; exact ((Below.refl _ _).alloc (by simp) _))
    clear hW0
    have HR0 := Lib.hid (HR0.out.below HT0.out rfl)
    refine (szSupportS_ok v0 l.length _ _ _ HR0.out (by omega) (by omega)).mono ?_
    rintro e w' ⟨rfl, hw⟩
    have hw := hw.symm
    subst hw
    have t0 := Below.refl W0.heap.size W0
    go_wp2_with fail
    have HKS : Hid (∀ W, Below W0.heap.size W0 W → Below W0.heap.size W0 W ∧ W.cell? ⟨w.heap.size, 0, none⟩ = some (.int .i64 x.w) ∧ W.cell? ⟨w.heap.size, 1, none⟩ = some (.int .i64 x.c) ∧ W.cell? ⟨w.heap.size, 2, none⟩ = some (.int .i64 x.r)) := Lib.hid (fun W hW => by
      have hW0 := t0.trans (hW.mono t0.size)
      obtain ⟨z1_0, z1_1, z1_2⟩ := HX1.out W (by rw [← hs0]; exact hW0)
      exact ⟨hW, z1_0, z1_1, z1_2⟩)
    have HRD0 := Lib.hid (fun W (hW : Below W0.heap.size W0 W) => HR0.out.below (t0.trans (hW.mono t0.size)) rfl)
    go_region_held3 (fun w' => Below W0.heap.size W0 w' ∧ w'.cell? ⟨w.heap.size, 0, none⟩ = some (.int .i64 x.w) ∧ w'.cell? ⟨w.heap.size, 1, none⟩ = some (.int .i64 x.c) ∧ w'.cell? ⟨w.heap.size, 2, none⟩ = some (.int .i64 x.r)) (exact HKS.out _ (by (first | exact Below.refl _ _ | exact below_drewN (Below.refl _ _) _ | (go_split_ands; refine Below.trans ?_ (Below.mono b3 (Below.size (B := W0.heap.size) ?_)) <;> assumption) | (go_split_ands; refine Below.trans ?_ (Below.mono b2 (Below.size (B := W0.heap.size) ?_)) <;> assumption) | (go_split_ands; refine Below.trans ?_ (Below.mono b1 (Below.size (B := W0.heap.size) ?_)) <;> assumption) | (go_split_ands; refine below_drewN ?_ _; assumption) | fail)))
      (first
        | (go_at_call 36; refine (toSupportS_any v0 l _ (HRD0.out _ (by first | exact Below.refl _ _ | exact below_drewN (Below.refl _ _) _ | (go_split_ands; assumption) | fail)) hl0).mono ?_; rintro e W1 ⟨vs0, rfl, ns0, b1⟩)
        | (go_at_call 32; refine (toLoadCase_any x _).mono ?_; rintro e W2 ⟨rfl, b2⟩)
        | (go_at_call 24; refine (specSafetyAt_c vs0 l x s q _ (Rs.of_own (owns_below ns0 b2)) hl0 HW2.out HW3.out).mono ?_; rintro e W3 ⟨rfl, b3⟩)
        | fail)
    have T3 : Below W0.heap.size W0 W3 := by go_split_ands; assumption
    have t3 := t0.trans (T3.mono t0.size)
    have z3 := T3.size
    go_wp2_with fail
    refine (toSupportS_any v0 l _ (HR0.out.below t3 rfl) hl0).mono ?_
    rintro e W4 ⟨vx0, rfl, nx0, b4⟩
    have t4 := t3.trans (b4.mono t3.size)
    have z4 := b4.size
    have ox0 := nx0
    have lx0 := betw_of ox0
    obtain ⟨y1_0, y1_1, y1_2⟩ := HX1.out _ (by rw [← hs0]; exact t4)
    go_wp2_with fail
    refine (toLoadCase_any x _).mono ?_
    rintro e W5 ⟨rfl, b5⟩
    have ox0 := owns_below ox0 b5
    have t5 := t4.trans (b5.mono t4.size)
    clear y1_0 y1_1 y1_2
    have z5 := b5.size
    go_wp2_with fail
    refine (implSafetyAt_c vx0 l x s q _ (Rs.of_own ox0) hl0 HW2.out HW3.out).mono ?_
    rintro e W6 ⟨rfl, b6⟩
    have ox0 := owns_below ox0 b6
    have t6 := t5.trans (b6.mono t5.size)
    have z6 := b6.size
    go_wp2_with fail
    refine (toSupportS_any v0 l _ (HR0.out.below t6 rfl) hl0).mono ?_
    rintro e W7 ⟨vy0, rfl, ny0, b7⟩
    have ox0 := owns_below ox0 b7
    have t7 := t6.trans (b7.mono t6.size)
    have z7 := b7.size
    have oy0 := ny0
    have ly0 := betw_of oy0
    go_wp2_with fail
    refine (eqSupportS_same vx0 vy0 l _ (Rs.of_own ox0) (Rs.of_own oy0)).mono ?_
    rintro e W8 ⟨rfl, b8⟩
    have ox0 := owns_below ox0 b8
    have oy0 := owns_below oy0 b8
    have t8 := t7.trans (b8.mono t7.size)
    have z8 := b8.size
    go_wp2_with fail
    go_ret
    exact ⟨rfl, HT0.out.trans (t8.mono (by omega))⟩
  · skip
    go_enter Try.func10, Try.ntmps10
    go_wp2_with fail
    have HX1 : Hid (∀ W, Below (w.heap.size + 1) (w.alloc (.cells #[.int .i64 x.w, .int .i64 x.c, .int .i64 x.r] 44)) W → W.cell? ⟨w.heap.size, 0, none⟩ = some (.int .i64 x.w) ∧ W.cell? ⟨w.heap.size, 1, none⟩ = some (.int .i64 x.c) ∧ W.cell? ⟨w.heap.size, 2, none⟩ = some (.int .i64 x.r)) := Lib.hid (fun W h => box_LC w x _ _ (by simp) W h)
    generalize hW0 : w.alloc (.cells #[.int .i64 x.w, .int .i64 x.c, .int .i64 x.r] 44) = W0 at *
    have hs0 : W0.heap.size = w.heap.size + 1 := by rw [← hW0]; simp
    have HT0 : Hid (Below w.heap.size w W0) := Lib.hid (by rw [← hW0]; exact ((Below.refl _ _).alloc (by simp) _))
    clear hW0
    have HR0 := Lib.hid (HR0.out.below HT0.out rfl)
    refine (szSupportS_big v0 l.length _ _ _ HR0.out hn0 (by omega) (by omega) (by omega)).mono ?_
    rintro e w' ⟨rfl, hw⟩
    have hw := hw.symm
    subst hw
    go_wp2_with fail
    go_ret
    exact ⟨rfl, HT0.out⟩
end Go.Proofs.Ytdnmmafnjhgeiaa
