/- The law FnExactOverTension's walk. Condition: sizes. -/
import Derived.Test.YtdnmmafnjhgeiaaOverC
import Derived.Test.YtdnmmafnjhgeiaaSupMark
import Derived.Test.YtdnmmafnjhgeiaaEqC
namespace Go.Proofs.Ytdnmmafnjhgeiaa
open Go.RowKit
set_option linter.unusedVariables false
set_option maxRecDepth 100000 in
set_option maxHeartbeats 4000000 in
theorem FnExactOverTension_walk (v0 : Value) (l : List Sup) (x : LC) (q : Int) (w : World) (hr0 : Rs w v0 l.length (sups l)) (hn0 : l.length ≤ maxLen) (hw1 : x.wf) (hw2 : (Lit.int .i64 q).wf = true) :
    Calls Try.prog 11 #[v0, .agg #[.int .i64 x.w, .int .i64 x.c, .int .i64 x.r], .int .i64 q] w fun e w' => e = .returned (.bool true) ∧ Below w.heap.size w w' := by
  have HR0 := Lib.hid hr0
  clear hr0
  have hm0 := hn0
  unfold maxLen at hm0
  have HW1 := Lib.hid hw1
  clear hw1
  have HW2 := Lib.hid hw2
  clear hw2
  by_cases hb0 : (l.length : Int) ≤ 1048576
  · skip
    have hl0 : l.length ≤ 1048576 := by omega
    go_enter Try.func11, Try.ntmps11
    go_wp2_with fail
    have HX1 : Hid (∀ W, Below (w.heap.size + 1) (w.alloc (.cells #[.int .i64 x.w, .int .i64 x.c, .int .i64 x.r] 44)) W → W.cell? ⟨w.heap.size, 0, none⟩ = some (.int .i64 x.w) ∧ W.cell? ⟨w.heap.size, 1, none⟩ = some (.int .i64 x.c) ∧ W.cell? ⟨w.heap.size, 2, none⟩ = some (.int .i64 x.r)) := Lib.hid (fun W h => box_LC w x _ _ (by simp) W h)
    generalize hW0 : w.alloc (.cells #[.int .i64 x.w, .int .i64 x.c, .int .i64 x.r] 44) = W0 at *
    have hs0 : W0.heap.size = w.heap.size + 1 := by rw [← hW0]; simp
    have HT0 : Hid (Below w.heap.size w W0) := Lib.hid (by rw [← hW0]; exact ((Below.refl _ _).alloc (by simp) _))
    clear hW0
    have HR0 := Lib.hid (HR0.out.below HT0.out rfl)
    refine (szSupportS_ok v0 l.length _ _ _ HR0.out (by omega) (by omega)).mono ?_
    rintro e w' ⟨rfl, hw⟩
    have hw := hw.symm
    subst hw
    have t0 := Below.refl W0.heap.size W0
    go_wp2_with fail
    have HKS : Hid (∀ W, Below W0.heap.size W0 W → Below W0.heap.size W0 W ∧ W.cell? ⟨w.heap.size, 0, none⟩ = some (.int .i64 x.w) ∧ W.cell? ⟨w.heap.size, 1, none⟩ = some (.int .i64 x.c) ∧ W.cell? ⟨w.heap.size, 2, none⟩ = some (.int .i64 x.r)) := Lib.hid (fun W hW => by
      have hW0 := t0.trans (hW.mono t0.size)
      obtain ⟨z1_0, z1_1, z1_2⟩ := HX1.out W (by rw [← hs0]; exact hW0)
      exact ⟨hW, z1_0, z1_1, z1_2⟩)
    have HRD0 := Lib.hid (fun W (hW : Below W0.heap.size W0 W) => HR0.out.below (t0.trans (hW.mono t0.size)) rfl)
    go_region_held3 (fun w' => Below W0.heap.size W0 w' ∧ w'.cell? ⟨w.heap.size, 0, none⟩ = some (.int .i64 x.w) ∧ w'.cell? ⟨w.heap.size, 1, none⟩ = some (.int .i64 x.c) ∧ w'.cell? ⟨w.heap.size, 2, none⟩ = some (.int .i64 x.r)) (exact HKS.out _ (by (first | exact Below.refl _ _ | exact below_drewN (Below.refl _ _) _ | (go_split_ands; refine Below.trans ?_ (Below.mono b3 (Below.size (B := W0.heap.size) ?_)) <;> assumption) | (go_split_ands; refine Below.trans ?_ (Below.mono b2 (Below.size (B := W0.heap.size) ?_)) <;> assumption) | (go_split_ands; refine Below.trans ?_ (Below.mono b1 (Below.size (B := W0.heap.size) ?_)) <;> assumption) | (go_split_ands; refine below_drewN ?_ _; assumption) | fail)))
      (first
        | (go_at_call 36; refine (toSupportS_any v0 l _ (HRD0.out _ (by first | exact Below.refl _ _ | exact below_drewN (Below.refl _ _) _ | (go_split_ands; assumption) | fail)) hl0).mono ?_; rintro e W1 ⟨vs0, rfl, ns0, b1⟩)
        | (go_at_call 32; refine (toLoadCase_any x _).mono ?_; rintro e W2 ⟨rfl, b2⟩)
        | (go_at_call 18; refine (specOverTension_c vs0 l x q _ (Rs.of_own (owns_below ns0 b2)) hl0 HW2.out).mono ?_; rintro e W3 ⟨vw0, rfl, nw0, b3⟩)
        | fail)
    have T3 : Below W0.heap.size W0 W3 := by go_split_ands; assumption
    have t3 := t0.trans (T3.mono t0.size)
    have z3 := T3.size
    have ow0 := nw0
    have lw0 := betw_of ow0
    go_wp2_with fail
    refine (toSupportS_any v0 l _ (HR0.out.below t3 rfl) hl0).mono ?_
    rintro e W4 ⟨vx0, rfl, nx0, b4⟩
    have ow0 := owns_below ow0 b4
    have t4 := t3.trans (b4.mono t3.size)
    have z4 := b4.size
    have ox0 := nx0
    have lx0 := betw_of ox0
    obtain ⟨y1_0, y1_1, y1_2⟩ := HX1.out _ (by rw [← hs0]; exact t4)
    go_wp2_with fail
    refine (toLoadCase_any x _).mono ?_
    rintro e W5 ⟨rfl, b5⟩
    have ow0 := owns_below ow0 b5
    have ox0 := owns_below ox0 b5
    have t5 := t4.trans (b5.mono t4.size)
    clear y1_0 y1_1 y1_2
    have z5 := b5.size
    go_wp2_with fail
    refine (implOverTension_c vx0 l x q _ (Rs.of_own ox0) hl0 HW2.out).mono ?_
    rintro e W6 ⟨vg0, rfl, ng0, b6⟩
    have ow0 := owns_below ow0 b6
    have ox0 := owns_below ox0 b6
    have t6 := t5.trans (b6.mono t5.size)
    have z6 := b6.size
    have og0 := ng0
    have lg0 := betw_of og0
    go_wp2_with fail
    refine (eqIntS_c vg0 vw0 (otL l x q) _ (Rd.of_own og0) (Rd.of_own ow0)).mono ?_
    rintro e W7 ⟨rfl, b7⟩
    have ow0 := owns_below ow0 b7
    have ox0 := owns_below ox0 b7
    have og0 := owns_below og0 b7
    have t7 := t6.trans (b7.mono t6.size)
    have z7 := b7.size
    go_wp2_with fail
    refine (toSupportS_any v0 l _ (HR0.out.below t7 rfl) hl0).mono ?_
    rintro e W8 ⟨vy0, rfl, ny0, b8⟩
    have ow0 := owns_below ow0 b8
    have ox0 := owns_below ox0 b8
    have og0 := owns_below og0 b8
    have t8 := t7.trans (b8.mono t7.size)
    have z8 := b8.size
    have oy0 := ny0
    have ly0 := betw_of oy0
    go_wp2_with fail
    refine (eqSupportS_same vx0 vy0 l _ (Rs.of_own ox0) (Rs.of_own oy0)).mono ?_
    rintro e W9 ⟨rfl, b9⟩
    have ow0 := owns_below ow0 b9
    have ox0 := owns_below ox0 b9
    have og0 := owns_below og0 b9
    have oy0 := owns_below oy0 b9
    have t9 := t8.trans (b9.mono t8.size)
    have z9 := b9.size
    go_wp2_with fail
    refine (markSupportS_any _ 1 l.length vx0 _ _ (by omega) (by omega) (by have := b9.size; omega) ox0).mono ?_
    rintro e W10 ⟨rfl, ox0, b10⟩
    have ow0 := ow0.kept b10 (apart lw0 lx0 (by omega))
    have og0 := og0.kept b10 (apart lg0 lx0 (by omega))
    have t10 := t9.trans (below_mark b10 lx0 (by first | exact Nat.le_refl _ | (have := t9.size; omega) | omega) t9.size)
    have z10 := b10.size
    go_wp2_with fail
    refine (eqIntS_c vg0 vw0 (otL l x q) _ (Rd.of_own og0) (Rd.of_own ow0)).mono ?_
    rintro e W11 ⟨rfl, b11⟩
    have ow0 := owns_below ow0 b11
    have og0 := owns_below og0 b11
    have t11 := t10.trans (b11.mono t10.size)
    have z11 := b11.size
    have hb0 : (otL l x q).length ≤ 8388608 := by (have := otL_len l x q; omega)
    go_wp2_with fail
    refine (markIntS_any _ 1 (otL l x q).length vg0 _ _ (by omega) (by omega) (by have := b11.size; omega) og0).mono ?_
    rintro e W12 ⟨rfl, og0, b12⟩
    have ow0 := ow0.kept b12 (apart lw0 lg0 (by omega))
    have t12 := t11.trans (below_mark b12 lg0 (by first | exact Nat.le_refl _ | (have := t11.size; omega) | omega) t11.size)
    have z12 := b12.size
    go_wp2_with fail
    refine (heldIntS_c 1 (otL l x q).length vg0 _ (by omega) (by omega) (Rd.of_own og0)).mono ?_
    rintro e W13 ⟨rfl, b13⟩
    have ow0 := owns_below ow0 b13
    have og0 := owns_below og0 b13
    have t13 := t12.trans (b13.mono t12.size)
    have z13 := b13.size
    go_wp2_with fail
    have HKS : Hid (∀ W, Below W13.heap.size W13 W → Below W13.heap.size W13 W ∧ W.cell? ⟨w.heap.size, 0, none⟩ = some (.int .i64 x.w) ∧ W.cell? ⟨w.heap.size, 1, none⟩ = some (.int .i64 x.c) ∧ W.cell? ⟨w.heap.size, 2, none⟩ = some (.int .i64 x.r)) := Lib.hid (fun W hW => by
      have hW0 := t13.trans (hW.mono t13.size)
      obtain ⟨z1_0, z1_1, z1_2⟩ := HX1.out W (by rw [← hs0]; exact hW0)
      exact ⟨hW, z1_0, z1_1, z1_2⟩)
    have HRD0 := Lib.hid (fun W (hW : Below W13.heap.size W13 W) => HR0.out.below (t13.trans (hW.mono t13.size)) rfl)
    go_region_held3 (fun w' => Below W13.heap.size W13 w' ∧ w'.cell? ⟨w.heap.size, 0, none⟩ = some (.int .i64 x.w) ∧ w'.cell? ⟨w.heap.size, 1, none⟩ = some (.int .i64 x.c) ∧ w'.cell? ⟨w.heap.size, 2, none⟩ = some (.int .i64 x.r)) (exact HKS.out _ (by (first | exact Below.refl _ _ | exact below_drewN (Below.refl _ _) _ | (go_split_ands; refine Below.trans ?_ (Below.mono b16 (Below.size (B := W13.heap.size) ?_)) <;> assumption) | (go_split_ands; refine Below.trans ?_ (Below.mono b15 (Below.size (B := W13.heap.size) ?_)) <;> assumption) | (go_split_ands; refine Below.trans ?_ (Below.mono b14 (Below.size (B := W13.heap.size) ?_)) <;> assumption) | (go_split_ands; refine below_drewN ?_ _; assumption) | fail)))
      (first
        | (go_at_call 36; refine (toSupportS_any v0 l _ (HRD0.out _ (by first | exact Below.refl _ _ | exact below_drewN (Below.refl _ _) _ | (go_split_ands; assumption) | fail)) hl0).mono ?_; rintro e W14 ⟨vu0, rfl, nu0, b14⟩)
        | (go_at_call 32; refine (toLoadCase_any x _).mono ?_; rintro e W15 ⟨rfl, b15⟩)
        | (go_at_call 17; refine (implOverTension_c vu0 l x q _ (Rs.of_own (owns_below nu0 b15)) hl0 HW2.out).mono ?_; rintro e W16 ⟨vh0, rfl, nh0, b16⟩)
        | fail)
    have T16 : Below W13.heap.size W13 W16 := by go_split_ands; assumption
    have ow0 := owns_below ow0 T16
    have og0 := owns_below og0 T16
    have t16 := t13.trans (T16.mono t13.size)
    have z16 := T16.size
    have oh0 := nh0
    have lh0 := betw_of oh0
    go_wp2_with fail
    refine (eqIntS_c vh0 vw0 (otL l x q) _ (Rd.of_own oh0) (Rd.of_own ow0)).mono ?_
    rintro e W17 ⟨rfl, b17⟩
    have ow0 := owns_below ow0 b17
    have og0 := owns_below og0 b17
    have oh0 := owns_below oh0 b17
    have t17 := t16.trans (b17.mono t16.size)
    have z17 := b17.size
    go_wp2_with fail
    refine (heldIntS_c 1 (otL l x q).length vg0 _ (by omega) (by omega) (Rd.of_own og0)).mono ?_
    rintro e W18 ⟨rfl, b18⟩
    have ow0 := owns_below ow0 b18
    have og0 := owns_below og0 b18
    have oh0 := owns_below oh0 b18
    have t18 := t17.trans (b18.mono t17.size)
    go_wp2_with fail
    go_ret
    exact ⟨rfl, HT0.out.trans (t18.mono (by omega))⟩
  · skip
    go_enter Try.func11, Try.ntmps11
    go_wp2_with fail
    have HX1 : Hid (∀ W, Below (w.heap.size + 1) (w.alloc (.cells #[.int .i64 x.w, .int .i64 x.c, .int .i64 x.r] 44)) W → W.cell? ⟨w.heap.size, 0, none⟩ = some (.int .i64 x.w) ∧ W.cell? ⟨w.heap.size, 1, none⟩ = some (.int .i64 x.c) ∧ W.cell? ⟨w.heap.size, 2, none⟩ = some (.int .i64 x.r)) := Lib.hid (fun W h => box_LC w x _ _ (by simp) W h)
    generalize hW0 : w.alloc (.cells #[.int .i64 x.w, .int .i64 x.c, .int .i64 x.r] 44) = W0 at *
    have hs0 : W0.heap.size = w.heap.size + 1 := by rw [← hW0]; simp
    have HT0 : Hid (Below w.heap.size w W0) := Lib.hid (by rw [← hW0]; exact ((Below.refl _ _).alloc (by simp) _))
    clear hW0
    have HR0 := Lib.hid (HR0.out.below HT0.out rfl)
    refine (szSupportS_big v0 l.length _ _ _ HR0.out hn0 (by omega) (by omega) (by omega)).mono ?_
    rintro e w' ⟨rfl, hw⟩
    have hw := hw.symm
    subst hw
    go_wp2_with fail
    go_ret
    exact ⟨rfl, HT0.out⟩
end Go.Proofs.Ytdnmmafnjhgeiaa
