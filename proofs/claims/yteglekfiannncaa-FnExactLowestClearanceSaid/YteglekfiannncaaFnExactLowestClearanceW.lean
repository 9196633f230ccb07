/- The law FnExactLowestClearance's walk. Condition: sizes. -/
import Derived.Test.YteglekfiannncaaLowC
import Derived.Test.YteglekfiannncaaLowI
namespace Go.Proofs.Yteglekfiannncaa
open Go.RowKit
set_option linter.unusedVariables false
set_option maxRecDepth 100000 in
set_option maxHeartbeats 4000000 in
theorem FnExactLowestClearance_walk (v0 : Value) (l : List Sup) (r : Rp) (v2 : Value) (g : List GP) (w : World) (hr0 : Rs w v0 l.length (sups l)) (hn0 : l.length ≤ maxLen) (hw1 : r.wf) (hr2 : Rs w v2 g.length (gps g)) (hn2 : g.length ≤ maxLen) :
    Calls Try.prog 12 #[v0, .agg #[.int .i64 r.w, .int .i64 r.p], v2] w fun e w' => e = .returned (.bool true) ∧ Below w.heap.size w w' := by
  have HR0 := Lib.hid hr0
  clear hr0
  have hm0 := hn0
  unfold maxLen at hm0
  have HR2 := Lib.hid hr2
  clear hr2
  have hm2 := hn2
  unfold maxLen at hm2
  have HW1 := Lib.hid hw1
  clear hw1
  by_cases hb0 : (l.length : Int) ≤ 1048576
  · skip
    by_cases hb2 : (g.length : Int) ≤ 1048576 - (l.length : Int)
    · skip
      have hl0 : l.length ≤ 1048576 := by omega
      have hl2 : g.length ≤ 1048576 := by omega
      go_enter Try.func12, Try.ntmps12
      go_wp2_with fail
      have HX1 : Hid (∀ W, Below (w.heap.size + 1) (w.alloc (.cells #[.int .i64 r.w, .int .i64 r.p] 79)) W → W.cell? ⟨w.heap.size, 0, none⟩ = some (.int .i64 r.w) ∧ W.cell? ⟨w.heap.size, 1, none⟩ = some (.int .i64 r.p)) := Lib.hid (fun W h => box_Rp w r _ _ (by simp) W h)
      generalize hW0 : w.alloc (.cells #[.int .i64 r.w, .int .i64 r.p] 79) = W0 at *
      have hs0 : W0.heap.size = w.heap.size + 1 := by rw [← hW0]; simp
      have HT0 : Hid (Below w.heap.size w W0) := Lib.hid (by rw [← hW0]; exact ((Below.refl _ _).alloc (by simp) _))
      clear hW0
      have HR0 := Lib.hid (HR0.out.below HT0.out rfl)
      have HR2 := Lib.hid (HR2.out.below HT0.out rfl)
      refine (szSupportS_ok v0 l.length _ _ _ HR0.out (by omega) (by omega)).mono ?_
      rintro e w' ⟨rfl, hw⟩
      have hw := hw.symm
      subst hw
      go_wp2_with fail
      refine (szGroundPointS_ok v2 g.length _ _ _ HR2.out (by omega) (by omega)).mono ?_
      rintro e w' ⟨rfl, hw⟩
      have hw := hw.symm
      subst hw
      have t0 := Below.refl W0.heap.size W0
      go_wp2_with fail
      have HKS : Hid (∀ W, Below W0.heap.size W0 W → Below W0.heap.size W0 W ∧ W.cell? ⟨w.heap.size, 0, none⟩ = some (.int .i64 r.w) ∧ W.cell? ⟨w.heap.size, 1, none⟩ = some (.int .i64 r.p)) := Lib.hid (fun W hW => by
        have hW0 := t0.trans (hW.mono t0.size)
        obtain ⟨z1_0, z1_1⟩ := HX1.out W (by rw [← hs0]; exact hW0)
        exact ⟨hW, z1_0, z1_1⟩)
      have HRD0 := Lib.hid (fun W (hW : Below W0.heap.size W0 W) => HR0.out.below (t0.trans (hW.mono t0.size)) rfl)
      have HRD2 := Lib.hid (fun W (hW : Below W0.heap.size W0 W) => HR2.out.below (t0.trans (hW.mono t0.size)) rfl)
      go_region_held3 (fun w' => Below W0.heap.size W0 w' ∧ w'.cell? ⟨w.heap.size, 0, none⟩ = some (.int .i64 r.w) ∧ w'.cell? ⟨w.heap.size, 1, none⟩ = some (.int .i64 r.p)) (exact HKS.out _ (by (first | exact Below.refl _ _ | exact below_drewN (Below.refl _ _) _ | (go_split_ands; refine Below.trans ?_ (Below.mono b4 (Below.size (B := W0.heap.size) ?_)) <;> assumption) | (go_split_ands; refine Below.trans ?_ (Below.mono b3 (Below.size (B := W0.heap.size) ?_)) <;> assumption) | (go_split_ands; refine Below.trans ?_ (Below.mono b2 (Below.size (B := W0.heap.size) ?_)) <;> assumption) | (go_split_ands; refine Below.trans ?_ (Below.mono b1 (Below.size (B := W0.heap.size) ?_)) <;> assumption) | (go_split_ands; refine below_drewN ?_ _; assumption) | fail)))
        (first
          | (go_at_call 61; refine (toSupportS_any v0 l _ (HRD0.out _ (by first | exact Below.refl _ _ | exact below_drewN (Below.refl _ _) _ | (go_split_ands; assumption) | fail)) hl0).mono ?_; rintro e W1 ⟨vs0, rfl, ns0, b1⟩)
          | (go_at_call 57; refine (toRope_any r _).mono ?_; rintro e W2 ⟨rfl, b2⟩)
          | (go_at_call 69; refine (toGroundPointS_any v2 g _ (HRD2.out _ (by first | exact Below.refl _ _ | exact below_drewN (Below.refl _ _) _ | (go_split_ands; assumption) | fail)) hl2).mono ?_; rintro e W3 ⟨vs2, rfl, ns2, b3⟩)
          | (go_at_call 18; refine (specLowestClearance_c vs0 l r vs2 g _ (Rs.of_own (owns_below (owns_below ns0 b2) b3)) hl0 (Rs.of_own ns2) hl2).mono ?_; rintro e W4 ⟨rfl, b4⟩)
          | fail)
      have T4 : Below W0.heap.size W0 W4 := by go_split_ands; assumption
      have t4 := t0.trans (T4.mono t0.size)
      have z4 := T4.size
      go_wp2_with fail
      refine (toSupportS_any v0 l _ (HR0.out.below t4 rfl) hl0).mono ?_
      rintro e W5 ⟨vx0, rfl, nx0, b5⟩
      have t5 := t4.trans (b5.mono t4.size)
      have z5 := b5.size
      have ox0 := nx0
      have lx0 := betw_of ox0
      go_wp2_with fail
      refine (toGroundPointS_any v2 g _ (HR2.out.below t5 rfl) hl2).mono ?_
      rintro e W6 ⟨vx2, rfl, nx2, b6⟩
      have ox0 := owns_below ox0 b6
      have t6 := t5.trans (b6.mono t5.size)
      have z6 := b6.size
      have ox2 := nx2
      have lx2 := betw_of ox2
      obtain ⟨y1_0, y1_1⟩ := HX1.out _ (by rw [← hs0]; exact t6)
      go_wp2_with fail
      refine (toRope_any r _).mono ?_
      rintro e W7 ⟨rfl, b7⟩
      have ox0 := owns_below ox0 b7
      have ox2 := owns_below ox2 b7
      have t7 := t6.trans (b7.mono t6.size)
      clear y1_0 y1_1
      have z7 := b7.size
      go_wp2_with fail
      refine (implLowestClearance_c vx0 l r vx2 g _ (Rs.of_own ox0) hl0 (Rs.of_own ox2) hl2).mono ?_
      rintro e W8 ⟨rfl, b8⟩
      have ox0 := owns_below ox0 b8
      have ox2 := owns_below ox2 b8
      have t8 := t7.trans (b8.mono t7.size)
      have z8 := b8.size
      go_wp2_with fail
      refine (toSupportS_any v0 l _ (HR0.out.below t8 rfl) hl0).mono ?_
      rintro e W9 ⟨vy0, rfl, ny0, b9⟩
      have ox0 := owns_below ox0 b9
      have ox2 := owns_below ox2 b9
      have t9 := t8.trans (b9.mono t8.size)
      have z9 := b9.size
      have oy0 := ny0
      have ly0 := betw_of oy0
      go_wp2_with fail
      refine (eqSupportS_same vx0 vy0 l _ (Rs.of_own ox0) (Rs.of_own oy0)).mono ?_
      rintro e W10 ⟨rfl, b10⟩
      have ox0 := owns_below ox0 b10
      have ox2 := owns_below ox2 b10
      have oy0 := owns_below oy0 b10
      have t10 := t9.trans (b10.mono t9.size)
      have z10 := b10.size
      go_wp2_with fail
      refine (toGroundPointS_any v2 g _ (HR2.out.below t10 rfl) hl2).mono ?_
      rintro e W11 ⟨vy2, rfl, ny2, b11⟩
      have ox0 := owns_below ox0 b11
      have ox2 := owns_below ox2 b11
      have t11 := t10.trans (b11.mono t10.size)
      have z11 := b11.size
      have oy2 := ny2
      have ly2 := betw_of oy2
      go_wp2_with fail
      refine (eqGroundPointS_same vx2 vy2 g _ (Rs.of_own ox2) (Rs.of_own oy2)).mono ?_
      rintro e W12 ⟨rfl, b12⟩
      have ox0 := owns_below ox0 b12
      have ox2 := owns_below ox2 b12
      have oy2 := owns_below oy2 b12
      have t12 := t11.trans (b12.mono t11.size)
      have z12 := b12.size
      go_wp2_with fail
      go_ret
      exact ⟨rfl, HT0.out.trans (t12.mono (by omega))⟩
    · skip
      go_enter Try.func12, Try.ntmps12
      go_wp2_with fail
      have HX1 : Hid (∀ W, Below (w.heap.size + 1) (w.alloc (.cells #[.int .i64 r.w, .int .i64 r.p] 79)) W → W.cell? ⟨w.heap.size, 0, none⟩ = some (.int .i64 r.w) ∧ W.cell? ⟨w.heap.size, 1, none⟩ = some (.int .i64 r.p)) := Lib.hid (fun W h => box_Rp w r _ _ (by simp) W h)
      generalize hW0 : w.alloc (.cells #[.int .i64 r.w, .int .i64 r.p] 79) = W0 at *
      have hs0 : W0.heap.size = w.heap.size + 1 := by rw [← hW0]; simp
      have HT0 : Hid (Below w.heap.size w W0) := Lib.hid (by rw [← hW0]; exact ((Below.refl _ _).alloc (by simp) _))
      clear hW0
      have HR0 := Lib.hid (HR0.out.below HT0.out rfl)
      have HR2 := Lib.hid (HR2.out.below HT0.out rfl)
      refine (szSupportS_ok v0 l.length _ _ _ HR0.out (by omega) (by omega)).mono ?_
      rintro e w' ⟨rfl, hw⟩
      have hw := hw.symm
      subst hw
      go_wp2_with fail
      refine (szGroundPointS_big v2 g.length _ _ _ HR2.out hn2 (by omega) (by omega) (by omega)).mono ?_
      rintro e w' ⟨rfl, hw⟩
      have hw := hw.symm
      subst hw
      go_wp2_with fail
      go_ret
      exact ⟨rfl, HT0.out⟩
  · skip
    go_enter Try.func12, Try.ntmps12
    go_wp2_with fail
    have HX1 : Hid (∀ W, Below (w.heap.size + 1) (w.alloc (.cells #[.int .i64 r.w, .int .i64 r.p] 79)) W → W.cell? ⟨w.heap.size, 0, none⟩ = some (.int .i64 r.w) ∧ W.cell? ⟨w.heap.size, 1, none⟩ = some (.int .i64 r.p)) := Lib.hid (fun W h => box_Rp w r _ _ (by simp) W h)
    generalize hW0 : w.alloc (.cells #[.int .i64 r.w, .int .i64 r.p] 79) = W0 at *
    have hs0 : W0.heap.size = w.heap.size + 1 := by rw [← hW0]; simp
    have HT0 : Hid (Below w.heap.size w W0) := Lib.hid (by rw [← hW0]; exact ((Below.refl _ _).alloc (by simp) _))
    clear hW0
    have HR0 := Lib.hid (HR0.out.below HT0.out rfl)
    have HR2 := Lib.hid (HR2.out.below HT0.out rfl)
    refine (szSupportS_big v0 l.length _ _ _ HR0.out hn0 (by omega) (by omega) (by omega)).mono ?_
    rintro e w' ⟨rfl, hw⟩
    have hw := hw.symm
    subst hw
    go_wp2_with fail
    go_ret
    exact ⟨rfl, HT0.out⟩
end Go.Proofs.Yteglekfiannncaa
