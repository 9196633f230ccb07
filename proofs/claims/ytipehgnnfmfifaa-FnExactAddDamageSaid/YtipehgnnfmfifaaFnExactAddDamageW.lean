/- The law FnExactAddDamage's walk. Condition: sizes. -/
import Derived.Test.YtipehgnnfmfifaaAddImplC
import Derived.Test.YtipehgnnfmfifaaDmgM
namespace Go.Proofs.Ytipehgnnfmfifaa
open Go.RowKit
set_option linter.unusedVariables false
set_option maxRecDepth 100000 in
set_option maxHeartbeats 4000000 in
theorem FnExactAddDamage_walk (k : RK) (v1 : Value) (l : List Dmg) (d : Dmg) (w : World) (hw0 : k.wf) (hr1 : Rs w v1 l.length (dmgs l)) (hn1 : l.length ≤ maxLen) (hw2 : d.wf) :
    Calls Try.prog 14 #[.agg #[.int .i64 k.i, .int .i64 k.s, .int .i64 k.w, .int .i64 k.g, .int .i64 k.p], v1, .agg #[.int .i64 d.a, .int .i64 d.s, .int .i64 d.w]] w fun e w' => e = .returned (.bool true) ∧ Below w.heap.size w w' := by
  have HR1 := Lib.hid hr1
  clear hr1
  have hm1 := hn1
  unfold maxLen at hm1
  have HW0 := Lib.hid hw0
  clear hw0
  have HW2 := Lib.hid hw2
  clear hw2
  by_cases h1 : l.length ≤ 1048576
  · skip
    go_enter Try.func14, Try.ntmps14
    go_wp2_with fail
    have HX0 : Hid (∀ W, Below (w.heap.size + 2) ((w.alloc (.cells #[.int .i64 k.i, .int .i64 k.s, .int .i64 k.w, .int .i64 k.g, .int .i64 k.p] 58)).alloc (.cells #[.int .i64 d.a, .int .i64 d.s, .int .i64 d.w] 74)) W → W.cell? ⟨w.heap.size, 0, none⟩ = some (.int .i64 k.i) ∧ W.cell? ⟨w.heap.size, 1, none⟩ = some (.int .i64 k.s) ∧ W.cell? ⟨w.heap.size, 2, none⟩ = some (.int .i64 k.w) ∧ W.cell? ⟨w.heap.size, 3, none⟩ = some (.int .i64 k.g) ∧ W.cell? ⟨w.heap.size, 4, none⟩ = some (.int .i64 k.p)) := Lib.hid (fun W h => box_RK w k _ _ (by simp) W (((Below.refl _ _).alloc (by simp) _).trans (h.mono (by simp))))
    have HX2 : Hid (∀ W, Below (w.heap.size + 2) ((w.alloc (.cells #[.int .i64 k.i, .int .i64 k.s, .int .i64 k.w, .int .i64 k.g, .int .i64 k.p] 58)).alloc (.cells #[.int .i64 d.a, .int .i64 d.s, .int .i64 d.w] 74)) W → W.cell? ⟨w.heap.size + 1, 0, none⟩ = some (.int .i64 d.a) ∧ W.cell? ⟨w.heap.size + 1, 1, none⟩ = some (.int .i64 d.s) ∧ W.cell? ⟨w.heap.size + 1, 2, none⟩ = some (.int .i64 d.w)) := Lib.hid (fun W h => box_Dmg (w.alloc (.cells #[.int .i64 k.i, .int .i64 k.s, .int .i64 k.w, .int .i64 k.g, .int .i64 k.p] 58)) d _ _ (by simp) W h)
    generalize hW0 : (w.alloc (.cells #[.int .i64 k.i, .int .i64 k.s, .int .i64 k.w, .int .i64 k.g, .int .i64 k.p] 58)).alloc (.cells #[.int .i64 d.a, .int .i64 d.s, .int .i64 d.w] 74) = W0 at *
    have hs0 : W0.heap.size = w.heap.size + 2 := by rw [← hW0]; simp
    have HT0 : Hid (Below w.heap.size w W0) := Lib.hid (by rw [← hW0]; exact (((Below.refl _ _).alloc (by simp) _).alloc (by simp) _))
    clear hW0
    have HR1 := Lib.hid (HR1.out.below HT0.out rfl)
    refine (szDamageS_ok v1 l.length _ _ _ HR1.out (by omega) (by omega)).mono ?_
    rintro e w' ⟨rfl, hw⟩
    have hw := hw.symm
    subst hw
    have t0 := Below.refl W0.heap.size W0
    go_wp2_with fail
    have HKS : Hid (∀ W, Below W0.heap.size W0 W → Below W0.heap.size W0 W ∧ W.cell? ⟨w.heap.size, 0, none⟩ = some (.int .i64 k.i) ∧ W.cell? ⟨w.heap.size, 1, none⟩ = some (.int .i64 k.s) ∧ W.cell? ⟨w.heap.size, 2, none⟩ = some (.int .i64 k.w) ∧ W.cell? ⟨w.heap.size, 3, none⟩ = some (.int .i64 k.g) ∧ W.cell? ⟨w.heap.size, 4, none⟩ = some (.int .i64 k.p) ∧ W.cell? ⟨w.heap.size + 1, 0, none⟩ = some (.int .i64 d.a) ∧ W.cell? ⟨w.heap.size + 1, 1, none⟩ = some (.int .i64 d.s) ∧ W.cell? ⟨w.heap.size + 1, 2, none⟩ = some (.int .i64 d.w)) := Lib.hid (fun W hW => by
      have hW0 := t0.trans (hW.mono t0.size)
      obtain ⟨z0_0, z0_1, z0_2, z0_3, z0_4⟩ := HX0.out W (by rw [← hs0]; exact hW0)
      obtain ⟨z2_0, z2_1, z2_2⟩ := HX2.out W (by rw [← hs0]; exact hW0)
      exact ⟨hW, z0_0, z0_1, z0_2, z0_3, z0_4, z2_0, z2_1, z2_2⟩)
    have HRD1 := Lib.hid (fun W (hW : Below W0.heap.size W0 W) => HR1.out.below (t0.trans (hW.mono t0.size)) rfl)
    go_region_held3 (fun w' => Below W0.heap.size W0 w' ∧ w'.cell? ⟨w.heap.size, 0, none⟩ = some (.int .i64 k.i) ∧ w'.cell? ⟨w.heap.size, 1, none⟩ = some (.int .i64 k.s) ∧ w'.cell? ⟨w.heap.size, 2, none⟩ = some (.int .i64 k.w) ∧ w'.cell? ⟨w.heap.size, 3, none⟩ = some (.int .i64 k.g) ∧ w'.cell? ⟨w.heap.size, 4, none⟩ = some (.int .i64 k.p) ∧ w'.cell? ⟨w.heap.size + 1, 0, none⟩ = some (.int .i64 d.a) ∧ w'.cell? ⟨w.heap.size + 1, 1, none⟩ = some (.int .i64 d.s) ∧ w'.cell? ⟨w.heap.size + 1, 2, none⟩ = some (.int .i64 d.w)) (exact HKS.out _ (by (first | exact Below.refl _ _ | exact (Below.refl _ _).drew | (go_split_ands; refine Below.trans ?_ (Below.mono b4 (Below.size (B := W0.heap.size) ?_)) <;> assumption) | (go_split_ands; refine Below.trans ?_ (Below.mono b3 (Below.size (B := W0.heap.size) ?_)) <;> assumption) | (go_split_ands; refine Below.trans ?_ (Below.mono b2 (Below.size (B := W0.heap.size) ?_)) <;> assumption) | (go_split_ands; refine Below.trans ?_ (Below.mono b1 (Below.size (B := W0.heap.size) ?_)) <;> assumption) | (go_split_ands; refine Below.drew ?_; assumption) | fail)))
      (first
        | (go_at_call 43; refine (toRopeKind_any k _).mono ?_; rintro e W1 ⟨rfl, b1⟩)
        | (go_at_call 49; refine (toDamageS_any v1 l _ (HRD1.out _ (by go_split_ands; assumption)) h1).mono ?_; rintro e W2 ⟨vs1, rfl, ns1, b2⟩)
        | (go_at_call 51; refine (toDamage_any d _).mono ?_; rintro e W3 ⟨rfl, b3⟩)
        | (go_at_call 32; refine (specAddDamage_c k vs1 l d _ _ (by first | exact owns_below ns1 b3 | (go_split_ands; exact owns_below ns1 (by assumption))) h1).mono ?_; rintro e W4 ⟨vw0, rfl, nw0, b4⟩))
    have T4 : Below W0.heap.size W0 W4 := by go_split_ands; assumption
    have t4 := t0.trans (T4.mono t0.size)
    have z4 := T4.size
    have zz1 : W0.heap.size ≤ W1.heap.size := b1.size
    have zz2 : W1.heap.size ≤ W2.heap.size := b2.size
    have zz3 : W2.heap.size ≤ W3.heap.size := b3.size
    have zz4 : W3.heap.size ≤ W4.heap.size := b4.size
    have ow0 := nw0
    have lw0 := betw_of ow0
    go_wp2_with fail
    refine (toDamageS_any v1 l _ (HR1.out.below t4 rfl) h1).mono ?_
    rintro e W5 ⟨vx1, rfl, nx1, b5⟩
    have ow0 := owns_below ow0 b5
    have t5 := t4.trans (b5.mono t4.size)
    have z5 := b5.size
    have ox1 := nx1
    have lx1 := betw_of ox1
    go_wp2_with fail
    have HKS : Hid (∀ W, Below W5.heap.size W5 W → Below W5.heap.size W5 W ∧ W.cell? ⟨w.heap.size, 0, none⟩ = some (.int .i64 k.i) ∧ W.cell? ⟨w.heap.size, 1, none⟩ = some (.int .i64 k.s) ∧ W.cell? ⟨w.heap.size, 2, none⟩ = some (.int .i64 k.w) ∧ W.cell? ⟨w.heap.size, 3, none⟩ = some (.int .i64 k.g) ∧ W.cell? ⟨w.heap.size, 4, none⟩ = some (.int .i64 k.p) ∧ W.cell? ⟨w.heap.size + 1, 0, none⟩ = some (.int .i64 d.a) ∧ W.cell? ⟨w.heap.size + 1, 1, none⟩ = some (.int .i64 d.s) ∧ W.cell? ⟨w.heap.size + 1, 2, none⟩ = some (.int .i64 d.w)) := Lib.hid (fun W hW => by
      have hW0 := t5.trans (hW.mono t5.size)
      obtain ⟨z0_0, z0_1, z0_2, z0_3, z0_4⟩ := HX0.out W (by rw [← hs0]; exact hW0)
      obtain ⟨z2_0, z2_1, z2_2⟩ := HX2.out W (by rw [← hs0]; exact hW0)
      exact ⟨hW, z0_0, z0_1, z0_2, z0_3, z0_4, z2_0, z2_1, z2_2⟩)
    have HRD1 := Lib.hid (fun W (hW : Below W5.heap.size W5 W) => HR1.out.below (t5.trans (hW.mono t5.size)) rfl)
    go_region_held3 (fun w' => Below W5.heap.size W5 w' ∧ w'.cell? ⟨w.heap.size, 0, none⟩ = some (.int .i64 k.i) ∧ w'.cell? ⟨w.heap.size, 1, none⟩ = some (.int .i64 k.s) ∧ w'.cell? ⟨w.heap.size, 2, none⟩ = some (.int .i64 k.w) ∧ w'.cell? ⟨w.heap.size, 3, none⟩ = some (.int .i64 k.g) ∧ w'.cell? ⟨w.heap.size, 4, none⟩ = some (.int .i64 k.p) ∧ w'.cell? ⟨w.heap.size + 1, 0, none⟩ = some (.int .i64 d.a) ∧ w'.cell? ⟨w.heap.size + 1, 1, none⟩ = some (.int .i64 d.s) ∧ w'.cell? ⟨w.heap.size + 1, 2, none⟩ = some (.int .i64 d.w)) (exact HKS.out _ (by (first | exact Below.refl _ _ | exact (Below.refl _ _).drew | (go_split_ands; refine Below.trans ?_ (Below.mono b8 (Below.size (B := W5.heap.size) ?_)) <;> assumption) | (go_split_ands; refine Below.trans ?_ (Below.mono b7 (Below.size (B := W5.heap.size) ?_)) <;> assumption) | (go_split_ands; refine Below.trans ?_ (Below.mono b6 (Below.size (B := W5.heap.size) ?_)) <;> assumption) | (go_split_ands; refine Below.drew ?_; assumption) | fail)))
      (first
        | (go_at_call 43; refine (toRopeKind_any k _).mono ?_; rintro e W6 ⟨rfl, b6⟩)
        | (go_at_call 51; refine (toDamage_any d _).mono ?_; rintro e W7 ⟨rfl, b7⟩)
        | (go_at_call 31; refine (implAddDamage_c k vx1 l d _ _ HW2.out (owns_below ox1 (by go_split_ands; assumption)) h1).mono ?_; rintro e W8 ⟨vg0, rfl, ng0, b8⟩))
    have T8 : Below W5.heap.size W5 W8 := by go_split_ands; assumption
    have ow0 := owns_below ow0 T8
    have ox1 := owns_below ox1 T8
    have t8 := t5.trans (T8.mono t5.size)
    have z8 := T8.size
    have zz6 : W5.heap.size ≤ W6.heap.size := b6.size
    have zz7 : W6.heap.size ≤ W7.heap.size := b7.size
    have zz8 : W7.heap.size ≤ W8.heap.size := b8.size
    have og0 := ng0
    have lg0 := betw_of og0
    go_wp2_with fail
    refine (eqDamageS_same vg0 vw0 (adR k l d) _ (Rs.of_own og0) (Rs.of_own ow0)).mono ?_
    rintro e W9 ⟨rfl, b9⟩
    have ow0 := owns_below ow0 b9
    have ox1 := owns_below ox1 b9
    have og0 := owns_below og0 b9
    have t9 := t8.trans (b9.mono t8.size)
    have z9 := b9.size
    go_wp2_with fail
    refine (toDamageS_any v1 l _ (HR1.out.below t9 rfl) h1).mono ?_
    rintro e W10 ⟨vy1, rfl, ny1, b10⟩
    have ow0 := owns_below ow0 b10
    have ox1 := owns_below ox1 b10
    have og0 := owns_below og0 b10
    have t10 := t9.trans (b10.mono t9.size)
    have z10 := b10.size
    have oy1 := ny1
    have ly1 := betw_of oy1
    go_wp2_with fail
    refine (eqDamageS_same vx1 vy1 l _ (Rs.of_own ox1) (Rs.of_own oy1)).mono ?_
    rintro e W11 ⟨rfl, b11⟩
    have ow0 := owns_below ow0 b11
    have ox1 := owns_below ox1 b11
    have og0 := owns_below og0 b11
    have oy1 := owns_below oy1 b11
    have t11 := t10.trans (b11.mono t10.size)
    have z11 := b11.size
    go_wp2_with fail
    refine (markDamageS_any _ 1 l.length vx1 _ _ (by omega) (by omega) (by have := b11.size; omega) ox1).mono ?_
    rintro e W12 ⟨rfl, ox1, b12⟩
    have ow0 := ow0.kept b12 (apart lw0 lx1 (by omega))
    have og0 := og0.kept b12 (apart lg0 lx1 (by omega))
    have t12 := t11.trans (below_mark b12 lx1 (by first | exact Nat.le_refl _ | (have := t11.size; omega) | omega) t11.size)
    have z12 := b12.size
    go_wp2_with fail
    refine (eqDamageS_same vg0 vw0 (adR k l d) _ (Rs.of_own og0) (Rs.of_own ow0)).mono ?_
    rintro e W13 ⟨rfl, b13⟩
    have ow0 := owns_below ow0 b13
    have og0 := owns_below og0 b13
    have t13 := t12.trans (b13.mono t12.size)
    have z13 := b13.size
    have hb0 : (adR k l d).length ≤ 8388608 := by (have := adR_len k l d; omega)
    go_wp2_with fail
    refine (markDamageS_any _ 1 (adR k l d).length vg0 _ _ (by omega) (by omega) (by have := b13.size; omega) og0).mono ?_
    rintro e W14 ⟨rfl, og0, b14⟩
    have ow0 := ow0.kept b14 (apart lw0 lg0 (by omega))
    have t14 := t13.trans (below_mark b14 lg0 (by first | exact Nat.le_refl _ | (have := t13.size; omega) | omega) t13.size)
    have z14 := b14.size
    go_wp2_with fail
    refine (heldDamageS_c 1 (adR k l d).length vg0 _ (by omega) (by omega) (Rs.of_own og0)).mono ?_
    rintro e W15 ⟨rfl, b15⟩
    have ow0 := owns_below ow0 b15
    have og0 := owns_below og0 b15
    have t15 := t14.trans (b15.mono t14.size)
    have z15 := b15.size
    go_wp2_with fail
    have HKS : Hid (∀ W, Below W15.heap.size W15 W → Below W15.heap.size W15 W ∧ W.cell? ⟨w.heap.size, 0, none⟩ = some (.int .i64 k.i) ∧ W.cell? ⟨w.heap.size, 1, none⟩ = some (.int .i64 k.s) ∧ W.cell? ⟨w.heap.size, 2, none⟩ = some (.int .i64 k.w) ∧ W.cell? ⟨w.heap.size, 3, none⟩ = some (.int .i64 k.g) ∧ W.cell? ⟨w.heap.size, 4, none⟩ = some (.int .i64 k.p) ∧ W.cell? ⟨w.heap.size + 1, 0, none⟩ = some (.int .i64 d.a) ∧ W.cell? ⟨w.heap.size + 1, 1, none⟩ = some (.int .i64 d.s) ∧ W.cell? ⟨w.heap.size + 1, 2, none⟩ = some (.int .i64 d.w)) := Lib.hid (fun W hW => by
      have hW0 := t15.trans (hW.mono t15.size)
      obtain ⟨z0_0, z0_1, z0_2, z0_3, z0_4⟩ := HX0.out W (by rw [← hs0]; exact hW0)
      obtain ⟨z2_0, z2_1, z2_2⟩ := HX2.out W (by rw [← hs0]; exact hW0)
      exact ⟨hW, z0_0, z0_1, z0_2, z0_3, z0_4, z2_0, z2_1, z2_2⟩)
    have HRD1 := Lib.hid (fun W (hW : Below W15.heap.size W15 W) => HR1.out.below (t15.trans (hW.mono t15.size)) rfl)
    go_region_held3 (fun w' => Below W15.heap.size W15 w' ∧ w'.cell? ⟨w.heap.size, 0, none⟩ = some (.int .i64 k.i) ∧ w'.cell? ⟨w.heap.size, 1, none⟩ = some (.int .i64 k.s) ∧ w'.cell? ⟨w.heap.size, 2, none⟩ = some (.int .i64 k.w) ∧ w'.cell? ⟨w.heap.size, 3, none⟩ = some (.int .i64 k.g) ∧ w'.cell? ⟨w.heap.size, 4, none⟩ = some (.int .i64 k.p) ∧ w'.cell? ⟨w.heap.size + 1, 0, none⟩ = some (.int .i64 d.a) ∧ w'.cell? ⟨w.heap.size + 1, 1, none⟩ = some (.int .i64 d.s) ∧ w'.cell? ⟨w.heap.size + 1, 2, none⟩ = some (.int .i64 d.w)) (exact HKS.out _ (by (first | exact Below.refl _ _ | exact (Below.refl _ _).drew | (go_split_ands; refine Below.trans ?_ (Below.mono b19 (Below.size (B := W15.heap.size) ?_)) <;> assumption) | (go_split_ands; refine Below.trans ?_ (Below.mono b18 (Below.size (B := W15.heap.size) ?_)) <;> assumption) | (go_split_ands; refine Below.trans ?_ (Below.mono b17 (Below.size (B := W15.heap.size) ?_)) <;> assumption) | (go_split_ands; refine Below.trans ?_ (Below.mono b16 (Below.size (B := W15.heap.size) ?_)) <;> assumption) | (go_split_ands; refine Below.drew ?_; assumption) | fail)))
      (first
        | (go_at_call 43; refine (toRopeKind_any k _).mono ?_; rintro e W16 ⟨rfl, b16⟩)
        | (go_at_call 49; refine (toDamageS_any v1 l _ (HRD1.out _ (by go_split_ands; assumption)) h1).mono ?_; rintro e W17 ⟨vu1, rfl, nu1, b17⟩)
        | (go_at_call 51; refine (toDamage_any d _).mono ?_; rintro e W18 ⟨rfl, b18⟩)
        | (go_at_call 31; refine (implAddDamage_c k vu1 l d _ _ HW2.out (by first | exact owns_below nu1 b18 | (go_split_ands; exact owns_below nu1 (by assumption))) h1).mono ?_; rintro e W19 ⟨vh0, rfl, nh0, b19⟩))
    have T19 : Below W15.heap.size W15 W19 := by go_split_ands; assumption
    have ow0 := owns_below ow0 T19
    have og0 := owns_below og0 T19
    have t19 := t15.trans (T19.mono t15.size)
    have z19 := T19.size
    have zz16 : W15.heap.size ≤ W16.heap.size := b16.size
    have zz17 : W16.heap.size ≤ W17.heap.size := b17.size
    have zz18 : W17.heap.size ≤ W18.heap.size := b18.size
    have zz19 : W18.heap.size ≤ W19.heap.size := b19.size
    have oh0 := nh0
    have lh0 := betw_of oh0
    go_wp2_with fail
    refine (eqDamageS_same vh0 vw0 (adR k l d) _ (Rs.of_own oh0) (Rs.of_own ow0)).mono ?_
    rintro e W20 ⟨rfl, b20⟩
    have ow0 := owns_below ow0 b20
    have og0 := owns_below og0 b20
    have oh0 := owns_below oh0 b20
    have t20 := t19.trans (b20.mono t19.size)
    have z20 := b20.size
    go_wp2_with fail
    refine (heldDamageS_c 1 (adR k l d).length vg0 _ (by omega) (by omega) (Rs.of_own og0)).mono ?_
    rintro e W21 ⟨rfl, b21⟩
    have ow0 := owns_below ow0 b21
    have og0 := owns_below og0 b21
    have oh0 := owns_below oh0 b21
    have t21 := t20.trans (b21.mono t20.size)
    go_wp2_with fail
    go_ret
    exact ⟨rfl, HT0.out.trans (t21.mono (by omega))⟩
  · skip
    go_enter Try.func14, Try.ntmps14
    go_wp2_with fail
    have HX0 : Hid (∀ W, Below (w.heap.size + 2) ((w.alloc (.cells #[.int .i64 k.i, .int .i64 k.s, .int .i64 k.w, .int .i64 k.g, .int .i64 k.p] 58)).alloc (.cells #[.int .i64 d.a, .int .i64 d.s, .int .i64 d.w] 74)) W → W.cell? ⟨w.heap.size, 0, none⟩ = some (.int .i64 k.i) ∧ W.cell? ⟨w.heap.size, 1, none⟩ = some (.int .i64 k.s) ∧ W.cell? ⟨w.heap.size, 2, none⟩ = some (.int .i64 k.w) ∧ W.cell? ⟨w.heap.size, 3, none⟩ = some (.int .i64 k.g) ∧ W.cell? ⟨w.heap.size, 4, none⟩ = some (.int .i64 k.p)) := Lib.hid (fun W h => box_RK w k _ _ (by simp) W (((Below.refl _ _).alloc (by simp) _).trans (h.mono (by simp))))
    have HX2 : Hid (∀ W, Below (w.heap.size + 2) ((w.alloc (.cells #[.int .i64 k.i, .int .i64 k.s, .int .i64 k.w, .int .i64 k.g, .int .i64 k.p] 58)).alloc (.cells #[.int .i64 d.a, .int .i64 d.s, .int .i64 d.w] 74)) W → W.cell? ⟨w.heap.size + 1, 0, none⟩ = some (.int .i64 d.a) ∧ W.cell? ⟨w.heap.size + 1, 1, none⟩ = some (.int .i64 d.s) ∧ W.cell? ⟨w.heap.size + 1, 2, none⟩ = some (.int .i64 d.w)) := Lib.hid (fun W h => box_Dmg (w.alloc (.cells #[.int .i64 k.i, .int .i64 k.s, .int .i64 k.w, .int .i64 k.g, .int .i64 k.p] 58)) d _ _ (by simp) W h)
    generalize hW0 : (w.alloc (.cells #[.int .i64 k.i, .int .i64 k.s, .int .i64 k.w, .int .i64 k.g, .int .i64 k.p] 58)).alloc (.cells #[.int .i64 d.a, .int .i64 d.s, .int .i64 d.w] 74) = W0 at *
    have hs0 : W0.heap.size = w.heap.size + 2 := by rw [← hW0]; simp
    have HT0 : Hid (Below w.heap.size w W0) := Lib.hid (by rw [← hW0]; exact (((Below.refl _ _).alloc (by simp) _).alloc (by simp) _))
    clear hW0
    have HR1 := Lib.hid (HR1.out.below HT0.out rfl)
    refine (szDamageS_big v1 l.length _ _ _ HR1.out hn1 (by omega) (by omega) (by omega)).mono ?_
    rintro e w' ⟨rfl, hw⟩
    have hw := hw.symm
    subst hw
    go_wp2_with fail
    go_ret
    exact ⟨rfl, HT0.out⟩
end Go.Proofs.Ytipehgnnfmfifaa
