/- The law FnExactAddCabin's walk. Condition: sizes. -/
import Derived.Test.YtiioabmfonhlbaaCirS
import Derived.Test.YtiioabmfonhlbaaCirAI
import Derived.Test.YtiioabmfonhlbaaCirAS
namespace Go.Proofs.Ytiioabmfonhlbaa
open Go.RowKit
set_option linter.unusedVariables false
set_option maxRecDepth 100000 in
set_option maxHeartbeats 4000000 in
theorem FnExactAddCabin_walk (L S : Int) (v : Value) (l : List Int) (g : Int) (w : World) (hr : Rd w v (intVs l)) (hn : l.length ≤ maxLen) (hwL : (Lit.int .i64 L).wf = true) (hwS : (Lit.int .i64 S).wf = true) (hwg : (Lit.int .i64 g).wf = true) :
    Calls Try.prog 12 #[.agg #[.int .i64 L, .int .i64 S, v], .int .i64 g] w fun e w' => e = .returned (.bool true) ∧ Below w.heap.size w w' := by
  have HWg := Lib.hid hwg
  clear hwg
  have HR := Lib.hid hr
  clear hr
  have hm := hn
  unfold maxLen at hm
  by_cases hb : l.length ≤ 1048576
  · have hl := hb
    have KA := Lib.hid (blk_new3 w (.int .i64 L) (.int .i64 S) v 50)
    have t0 := (Below.refl w.heap.size w).alloc (Nat.le_refl _) (.cells #[.int .i64 L, .int .i64 S, v] 50)
    go_enter Try.func12, Try.ntmps12
    go_wp2_with fail
    generalize hW0 : w.alloc (.cells #[.int .i64 L, .int .i64 S, v] 50) = Y0 at *
    have s0 : Y0.heap.size = w.heap.size + 1 := by rw [← hW0]; simp
    clear hW0
    refine (szCircle_ok L S v l _ _ (HR.out.below t0 rfl) (by omega) (by omega)).mono ?_
    rintro e W1 ⟨rfl, b1⟩
    have KA := Lib.hid (blk_keep KA.out b1 (blk_lt KA.out))
    have t2 := t0.trans (b1.mono t0.size)
    have z2 := b1.size
    have hneg : ¬ ((1048576 : Int) - (l.length : Int) < 0) := by omega
    obtain ⟨y0_0, y0_1, y0_2⟩ := blk_cell3 KA.out
    go_wp2_with fail
    clear y0_0 y0_1 y0_2
    refine (toCircle_any L S v l _ (HR.out.below t2 rfl) hl).mono ?_
    rintro e W3 ⟨vs, rfl, ns, b3⟩
    have KA := Lib.hid (blk_keep KA.out b3 (blk_lt KA.out))
    have t4 := t2.trans (b3.mono t2.size)
    have z4 := b3.size
    have os := ns
    obtain ⟨ads, cps, rfl⟩ := (Rs.of_own os).shape
    have ls := betw_of os
    go_wp2_with fail
    refine (specAddCabin_c L S (.slice ads l.length cps) l g _ (Rd.of_own os) hl HWg.out).mono ?_
    rintro e W5 ⟨vw0, rfl, nw0, b5⟩
    have os := owns_below os b5
    have KA := Lib.hid (blk_keep KA.out b5 (blk_lt KA.out))
    have t6 := t4.trans (b5.mono t4.size)
    have z6 := b5.size
    have ow0 := nw0
    obtain ⟨adw0, cpw0, rfl⟩ := (Rs.of_own ow0).shape
    have lw0 := betw_of ow0
    have KA := Lib.hid (blk_stay (o' := .cells #[.int .i64 (acL L S l g), .int .i64 (acS L S l g), (.slice adw0 ((acR L S l g).length) cpw0)] 26) KA.out)
    have Kw0 := Lib.hid (blk_new3 W5 (.int .i64 (acL L S l g)) (.int .i64 (acS L S l g)) ((.slice adw0 ((acR L S l g).length) cpw0)) 26)
    have ow0 := ow0.alloc (.cells #[.int .i64 (acL L S l g), .int .i64 (acS L S l g), (.slice adw0 ((acR L S l g).length) cpw0)] 26)
    have t7 := t6.alloc t6.size (.cells #[.int .i64 (acL L S l g), .int .i64 (acS L S l g), (.slice adw0 ((acR L S l g).length) cpw0)] 26)
    obtain ⟨y0_0, y0_1, y0_2⟩ := blk_cell3 KA.out
    go_wp2_with fail
    clear y0_0 y0_1 y0_2
    generalize hW8 : W5.alloc (.cells #[.int .i64 (acL L S l g), .int .i64 (acS L S l g), (.slice adw0 ((acR L S l g).length) cpw0)] 26) = Y8 at *
    have s8 : Y8.heap.size = W5.heap.size + 1 := by rw [← hW8]; simp
    clear hW8
    refine (toCircle_any L S v l _ (HR.out.below t7 rfl) hl).mono ?_
    rintro e W9 ⟨vx, rfl, nx, b9⟩
    have ow0 := owns_below ow0 b9
    have KA := Lib.hid (blk_keep KA.out b9 (blk_lt KA.out))
    have Kw0 := Lib.hid (blk_keep Kw0.out b9 (blk_lt Kw0.out))
    have t10 := t7.trans (b9.mono t7.size)
    have z10 := b9.size
    have ox := nx
    obtain ⟨adx, cpx, rfl⟩ := (Rs.of_own ox).shape
    have lx := betw_of ox
    have KA := Lib.hid (blk_stay (o' := .cells #[.int .i64 L, .int .i64 S, (.slice adx l.length cpx)] 26) KA.out)
    have Kw0 := Lib.hid (blk_stay (o' := .cells #[.int .i64 L, .int .i64 S, (.slice adx l.length cpx)] 26) Kw0.out)
    have KX := Lib.hid (blk_new3 W9 (.int .i64 L) (.int .i64 S) ((.slice adx l.length cpx)) 26)
    have ow0 := ow0.alloc (.cells #[.int .i64 L, .int .i64 S, (.slice adx l.length cpx)] 26)
    have ox := ox.alloc (.cells #[.int .i64 L, .int .i64 S, (.slice adx l.length cpx)] 26)
    have t11 := t10.alloc t10.size (.cells #[.int .i64 L, .int .i64 S, (.slice adx l.length cpx)] 26)
    go_wp2_with fail
    generalize hW12 : W9.alloc (.cells #[.int .i64 L, .int .i64 S, (.slice adx l.length cpx)] 26) = Y12 at *
    have s12 : Y12.heap.size = W9.heap.size + 1 := by rw [← hW12]; simp
    clear hW12
    refine (implAddCabin_c L S (.slice adx l.length cpx) l g _ (Rd.of_own ox) hl HWg.out).mono ?_
    rintro e W13 ⟨vg0, rfl, ng0, b13⟩
    have ow0 := owns_below ow0 b13
    have ox := owns_below ox b13
    have KA := Lib.hid (blk_keep KA.out b13 (blk_lt KA.out))
    have Kw0 := Lib.hid (blk_keep Kw0.out b13 (blk_lt Kw0.out))
    have KX := Lib.hid (blk_keep KX.out b13 (blk_lt KX.out))
    have t14 := t11.trans (b13.mono t11.size)
    have z14 := b13.size
    have og0 := ng0
    obtain ⟨adg0, cpg0, rfl⟩ := (Rs.of_own og0).shape
    have lg0 := betw_of og0
    have KA := Lib.hid (blk_stay (o' := .cells #[.int .i64 (acL L S l g), .int .i64 (acS L S l g), (.slice adg0 ((acR L S l g).length) cpg0)] 26) KA.out)
    have Kw0 := Lib.hid (blk_stay (o' := .cells #[.int .i64 (acL L S l g), .int .i64 (acS L S l g), (.slice adg0 ((acR L S l g).length) cpg0)] 26) Kw0.out)
    have KX := Lib.hid (blk_stay (o' := .cells #[.int .i64 (acL L S l g), .int .i64 (acS L S l g), (.slice adg0 ((acR L S l g).length) cpg0)] 26) KX.out)
    have Kg0 := Lib.hid (blk_new3 W13 (.int .i64 (acL L S l g)) (.int .i64 (acS L S l g)) ((.slice adg0 ((acR L S l g).length) cpg0)) 26)
    have ow0 := ow0.alloc (.cells #[.int .i64 (acL L S l g), .int .i64 (acS L S l g), (.slice adg0 ((acR L S l g).length) cpg0)] 26)
    have ox := ox.alloc (.cells #[.int .i64 (acL L S l g), .int .i64 (acS L S l g), (.slice adg0 ((acR L S l g).length) cpg0)] 26)
    have og0 := og0.alloc (.cells #[.int .i64 (acL L S l g), .int .i64 (acS L S l g), (.slice adg0 ((acR L S l g).length) cpg0)] 26)
    have t15 := t14.alloc t14.size (.cells #[.int .i64 (acL L S l g), .int .i64 (acS L S l g), (.slice adg0 ((acR L S l g).length) cpg0)] 26)
    obtain ⟨y0_0, y0_1, y0_2⟩ := blk_cell3 Kw0.out
    go_wp2_with fail
    clear y0_0 y0_1 y0_2
    generalize hW16 : W13.alloc (.cells #[.int .i64 (acL L S l g), .int .i64 (acS L S l g), (.slice adg0 ((acR L S l g).length) cpg0)] 26) = Y16 at *
    have s16 : Y16.heap.size = W13.heap.size + 1 := by rw [← hW16]; simp
    clear hW16
    refine (eqCircle_c (acL L S l g) (acS L S l g) (.slice adg0 ((acR L S l g).length) cpg0) (.slice adw0 ((acR L S l g).length) cpw0) (acR L S l g) _ (Rd.of_own og0) (Rd.of_own ow0)).mono ?_
    rintro e W17 ⟨rfl, b17⟩
    have ow0 := owns_below ow0 b17
    have ox := owns_below ox b17
    have og0 := owns_below og0 b17
    have KA := Lib.hid (blk_keep KA.out b17 (blk_lt KA.out))
    have Kw0 := Lib.hid (blk_keep Kw0.out b17 (blk_lt Kw0.out))
    have KX := Lib.hid (blk_keep KX.out b17 (blk_lt KX.out))
    have Kg0 := Lib.hid (blk_keep Kg0.out b17 (blk_lt Kg0.out))
    have t18 := t15.trans (b17.mono t15.size)
    have z18 := b17.size
    go_wp2_with fail
    have HKS : Hid (∀ W, Below W17.heap.size W17 W → W.cell? ⟨W9.heap.size, 0, none⟩ = some (.int .i64 L) ∧ W.cell? ⟨W9.heap.size, 1, none⟩ = some (.int .i64 S) ∧ W.cell? ⟨W9.heap.size, 2, none⟩ = some ((.slice adx l.length cpx)) ∧ W.cell? ⟨w.heap.size, 0, none⟩ = some (.int .i64 L) ∧ W.cell? ⟨w.heap.size, 1, none⟩ = some (.int .i64 S) ∧ W.cell? ⟨w.heap.size, 2, none⟩ = some (v)) := Lib.hid (fun W hW => by
      obtain ⟨a0, a1, a2⟩ := blk_cell3 (blk_keep KX.out hW (blk_lt KX.out))
      obtain ⟨c0, c1, c2⟩ := blk_cell3 (blk_keep KA.out hW (blk_lt KA.out))
      exact ⟨a0, a1, a2, c0, c1, c2⟩)
    have HRD := Lib.hid (fun W (hW : Below W17.heap.size W17 W) => HR.out.below (t18.trans (hW.mono t18.size)) rfl)
    have HOX := Lib.hid (fun W (hW : Below W17.heap.size W17 W) => Rd.of_own (owns_below ox hW))
    have HK2 : Hid (∀ W, Below W17.heap.size W17 W → Below W17.heap.size W17 W ∧ W.cell? ⟨W9.heap.size, 0, none⟩ = some (.int .i64 L) ∧ W.cell? ⟨W9.heap.size, 1, none⟩ = some (.int .i64 S) ∧ W.cell? ⟨W9.heap.size, 2, none⟩ = some ((.slice adx l.length cpx)) ∧ W.cell? ⟨w.heap.size, 0, none⟩ = some (.int .i64 L) ∧ W.cell? ⟨w.heap.size, 1, none⟩ = some (.int .i64 S) ∧ W.cell? ⟨w.heap.size, 2, none⟩ = some (v)) := Lib.hid (fun W hW => ⟨hW, HKS.out W hW⟩)
    go_region_held3 (fun w' => Below W17.heap.size W17 w' ∧ w'.cell? ⟨W9.heap.size, 0, none⟩ = some (.int .i64 L) ∧ w'.cell? ⟨W9.heap.size, 1, none⟩ = some (.int .i64 S) ∧ w'.cell? ⟨W9.heap.size, 2, none⟩ = some ((.slice adx l.length cpx)) ∧ w'.cell? ⟨w.heap.size, 0, none⟩ = some (.int .i64 L) ∧ w'.cell? ⟨w.heap.size, 1, none⟩ = some (.int .i64 S) ∧ w'.cell? ⟨w.heap.size, 2, none⟩ = some (v)) (exact HK2.out _ (by (first | exact Below.refl _ _ | exact below_drewN (Below.refl _ _) _ | exact (Below.refl _ _).drew | (go_split_ands; refine Below.trans ?_ (Below.mono b20 (Below.size (B := W17.heap.size) ?_)) <;> assumption) | (go_split_ands; refine Below.trans ?_ (Below.mono b19 (Below.size (B := W17.heap.size) ?_)) <;> assumption) | (go_split_ands; exact b19) | (go_split_ands; refine below_drewN ?_ _; assumption) | fail)))
      (first
        | (go_at_call 48; refine (toCircle_any L S v l _ (HRD.out _ (by first | exact Below.refl _ _ | exact below_drewN (Below.refl _ _) _ | exact (Below.refl _ _).drew | (go_split_ands; assumption) | (go_split_ands; exact (Below.trans b19 (Below.mono (Below.refl _ _) (Below.size b19)))) | fail)) hl).mono ?_; rintro e W19 ⟨vy, rfl, ny, b19⟩)
        | (go_at_call 49; refine (eqCircle_c L S (.slice adx l.length cpx) vy l _ (HOX.out _ (by go_split_ands; assumption)) (Rd.of_own ny)).mono ?_; rintro e W20 ⟨rfl, b20⟩)
        | fail)
    have T20 : Below W17.heap.size W17 W20 := by go_split_ands; assumption
    have ow0 := owns_below ow0 T20
    have ox := owns_below ox T20
    have og0 := owns_below og0 T20
    have KA := Lib.hid (blk_keep KA.out T20 (blk_lt KA.out))
    have Kw0 := Lib.hid (blk_keep Kw0.out T20 (blk_lt Kw0.out))
    have KX := Lib.hid (blk_keep KX.out T20 (blk_lt KX.out))
    have Kg0 := Lib.hid (blk_keep Kg0.out T20 (blk_lt Kg0.out))
    have t21 := t18.trans (T20.mono t18.size)
    have z21 := T20.size
    have hb0 : (acR L S l g).length ≤ 1048576 := by first | omega | exact Nat.le_trans (acR_len12 L S l _) (by omega) | exact Nat.le_trans (by first | exact plR_len L S l _ | exact gpR_len L S l | exact rcR_len L S l _ | exact evR_len _ _ _ | exact acR_len L S l _ | omega) (by omega)
    obtain ⟨y0_0, y0_1, y0_2⟩ := blk_cell3 KX.out
    go_wp2_with fail
    clear y0_0 y0_1 y0_2
    refine (markCircle_any _ 1 (l.length) _ _ (.slice adx l.length cpx) _ _ (by omega) (by omega) (by have := t21.size; omega) ox).mono ?_
    rintro e W22 ⟨rfl, px, g22⟩
    have ow0 := ow0.kept g22 (apart lw0 lx (by omega))
    have og0 := og0.kept g22 (apart lg0 lx (by omega))
    have KA := Lib.hid ((g22.block _ (blk_lt KA.out) (fun e => by have := lx _ e.symm; omega)).trans KA.out)
    have Kw0 := Lib.hid ((g22.block _ (blk_lt Kw0.out) (fun e => by have := lx _ e.symm; omega)).trans Kw0.out)
    have KX := Lib.hid ((g22.block _ (blk_lt KX.out) (fun e => by have := lx _ e.symm; omega)).trans KX.out)
    have Kg0 := Lib.hid ((g22.block _ (blk_lt Kg0.out) (fun e => by have := lx _ e.symm; omega)).trans Kg0.out)
    have t23 := t21.trans (below_mark g22 lx (by first | exact Nat.le_refl _ | (have := t21.size; omega) | omega) t21.size)
    have z23 := g22.size
    have ox := px
    have hk1 : ¬ (((1 + l.length : Nat) : Int) < 0) := by omega
    obtain ⟨y0_0, y0_1, y0_2⟩ := blk_cell3 Kw0.out
    obtain ⟨y1_0, y1_1, y1_2⟩ := blk_cell3 Kg0.out
    go_wp2_with fail
    clear y0_0 y0_1 y0_2
    clear y1_0 y1_1 y1_2
    refine (eqCircle_c (acL L S l g) (acS L S l g) (.slice adg0 ((acR L S l g).length) cpg0) (.slice adw0 ((acR L S l g).length) cpw0) (acR L S l g) _ (Rd.of_own og0) (Rd.of_own ow0)).mono ?_
    rintro e W24 ⟨rfl, b24⟩
    have ow0 := owns_below ow0 b24
    have ox := owns_below ox b24
    have og0 := owns_below og0 b24
    have KA := Lib.hid (blk_keep KA.out b24 (blk_lt KA.out))
    have Kw0 := Lib.hid (blk_keep Kw0.out b24 (blk_lt Kw0.out))
    have KX := Lib.hid (blk_keep KX.out b24 (blk_lt KX.out))
    have Kg0 := Lib.hid (blk_keep Kg0.out b24 (blk_lt Kg0.out))
    have t25 := t23.trans (b24.mono t23.size)
    have z25 := b24.size
    obtain ⟨y0_0, y0_1, y0_2⟩ := blk_cell3 Kg0.out
    go_wp2_with fail
    clear y0_0 y0_1 y0_2
    refine (markCircle_any _ 1 ((acR L S l g).length) _ _ (.slice adg0 ((acR L S l g).length) cpg0) _ _ (by omega) (by omega) (by have := t25.size; omega) og0).mono ?_
    rintro e W26 ⟨rfl, pg0, g26⟩
    have ow0 := ow0.kept g26 (apart lw0 lg0 (by omega))
    have ox := ox.kept g26 (apart lx lg0 (by omega))
    have KA := Lib.hid ((g26.block _ (blk_lt KA.out) (fun e => by have := lg0 _ e.symm; omega)).trans KA.out)
    have Kw0 := Lib.hid ((g26.block _ (blk_lt Kw0.out) (fun e => by have := lg0 _ e.symm; omega)).trans Kw0.out)
    have KX := Lib.hid ((g26.block _ (blk_lt KX.out) (fun e => by have := lg0 _ e.symm; omega)).trans KX.out)
    have Kg0 := Lib.hid ((g26.block _ (blk_lt Kg0.out) (fun e => by have := lg0 _ e.symm; omega)).trans Kg0.out)
    have t27 := t25.trans (below_mark g26 lg0 (by first | exact Nat.le_refl _ | (have := t25.size; omega) | omega) t25.size)
    have z27 := g26.size
    have og0 := pg0
    obtain ⟨y0_0, y0_1, y0_2⟩ := blk_cell3 Kg0.out
    go_wp2_with fail
    clear y0_0 y0_1 y0_2
    refine (heldCircle_c 1 (acR L S l g).length (acL L S l g) (acS L S l g) (.slice adg0 ((acR L S l g).length) cpg0) _ (by omega) (by omega) (Rd.of_own og0)).mono ?_
    rintro e W28 ⟨rfl, b28⟩
    have ow0 := owns_below ow0 b28
    have ox := owns_below ox b28
    have og0 := owns_below og0 b28
    have KA := Lib.hid (blk_keep KA.out b28 (blk_lt KA.out))
    have Kw0 := Lib.hid (blk_keep Kw0.out b28 (blk_lt Kw0.out))
    have KX := Lib.hid (blk_keep KX.out b28 (blk_lt KX.out))
    have Kg0 := Lib.hid (blk_keep Kg0.out b28 (blk_lt Kg0.out))
    have t29 := t27.trans (b28.mono t27.size)
    have z29 := b28.size
    obtain ⟨y0_0, y0_1, y0_2⟩ := blk_cell3 KA.out
    go_wp2_with fail
    clear y0_0 y0_1 y0_2
    refine (toCircle_any L S v l _ (HR.out.below t29 rfl) hl).mono ?_
    rintro e W30 ⟨vu, rfl, nu, b30⟩
    have ow0 := owns_below ow0 b30
    have ox := owns_below ox b30
    have og0 := owns_below og0 b30
    have KA := Lib.hid (blk_keep KA.out b30 (blk_lt KA.out))
    have Kw0 := Lib.hid (blk_keep Kw0.out b30 (blk_lt Kw0.out))
    have KX := Lib.hid (blk_keep KX.out b30 (blk_lt KX.out))
    have Kg0 := Lib.hid (blk_keep Kg0.out b30 (blk_lt Kg0.out))
    have t31 := t29.trans (b30.mono t29.size)
    have z31 := b30.size
    have ou := nu
    obtain ⟨adu, cpu, rfl⟩ := (Rs.of_own ou).shape
    have lu := betw_of ou
    go_wp2_with fail
    refine (implAddCabin_c L S (.slice adu l.length cpu) l g _ (Rd.of_own ou) hl HWg.out).mono ?_
    rintro e W32 ⟨vh0, rfl, nh0, b32⟩
    have ow0 := owns_below ow0 b32
    have ox := owns_below ox b32
    have og0 := owns_below og0 b32
    have ou := owns_below ou b32
    have KA := Lib.hid (blk_keep KA.out b32 (blk_lt KA.out))
    have Kw0 := Lib.hid (blk_keep Kw0.out b32 (blk_lt Kw0.out))
    have KX := Lib.hid (blk_keep KX.out b32 (blk_lt KX.out))
    have Kg0 := Lib.hid (blk_keep Kg0.out b32 (blk_lt Kg0.out))
    have t33 := t31.trans (b32.mono t31.size)
    have z33 := b32.size
    have oh0 := nh0
    obtain ⟨adh0, cph0, rfl⟩ := (Rs.of_own oh0).shape
    have lh0 := betw_of oh0
    have KA := Lib.hid (blk_stay (o' := .cells #[.int .i64 (acL L S l g), .int .i64 (acS L S l g), (.slice adh0 ((acR L S l g).length) cph0)] 26) KA.out)
    have Kw0 := Lib.hid (blk_stay (o' := .cells #[.int .i64 (acL L S l g), .int .i64 (acS L S l g), (.slice adh0 ((acR L S l g).length) cph0)] 26) Kw0.out)
    have KX := Lib.hid (blk_stay (o' := .cells #[.int .i64 (acL L S l g), .int .i64 (acS L S l g), (.slice adh0 ((acR L S l g).length) cph0)] 26) KX.out)
    have Kg0 := Lib.hid (blk_stay (o' := .cells #[.int .i64 (acL L S l g), .int .i64 (acS L S l g), (.slice adh0 ((acR L S l g).length) cph0)] 26) Kg0.out)
    have Kh0 := Lib.hid (blk_new3 W32 (.int .i64 (acL L S l g)) (.int .i64 (acS L S l g)) ((.slice adh0 ((acR L S l g).length) cph0)) 26)
    have ow0 := ow0.alloc (.cells #[.int .i64 (acL L S l g), .int .i64 (acS L S l g), (.slice adh0 ((acR L S l g).length) cph0)] 26)
    have ox := ox.alloc (.cells #[.int .i64 (acL L S l g), .int .i64 (acS L S l g), (.slice adh0 ((acR L S l g).length) cph0)] 26)
    have og0 := og0.alloc (.cells #[.int .i64 (acL L S l g), .int .i64 (acS L S l g), (.slice adh0 ((acR L S l g).length) cph0)] 26)
    have ou := ou.alloc (.cells #[.int .i64 (acL L S l g), .int .i64 (acS L S l g), (.slice adh0 ((acR L S l g).length) cph0)] 26)
    have oh0 := oh0.alloc (.cells #[.int .i64 (acL L S l g), .int .i64 (acS L S l g), (.slice adh0 ((acR L S l g).length) cph0)] 26)
    have t34 := t33.alloc t33.size (.cells #[.int .i64 (acL L S l g), .int .i64 (acS L S l g), (.slice adh0 ((acR L S l g).length) cph0)] 26)
    obtain ⟨y0_0, y0_1, y0_2⟩ := blk_cell3 Kw0.out
    go_wp2_with fail
    clear y0_0 y0_1 y0_2
    generalize hW35 : W32.alloc (.cells #[.int .i64 (acL L S l g), .int .i64 (acS L S l g), (.slice adh0 ((acR L S l g).length) cph0)] 26) = Y35 at *
    have s35 : Y35.heap.size = W32.heap.size + 1 := by rw [← hW35]; simp
    clear hW35
    refine (eqCircle_c (acL L S l g) (acS L S l g) (.slice adh0 ((acR L S l g).length) cph0) (.slice adw0 ((acR L S l g).length) cpw0) (acR L S l g) _ (Rd.of_own oh0) (Rd.of_own ow0)).mono ?_
    rintro e W36 ⟨rfl, b36⟩
    have ow0 := owns_below ow0 b36
    have ox := owns_below ox b36
    have og0 := owns_below og0 b36
    have ou := owns_below ou b36
    have oh0 := owns_below oh0 b36
    have KA := Lib.hid (blk_keep KA.out b36 (blk_lt KA.out))
    have Kw0 := Lib.hid (blk_keep Kw0.out b36 (blk_lt Kw0.out))
    have KX := Lib.hid (blk_keep KX.out b36 (blk_lt KX.out))
    have Kg0 := Lib.hid (blk_keep Kg0.out b36 (blk_lt Kg0.out))
    have Kh0 := Lib.hid (blk_keep Kh0.out b36 (blk_lt Kh0.out))
    have t37 := t34.trans (b36.mono t34.size)
    have z37 := b36.size
    obtain ⟨y0_0, y0_1, y0_2⟩ := blk_cell3 Kg0.out
    go_wp2_with fail
    clear y0_0 y0_1 y0_2
    refine (heldCircle_c 1 (acR L S l g).length (acL L S l g) (acS L S l g) (.slice adg0 ((acR L S l g).length) cpg0) _ (by omega) (by omega) (Rd.of_own og0)).mono ?_
    rintro e W38 ⟨rfl, b38⟩
    have ow0 := owns_below ow0 b38
    have ox := owns_below ox b38
    have og0 := owns_below og0 b38
    have ou := owns_below ou b38
    have oh0 := owns_below oh0 b38
    have KA := Lib.hid (blk_keep KA.out b38 (blk_lt KA.out))
    have Kw0 := Lib.hid (blk_keep Kw0.out b38 (blk_lt Kw0.out))
    have KX := Lib.hid (blk_keep KX.out b38 (blk_lt KX.out))
    have Kg0 := Lib.hid (blk_keep Kg0.out b38 (blk_lt Kg0.out))
    have Kh0 := Lib.hid (blk_keep Kh0.out b38 (blk_lt Kh0.out))
    have t39 := t37.trans (b38.mono t37.size)
    have z39 := b38.size
    go_wp2_with fail
    go_ret
    exact ⟨rfl, t39⟩
  · have hb2 := hb
    have KA := Lib.hid (blk_new3 w (.int .i64 L) (.int .i64 S) v 50)
    have t0 := (Below.refl w.heap.size w).alloc (Nat.le_refl _) (.cells #[.int .i64 L, .int .i64 S, v] 50)
    go_enter Try.func12, Try.ntmps12
    go_wp2_with fail
    refine (szCircle_big L S v l _ _ (HR.out.below t0 rfl) hn (by omega) (by omega) (by omega)).mono ?_
    rintro e W1 ⟨rfl, b1⟩
    have t1 := t0.trans (b1.mono t0.size)
    go_wp2_with fail
    go_ret
    exact ⟨rfl, t1⟩
end Go.Proofs.Ytiioabmfonhlbaa
