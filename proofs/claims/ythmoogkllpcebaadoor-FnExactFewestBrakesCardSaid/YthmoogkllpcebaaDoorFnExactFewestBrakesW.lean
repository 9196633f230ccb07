/- The law FnExactFewestBrakes's walk. Condition: sizes. -/
import Derived.Test.YthmoogkllpcebaaDoorDrvS
import Derived.Test.YthmoogkllpcebaaDoorIntC
import Derived.Test.YthmoogkllpcebaaDoorBrkP
namespace Go.Proofs.YthmoogkllpcebaaDoor
open Go.RowKit
set_option linter.unusedVariables false
set_option maxRecDepth 100000 in
set_option maxHeartbeats 4000000 in
theorem FnExactFewestBrakes_walk (L S : Int) (v : Value) (l : List Brk) (x y : Int) (w : World) (hr : Rs w v l.length (brks l)) (hn : l.length ≤ maxLen) (hwL : (Lit.int .i64 L).wf = true) (hwS : (Lit.int .i64 S).wf = true) (hwx : (Lit.int .i64 x).wf = true) (hwy : (Lit.int .i64 y).wf = true) (ht : BruP w) :
    Calls Tryd.prog 9 #[.agg #[.int .i64 L, .int .i64 S, v], .int .i64 x, .int .i64 y] w fun e w' => e = .returned (.bool true) ∧ Below w.heap.size w w' := by
  have HTT := Lib.hid ht
  clear ht
  have HWx := Lib.hid hwx
  have HWy := Lib.hid hwy
  clear hwx hwy
  have HR := Lib.hid hr
  clear hr
  have hm := hn
  unfold maxLen at hm
  by_cases hb : l.length ≤ 1048576
  · have hl := hb
    have KA := Lib.hid (blk_new3 w (.int .i64 L) (.int .i64 S) v 52)
    have t0 := (Below.refl w.heap.size w).alloc (Nat.le_refl _) (.cells #[.int .i64 L, .int .i64 S, v] 52)
    go_enter Tryd.func9, Tryd.ntmps9
    go_wp2_with fail
    generalize hW0 : w.alloc (.cells #[.int .i64 L, .int .i64 S, v] 52) = Y0 at *
    have s0 : Y0.heap.size = w.heap.size + 1 := by rw [← hW0]; simp
    clear hW0
    refine (szDrive_ok L S v l _ _ (HR.out.below t0 rfl) (by omega) (by omega)).mono ?_
    rintro e W1 ⟨rfl, b1⟩
    have KA := Lib.hid (blk_keep KA.out b1 (blk_lt KA.out))
    have t2 := t0.trans (b1.mono t0.size)
    have z2 := b1.size
    have hneg : ¬ ((1048576 : Int) - (l.length : Int) < 0) := by omega
    obtain ⟨y0_0, y0_1, y0_2⟩ := blk_cell3 KA.out
    go_wp2_with fail
    clear y0_0 y0_1 y0_2
    refine (toDrive_any L S v l _ (HR.out.below t2 rfl) hl).mono ?_
    rintro e W3 ⟨vs, rfl, ns, b3⟩
    have KA := Lib.hid (blk_keep KA.out b3 (blk_lt KA.out))
    have t4 := t2.trans (b3.mono t2.size)
    have z4 := b3.size
    have os := ns
    obtain ⟨ads, cps, rfl⟩ := (Rs.of_own os).shape
    have ls := betw_of os
    go_wp2_with fail
    refine (specFewestBrakes_c L S (.slice ads l.length cps) l x y _ (Rs.of_own os) hl).mono ?_
    rintro e W5 ⟨vw0, rfl, nw0, b5⟩
    have os := owns_below os b5
    have KA := Lib.hid (blk_keep KA.out b5 (blk_lt KA.out))
    have t6 := t4.trans (b5.mono t4.size)
    have z6 := b5.size
    have ow0 := nw0
    obtain ⟨adw0, cpw0, rfl⟩ := (Rs.of_own ow0).shape
    have lw0 := betw_of ow0
    obtain ⟨y0_0, y0_1, y0_2⟩ := blk_cell3 KA.out
    go_wp2_with fail
    clear y0_0 y0_1 y0_2
    refine (toDrive_any L S v l _ (HR.out.below t6 rfl) hl).mono ?_
    rintro e W7 ⟨vx, rfl, nx, b7⟩
    have ow0 := owns_below ow0 b7
    have KA := Lib.hid (blk_keep KA.out b7 (blk_lt KA.out))
    have t8 := t6.trans (b7.mono t6.size)
    have z8 := b7.size
    have ox := nx
    obtain ⟨adx, cpx, rfl⟩ := (Rs.of_own ox).shape
    have lx := betw_of ox
    have KA := Lib.hid (blk_stay (o' := .cells #[.int .i64 L, .int .i64 S, (.slice adx l.length cpx)] 26) KA.out)
    have KX := Lib.hid (blk_new3 W7 (.int .i64 L) (.int .i64 S) ((.slice adx l.length cpx)) 26)
    have ow0 := ow0.alloc (.cells #[.int .i64 L, .int .i64 S, (.slice adx l.length cpx)] 26)
    have ox := ox.alloc (.cells #[.int .i64 L, .int .i64 S, (.slice adx l.length cpx)] 26)
    have t9 := t8.alloc t8.size (.cells #[.int .i64 L, .int .i64 S, (.slice adx l.length cpx)] 26)
    go_wp2_with fail
    generalize hW10 : W7.alloc (.cells #[.int .i64 L, .int .i64 S, (.slice adx l.length cpx)] 26) = Y10 at *
    have s10 : Y10.heap.size = W7.heap.size + 1 := by rw [← hW10]; simp
    clear hW10
    refine (implFewestBrakes_c L S (.slice adx l.length cpx) l x y _ (Rs.of_own ox) hl (HTT.out.below t9)).mono ?_
    rintro e W11 ⟨vg0, rfl, ng0, b11⟩
    have ow0 := owns_below ow0 b11
    have ox := owns_below ox b11
    have KA := Lib.hid (blk_keep KA.out b11 (blk_lt KA.out))
    have KX := Lib.hid (blk_keep KX.out b11 (blk_lt KX.out))
    have t12 := t9.trans (b11.mono t9.size)
    have z12 := b11.size
    have og0 := ng0
    obtain ⟨adg0, cpg0, rfl⟩ := (Rs.of_own og0).shape
    have lg0 := betw_of og0
    go_wp2_with fail
    refine (eqIntS_c (.slice adg0 ((fbR L S l x y).length) cpg0) (.slice adw0 ((fbR L S l x y).length) cpw0) (fbR L S l x y) _ (Rd.of_own og0) (Rd.of_own ow0)).mono ?_
    rintro e W13 ⟨rfl, b13⟩
    have ow0 := owns_below ow0 b13
    have ox := owns_below ox b13
    have og0 := owns_below og0 b13
    have KA := Lib.hid (blk_keep KA.out b13 (blk_lt KA.out))
    have KX := Lib.hid (blk_keep KX.out b13 (blk_lt KX.out))
    have t14 := t12.trans (b13.mono t12.size)
    have z14 := b13.size
    go_wp2_with fail
    have HKS : Hid (∀ W, Below W13.heap.size W13 W → W.cell? ⟨W7.heap.size, 0, none⟩ = some (.int .i64 L) ∧ W.cell? ⟨W7.heap.size, 1, none⟩ = some (.int .i64 S) ∧ W.cell? ⟨W7.heap.size, 2, none⟩ = some ((.slice adx l.length cpx)) ∧ W.cell? ⟨w.heap.size, 0, none⟩ = some (.int .i64 L) ∧ W.cell? ⟨w.heap.size, 1, none⟩ = some (.int .i64 S) ∧ W.cell? ⟨w.heap.size, 2, none⟩ = some (v)) := Lib.hid (fun W hW => by
      obtain ⟨a0, a1, a2⟩ := blk_cell3 (blk_keep KX.out hW (blk_lt KX.out))
      obtain ⟨c0, c1, c2⟩ := blk_cell3 (blk_keep KA.out hW (blk_lt KA.out))
      exact ⟨a0, a1, a2, c0, c1, c2⟩)
    have HRD := Lib.hid (fun W (hW : Below W13.heap.size W13 W) => HR.out.below (t14.trans (hW.mono t14.size)) rfl)
    have HOX := Lib.hid (fun W (hW : Below W13.heap.size W13 W) => Rs.of_own (owns_below ox hW))
    have HK2 : Hid (∀ W, Below W13.heap.size W13 W → Below W13.heap.size W13 W ∧ W.cell? ⟨W7.heap.size, 0, none⟩ = some (.int .i64 L) ∧ W.cell? ⟨W7.heap.size, 1, none⟩ = some (.int .i64 S) ∧ W.cell? ⟨W7.heap.size, 2, none⟩ = some ((.slice adx l.length cpx)) ∧ W.cell? ⟨w.heap.size, 0, none⟩ = some (.int .i64 L) ∧ W.cell? ⟨w.heap.size, 1, none⟩ = some (.int .i64 S) ∧ W.cell? ⟨w.heap.size, 2, none⟩ = some (v)) := Lib.hid (fun W hW => ⟨hW, HKS.out W hW⟩)
    go_region_held3 (fun w' => Below W13.heap.size W13 w' ∧ w'.cell? ⟨W7.heap.size, 0, none⟩ = some (.int .i64 L) ∧ w'.cell? ⟨W7.heap.size, 1, none⟩ = some (.int .i64 S) ∧ w'.cell? ⟨W7.heap.size, 2, none⟩ = some ((.slice adx l.length cpx)) ∧ w'.cell? ⟨w.heap.size, 0, none⟩ = some (.int .i64 L) ∧ w'.cell? ⟨w.heap.size, 1, none⟩ = some (.int .i64 S) ∧ w'.cell? ⟨w.heap.size, 2, none⟩ = some (v)) (exact HK2.out _ (by (first | exact Below.refl _ _ | exact below_drewN (Below.refl _ _) _ | exact (Below.refl _ _).drew | (go_split_ands; refine Below.trans ?_ (Below.mono b16 (Below.size (B := W13.heap.size) ?_)) <;> assumption) | (go_split_ands; refine Below.trans ?_ (Below.mono b15 (Below.size (B := W13.heap.size) ?_)) <;> assumption) | (go_split_ands; exact b15) | (go_split_ands; refine below_drewN ?_ _; assumption) | fail)))
      (first
        | (go_at_call 41; refine (toDrive_any L S v l _ (HRD.out _ (by first | exact Below.refl _ _ | exact below_drewN (Below.refl _ _) _ | exact (Below.refl _ _).drew | (go_split_ands; assumption) | (go_split_ands; exact (Below.trans b15 (Below.mono (Below.refl _ _) (Below.size b15)))) | fail)) hl).mono ?_; rintro e W15 ⟨vy, rfl, ny, b15⟩)
        | (go_at_call 43; refine (eqDrive_c L S (.slice adx l.length cpx) vy l _ (HOX.out _ (by go_split_ands; assumption)) (Rs.of_own ny)).mono ?_; rintro e W16 ⟨rfl, b16⟩)
        | fail)
    have T16 : Below W13.heap.size W13 W16 := by go_split_ands; assumption
    have ow0 := owns_below ow0 T16
    have ox := owns_below ox T16
    have og0 := owns_below og0 T16
    have KA := Lib.hid (blk_keep KA.out T16 (blk_lt KA.out))
    have KX := Lib.hid (blk_keep KX.out T16 (blk_lt KX.out))
    have t17 := t14.trans (T16.mono t14.size)
    have z17 := T16.size
    have hb0 : (fbR L S l x y).length ≤ 1048576 := by first | omega | exact Nat.le_trans (by first | exact spR10_len L S l _ _ | exact fb10_len L S l _ _ | omega) (by omega)
    obtain ⟨y0_0, y0_1, y0_2⟩ := blk_cell3 KX.out
    go_wp2_with fail
    clear y0_0 y0_1 y0_2
    refine (markDrive_any _ 1 (l.length) _ _ (.slice adx l.length cpx) _ _ (by omega) (by omega) (by have := t17.size; omega) ox).mono ?_
    rintro e W18 ⟨rfl, px, g18⟩
    have ow0 := ow0.kept g18 (apart lw0 lx (by omega))
    have og0 := og0.kept g18 (apart lg0 lx (by omega))
    have KA := Lib.hid ((g18.block _ (blk_lt KA.out) (fun e => by have := lx _ e.symm; omega)).trans KA.out)
    have KX := Lib.hid ((g18.block _ (blk_lt KX.out) (fun e => by have := lx _ e.symm; omega)).trans KX.out)
    have t19 := t17.trans (below_mark g18 lx (by first | exact Nat.le_refl _ | (have := t17.size; omega) | omega) t17.size)
    have z19 := g18.size
    have ox := px
    have hk1 : ¬ (((1 + l.length * 2 : Nat) : Int) < 0) := by omega
    go_wp2_with fail
    refine (eqIntS_c (.slice adg0 ((fbR L S l x y).length) cpg0) (.slice adw0 ((fbR L S l x y).length) cpw0) (fbR L S l x y) _ (Rd.of_own og0) (Rd.of_own ow0)).mono ?_
    rintro e W20 ⟨rfl, b20⟩
    have ow0 := owns_below ow0 b20
    have ox := owns_below ox b20
    have og0 := owns_below og0 b20
    have KA := Lib.hid (blk_keep KA.out b20 (blk_lt KA.out))
    have KX := Lib.hid (blk_keep KX.out b20 (blk_lt KX.out))
    have t21 := t19.trans (b20.mono t19.size)
    have z21 := b20.size
    go_wp2_with fail
    refine (markIntS_any _ 1 ((fbR L S l x y).length) (.slice adg0 ((fbR L S l x y).length) cpg0) _ _ (by omega) (by omega) (by have := t21.size; omega) og0).mono ?_
    rintro e W22 ⟨rfl, pg0, g22⟩
    have ow0 := ow0.kept g22 (apart lw0 lg0 (by omega))
    have ox := ox.kept g22 (apart lx lg0 (by omega))
    have KA := Lib.hid ((g22.block _ (blk_lt KA.out) (fun e => by have := lg0 _ e.symm; omega)).trans KA.out)
    have KX := Lib.hid ((g22.block _ (blk_lt KX.out) (fun e => by have := lg0 _ e.symm; omega)).trans KX.out)
    have t23 := t21.trans (below_mark g22 lg0 (by first | exact Nat.le_refl _ | (have := t21.size; omega) | omega) t21.size)
    have z23 := g22.size
    have og0 := pg0
    go_wp2_with fail
    refine (heldIntS_c 1 (fbR L S l x y).length (.slice adg0 ((fbR L S l x y).length) cpg0) _ (by omega) (by omega) (Rd.of_own og0)).mono ?_
    rintro e W24 ⟨rfl, b24⟩
    have ow0 := owns_below ow0 b24
    have ox := owns_below ox b24
    have og0 := owns_below og0 b24
    have KA := Lib.hid (blk_keep KA.out b24 (blk_lt KA.out))
    have KX := Lib.hid (blk_keep KX.out b24 (blk_lt KX.out))
    have t25 := t23.trans (b24.mono t23.size)
    have z25 := b24.size
    obtain ⟨y0_0, y0_1, y0_2⟩ := blk_cell3 KA.out
    go_wp2_with fail
    clear y0_0 y0_1 y0_2
    refine (toDrive_any L S v l _ (HR.out.below t25 rfl) hl).mono ?_
    rintro e W26 ⟨vu, rfl, nu, b26⟩
    have ow0 := owns_below ow0 b26
    have ox := owns_below ox b26
    have og0 := owns_below og0 b26
    have KA := Lib.hid (blk_keep KA.out b26 (blk_lt KA.out))
    have KX := Lib.hid (blk_keep KX.out b26 (blk_lt KX.out))
    have t27 := t25.trans (b26.mono t25.size)
    have z27 := b26.size
    have ou := nu
    obtain ⟨adu, cpu, rfl⟩ := (Rs.of_own ou).shape
    have lu := betw_of ou
    go_wp2_with fail
    refine (implFewestBrakes_c L S (.slice adu l.length cpu) l x y _ (Rs.of_own ou) hl (HTT.out.below t27)).mono ?_
    rintro e W28 ⟨vh0, rfl, nh0, b28⟩
    have ow0 := owns_below ow0 b28
    have ox := owns_below ox b28
    have og0 := owns_below og0 b28
    have ou := owns_below ou b28
    have KA := Lib.hid (blk_keep KA.out b28 (blk_lt KA.out))
    have KX := Lib.hid (blk_keep KX.out b28 (blk_lt KX.out))
    have t29 := t27.trans (b28.mono t27.size)
    have z29 := b28.size
    have oh0 := nh0
    obtain ⟨adh0, cph0, rfl⟩ := (Rs.of_own oh0).shape
    have lh0 := betw_of oh0
    go_wp2_with fail
    refine (eqIntS_c (.slice adh0 ((fbR L S l x y).length) cph0) (.slice adw0 ((fbR L S l x y).length) cpw0) (fbR L S l x y) _ (Rd.of_own oh0) (Rd.of_own ow0)).mono ?_
    rintro e W30 ⟨rfl, b30⟩
    have ow0 := owns_below ow0 b30
    have ox := owns_below ox b30
    have og0 := owns_below og0 b30
    have ou := owns_below ou b30
    have oh0 := owns_below oh0 b30
    have KA := Lib.hid (blk_keep KA.out b30 (blk_lt KA.out))
    have KX := Lib.hid (blk_keep KX.out b30 (blk_lt KX.out))
    have t31 := t29.trans (b30.mono t29.size)
    have z31 := b30.size
    go_wp2_with fail
    refine (heldIntS_c 1 (fbR L S l x y).length (.slice adg0 ((fbR L S l x y).length) cpg0) _ (by omega) (by omega) (Rd.of_own og0)).mono ?_
    rintro e W32 ⟨rfl, b32⟩
    have ow0 := owns_below ow0 b32
    have ox := owns_below ox b32
    have og0 := owns_below og0 b32
    have ou := owns_below ou b32
    have oh0 := owns_below oh0 b32
    have KA := Lib.hid (blk_keep KA.out b32 (blk_lt KA.out))
    have KX := Lib.hid (blk_keep KX.out b32 (blk_lt KX.out))
    have t33 := t31.trans (b32.mono t31.size)
    have z33 := b32.size
    go_wp2_with fail
    go_ret
    exact ⟨rfl, t33⟩
  · have hb2 := hb
    have KA := Lib.hid (blk_new3 w (.int .i64 L) (.int .i64 S) v 52)
    have t0 := (Below.refl w.heap.size w).alloc (Nat.le_refl _) (.cells #[.int .i64 L, .int .i64 S, v] 52)
    go_enter Tryd.func9, Tryd.ntmps9
    go_wp2_with fail
    refine (szDrive_big L S v l _ _ (HR.out.below t0 rfl) hn (by omega) (by omega) (by omega)).mono ?_
    rintro e W1 ⟨rfl, b1⟩
    have t1 := t0.trans (b1.mono t0.size)
    go_wp2_with fail
    go_ret
    exact ⟨rfl, t1⟩
end Go.Proofs.YthmoogkllpcebaaDoor
