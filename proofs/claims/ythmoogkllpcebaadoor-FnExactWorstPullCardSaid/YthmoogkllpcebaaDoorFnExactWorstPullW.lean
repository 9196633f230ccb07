/- The law FnExactWorstPull's walk. Condition: sizes. -/
import Derived.Test.YthmoogkllpcebaaDoorDrvS
import Derived.Test.YthmoogkllpcebaaDoorIntC
import Derived.Test.YthmoogkllpcebaaDoorBrkN
namespace Go.Proofs.YthmoogkllpcebaaDoor
open Go.RowKit
set_option linter.unusedVariables false
set_option maxRecDepth 100000 in
set_option maxHeartbeats 4000000 in
theorem FnExactWorstPull_walk (L S : Int) (v : Value) (l : List Brk) (x lo hi : Int) (w : World) (hr : Rs w v l.length (brks l)) (hn : l.length ≤ maxLen) (hwL : (Lit.int .i64 L).wf = true) (hwS : (Lit.int .i64 S).wf = true) (hwx : (Lit.int .i64 x).wf = true) (hwlo : (Lit.int .i64 lo).wf = true) (hwhi : (Lit.int .i64 hi).wf = true) (ht : BruP w) :
    Calls Tryd.prog 12 #[.agg #[.int .i64 L, .int .i64 S, v], .int .i64 x, .int .i64 lo, .int .i64 hi] w fun e w' => e = .returned (.bool true) ∧ Below w.heap.size w w' := by
  have HTT := Lib.hid ht
  clear ht
  have HWx := Lib.hid hwx
  have HWlo := Lib.hid hwlo
  have HWhi := Lib.hid hwhi
  clear hwx hwlo hwhi
  have HR := Lib.hid hr
  clear hr
  have hm := hn
  unfold maxLen at hm
  by_cases hb : l.length ≤ 1048576
  · have hl := hb
    have KA := Lib.hid (blk_new3 w (.int .i64 L) (.int .i64 S) v 52)
    have t0 := (Below.refl w.heap.size w).alloc (Nat.le_refl _) (.cells #[.int .i64 L, .int .i64 S, v] 52)
    go_enter Tryd.func12, Tryd.ntmps12
    go_wp2_with fail
    generalize hW0 : w.alloc (.cells #[.int .i64 L, .int .i64 S, v] 52) = Y0 at *
    have s0 : Y0.heap.size = w.heap.size + 1 := by rw [← hW0]; simp
    clear hW0
    refine (szDrive_ok L S v l _ _ (HR.out.below t0 rfl) (by omega) (by omega)).mono ?_
    rintro e W1 ⟨rfl, b1⟩
    have KA := Lib.hid (blk_keep KA.out b1 (blk_lt KA.out))
    have t2 := t0.trans (b1.mono t0.size)
    have z2 := b1.size
    have hneg : ¬ ((1048576 : Int) - (l.length : Int) < 0) := by omega
    obtain ⟨y0_0, y0_1, y0_2⟩ := blk_cell3 KA.out
    go_wp2_with fail
    clear y0_0 y0_1 y0_2
    refine (toDrive_any L S v l _ (HR.out.below t2 rfl) hl).mono ?_
    rintro e W3 ⟨vs, rfl, ns, b3⟩
    have KA := Lib.hid (blk_keep KA.out b3 (blk_lt KA.out))
    have t4 := t2.trans (b3.mono t2.size)
    have z4 := b3.size
    have os := ns
    obtain ⟨ads, cps, rfl⟩ := (Rs.of_own os).shape
    have ls := betw_of os
    go_wp2_with fail
    refine (specWorstPull_c L S (.slice ads l.length cps) l x lo hi _ (Rs.of_own os) hl).mono ?_
    rintro e W5 ⟨rfl, b5⟩
    have os := owns_below os b5
    have KA := Lib.hid (blk_keep KA.out b5 (blk_lt KA.out))
    have t6 := t4.trans (b5.mono t4.size)
    have z6 := b5.size
    obtain ⟨y0_0, y0_1, y0_2⟩ := blk_cell3 KA.out
    go_wp2_with fail
    clear y0_0 y0_1 y0_2
    refine (toDrive_any L S v l _ (HR.out.below t6 rfl) hl).mono ?_
    rintro e W7 ⟨vx, rfl, nx, b7⟩
    have KA := Lib.hid (blk_keep KA.out b7 (blk_lt KA.out))
    have t8 := t6.trans (b7.mono t6.size)
    have z8 := b7.size
    have ox := nx
    obtain ⟨adx, cpx, rfl⟩ := (Rs.of_own ox).shape
    have lx := betw_of ox
    have KA := Lib.hid (blk_stay (o' := .cells #[.int .i64 L, .int .i64 S, (.slice adx l.length cpx)] 26) KA.out)
    have KX := Lib.hid (blk_new3 W7 (.int .i64 L) (.int .i64 S) ((.slice adx l.length cpx)) 26)
    have ox := ox.alloc (.cells #[.int .i64 L, .int .i64 S, (.slice adx l.length cpx)] 26)
    have t9 := t8.alloc t8.size (.cells #[.int .i64 L, .int .i64 S, (.slice adx l.length cpx)] 26)
    go_wp2_with fail
    generalize hW10 : W7.alloc (.cells #[.int .i64 L, .int .i64 S, (.slice adx l.length cpx)] 26) = Y10 at *
    have s10 : Y10.heap.size = W7.heap.size + 1 := by rw [← hW10]; simp
    clear hW10
    refine (implWorstPull_c L S (.slice adx l.length cpx) l x lo hi _ (Rs.of_own ox) hl (HTT.out.below t9)).mono ?_
    rintro e W11 ⟨rfl, b11⟩
    have ox := owns_below ox b11
    have KA := Lib.hid (blk_keep KA.out b11 (blk_lt KA.out))
    have KX := Lib.hid (blk_keep KX.out b11 (blk_lt KX.out))
    have t12 := t9.trans (b11.mono t9.size)
    have z12 := b11.size
    go_wp2_with fail
    have HKS : Hid (∀ W, Below W11.heap.size W11 W → W.cell? ⟨W7.heap.size, 0, none⟩ = some (.int .i64 L) ∧ W.cell? ⟨W7.heap.size, 1, none⟩ = some (.int .i64 S) ∧ W.cell? ⟨W7.heap.size, 2, none⟩ = some ((.slice adx l.length cpx)) ∧ W.cell? ⟨w.heap.size, 0, none⟩ = some (.int .i64 L) ∧ W.cell? ⟨w.heap.size, 1, none⟩ = some (.int .i64 S) ∧ W.cell? ⟨w.heap.size, 2, none⟩ = some (v)) := Lib.hid (fun W hW => by
      obtain ⟨a0, a1, a2⟩ := blk_cell3 (blk_keep KX.out hW (blk_lt KX.out))
      obtain ⟨c0, c1, c2⟩ := blk_cell3 (blk_keep KA.out hW (blk_lt KA.out))
      exact ⟨a0, a1, a2, c0, c1, c2⟩)
    have HRD := Lib.hid (fun W (hW : Below W11.heap.size W11 W) => HR.out.below (t12.trans (hW.mono t12.size)) rfl)
    have HOX := Lib.hid (fun W (hW : Below W11.heap.size W11 W) => Rs.of_own (owns_below ox hW))
    have HK2 : Hid (∀ W, Below W11.heap.size W11 W → Below W11.heap.size W11 W ∧ W.cell? ⟨W7.heap.size, 0, none⟩ = some (.int .i64 L) ∧ W.cell? ⟨W7.heap.size, 1, none⟩ = some (.int .i64 S) ∧ W.cell? ⟨W7.heap.size, 2, none⟩ = some ((.slice adx l.length cpx)) ∧ W.cell? ⟨w.heap.size, 0, none⟩ = some (.int .i64 L) ∧ W.cell? ⟨w.heap.size, 1, none⟩ = some (.int .i64 S) ∧ W.cell? ⟨w.heap.size, 2, none⟩ = some (v)) := Lib.hid (fun W hW => ⟨hW, HKS.out W hW⟩)
    go_region_held3 (fun w' => Below W11.heap.size W11 w' ∧ w'.cell? ⟨W7.heap.size, 0, none⟩ = some (.int .i64 L) ∧ w'.cell? ⟨W7.heap.size, 1, none⟩ = some (.int .i64 S) ∧ w'.cell? ⟨W7.heap.size, 2, none⟩ = some ((.slice adx l.length cpx)) ∧ w'.cell? ⟨w.heap.size, 0, none⟩ = some (.int .i64 L) ∧ w'.cell? ⟨w.heap.size, 1, none⟩ = some (.int .i64 S) ∧ w'.cell? ⟨w.heap.size, 2, none⟩ = some (v)) (exact HK2.out _ (by (first | exact Below.refl _ _ | exact below_drewN (Below.refl _ _) _ | exact (Below.refl _ _).drew | (go_split_ands; refine Below.trans ?_ (Below.mono b14 (Below.size (B := W11.heap.size) ?_)) <;> assumption) | (go_split_ands; refine Below.trans ?_ (Below.mono b13 (Below.size (B := W11.heap.size) ?_)) <;> assumption) | (go_split_ands; exact b13) | (go_split_ands; refine below_drewN ?_ _; assumption) | fail)))
      (first
        | (go_at_call 41; refine (toDrive_any L S v l _ (HRD.out _ (by first | exact Below.refl _ _ | exact below_drewN (Below.refl _ _) _ | exact (Below.refl _ _).drew | (go_split_ands; assumption) | (go_split_ands; exact (Below.trans b13 (Below.mono (Below.refl _ _) (Below.size b13)))) | fail)) hl).mono ?_; rintro e W13 ⟨vy, rfl, ny, b13⟩)
        | (go_at_call 43; refine (eqDrive_c L S (.slice adx l.length cpx) vy l _ (HOX.out _ (by go_split_ands; assumption)) (Rs.of_own ny)).mono ?_; rintro e W14 ⟨rfl, b14⟩)
        | fail)
    have T14 : Below W11.heap.size W11 W14 := by go_split_ands; assumption
    have ox := owns_below ox T14
    have KA := Lib.hid (blk_keep KA.out T14 (blk_lt KA.out))
    have KX := Lib.hid (blk_keep KX.out T14 (blk_lt KX.out))
    have t15 := t12.trans (T14.mono t12.size)
    have z15 := T14.size
    go_wp2_with fail
    go_ret
    exact ⟨rfl, t15⟩
  · have hb2 := hb
    have KA := Lib.hid (blk_new3 w (.int .i64 L) (.int .i64 S) v 52)
    have t0 := (Below.refl w.heap.size w).alloc (Nat.le_refl _) (.cells #[.int .i64 L, .int .i64 S, v] 52)
    go_enter Tryd.func12, Tryd.ntmps12
    go_wp2_with fail
    refine (szDrive_big L S v l _ _ (HR.out.below t0 rfl) hn (by omega) (by omega) (by omega)).mono ?_
    rintro e W1 ⟨rfl, b1⟩
    have t1 := t0.trans (b1.mono t0.size)
    go_wp2_with fail
    go_ret
    exact ⟨rfl, t1⟩
end Go.Proofs.YthmoogkllpcebaaDoor
