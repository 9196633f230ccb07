/- The draws of FnTensions's arguments; its comparison of rows. Condition: sizes. -/
import Derived.Test.YtmmjbdffpgohdaaDrawCase
import Derived.Test.YtmmjbdffpgohdaaTenMax
import Derived.Test.YtmmjbdffpgohdaaBlk3
import Derived.Test.YtmmjbdffpgohdaaAft
namespace Go.Proofs.Ytmmjbdffpgohdaa
open Go.RowKit
set_option linter.unusedVariables false
set_option maxHeartbeats 1000000 in
theorem DrawDriveForce_any (a : Option Addr) (len cap : Nat) (w : World) (h : ByteRow w a len) :
    Calls Try.prog 21 #[.slice a len cap] w (DkPost w) := by
  have HH := Lib.hid (h.below ((Below.refl _ _).alloc (Nat.le_refl _) (.cells #[.int .i64 0, .int .i64 0, .int .i64 0] 44)))
  clear h
  go_enter Try.func21, Try.ntmps21
  go_wp2_with fail
  refine (DrawUpTensions_any a len cap _ HH.out).mono ?_
  rintro e w1 ⟨v, l, x, rfl, hr, hl, hwf, hb, hbl⟩
  have HR := Lib.hid hr
  have HB := Lib.hid hb
  have HBL : Hid (∀ j, v.ownBlock = some j → w.heap.size < j) := Lib.hid (fun j hj => by have := hbl j hj; simp at this; omega)
  have HWF := Lib.hid hwf
  clear hr hb hwf hbl
  have K : w1.heap[w.heap.size]? = some (.cells #[.int .i64 0, .int .i64 0, .int .i64 0] 44 (0, 0)) := (HB.out.block w.heap.size (by simp)).trans (heap_alloc_new w _)
  have q0' := cell_of_row w1 w.heap.size 0 _ _ _ K
  have m0 := frozen_of_row w1 w.heap.size 0 _ _ K
  have q1' := cell_of_row w1 w.heap.size 1 _ _ _ K
  have m1 := frozen_of_row w1 w.heap.size 1 _ _ K
  have q2' := cell_of_row w1 w.heap.size 2 _ _ _ K
  have m2 := frozen_of_row w1 w.heap.size 2 _ _ K
  have b0 := blk_setD (i := 0) (v := .int .i64 x.w) K
  have z0 := cell_of_row _ w.heap.size 0 _ _ _ b0
  have b1 := blk_setD (i := 1) (v := .int .i64 x.c) b0
  have z1 := cell_of_row _ w.heap.size 1 _ _ _ b1
  have b2 := blk_setD (i := 2) (v := .int .i64 x.r) b1
  have z2 := cell_of_row _ w.heap.size 2 _ _ _ b2
  simp at q0' q1' q2' z0 z1 z2
  have Z0 := Lib.hid z0
  have Z1 := Lib.hid z1
  have Z2 := Lib.hid z2
  clear b0 b1 b2 z0 z1 z2 K
  have HB0 := Lib.hid (((Below.refl w.heap.size w).alloc (Nat.le_refl _) (.cells #[.int .i64 0, .int .i64 0, .int .i64 0] 44)).trans (HB.out.mono (by simp)))
  go_wp2
  refine bodyPost_ret (v := .tuple #[v, .agg #[.int .i64 x.w, .int .i64 x.c, .int .i64 x.r]]) (by simp [results, Try.results21, go_sem, Z0.out, Z1.out, Z2.out]) rfl ?_
  refine ⟨v, l, x, rfl, ?_, hl, HWF.out, ((HB0.out.setCell (Nat.le_refl _) _).setCell (Nat.le_refl _) _).setCell (Nat.le_refl _) _, HBL.out⟩
  have GG := grown_trans (grown_trans (row := some w.heap.size) (grown_setCell w1 w.heap.size 0 (.int .i64 x.w)) (grown_setCell _ w.heap.size 1 (.int .i64 x.c))) (grown_setCell _ w.heap.size 2 (.int .i64 x.r))
  exact rs_grownC HR.out GG (fun j hj => by have := HBL.out j hj; omega)
set_option maxHeartbeats 1000000 in
theorem DrawLeastCounter_any (a : Option Addr) (len cap : Nat) (w : World) (h : ByteRow w a len) :
    Calls Try.prog 30 #[.slice a len cap] w (DkPost w) := by
  have HH := Lib.hid (h.below ((Below.refl _ _).alloc (Nat.le_refl _) (.cells #[.int .i64 0, .int .i64 0, .int .i64 0] 44)))
  clear h
  go_enter Try.func30, Try.ntmps30
  go_wp2_with fail
  refine (DrawUpTensions_any a len cap _ HH.out).mono ?_
  rintro e w1 ⟨v, l, x, rfl, hr, hl, hwf, hb, hbl⟩
  have HR := Lib.hid hr
  have HB := Lib.hid hb
  have HBL : Hid (∀ j, v.ownBlock = some j → w.heap.size < j) := Lib.hid (fun j hj => by have := hbl j hj; simp at this; omega)
  have HWF := Lib.hid hwf
  clear hr hb hwf hbl
  have K : w1.heap[w.heap.size]? = some (.cells #[.int .i64 0, .int .i64 0, .int .i64 0] 44 (0, 0)) := (HB.out.block w.heap.size (by simp)).trans (heap_alloc_new w _)
  have q0' := cell_of_row w1 w.heap.size 0 _ _ _ K
  have m0 := frozen_of_row w1 w.heap.size 0 _ _ K
  have q1' := cell_of_row w1 w.heap.size 1 _ _ _ K
  have m1 := frozen_of_row w1 w.heap.size 1 _ _ K
  have q2' := cell_of_row w1 w.heap.size 2 _ _ _ K
  have m2 := frozen_of_row w1 w.heap.size 2 _ _ K
  have b0 := blk_setD (i := 0) (v := .int .i64 x.w) K
  have z0 := cell_of_row _ w.heap.size 0 _ _ _ b0
  have b1 := blk_setD (i := 1) (v := .int .i64 x.c) b0
  have z1 := cell_of_row _ w.heap.size 1 _ _ _ b1
  have b2 := blk_setD (i := 2) (v := .int .i64 x.r) b1
  have z2 := cell_of_row _ w.heap.size 2 _ _ _ b2
  simp at q0' q1' q2' z0 z1 z2
  have Z0 := Lib.hid z0
  have Z1 := Lib.hid z1
  have Z2 := Lib.hid z2
  clear b0 b1 b2 z0 z1 z2 K
  have HB0 := Lib.hid (((Below.refl w.heap.size w).alloc (Nat.le_refl _) (.cells #[.int .i64 0, .int .i64 0, .int .i64 0] 44)).trans (HB.out.mono (by simp)))
  go_wp2
  refine bodyPost_ret (v := .tuple #[v, .agg #[.int .i64 x.w, .int .i64 x.c, .int .i64 x.r]]) (by simp [results, Try.results30, go_sem, Z0.out, Z1.out, Z2.out]) rfl ?_
  refine ⟨v, l, x, rfl, ?_, hl, HWF.out, ((HB0.out.setCell (Nat.le_refl _) _).setCell (Nat.le_refl _) _).setCell (Nat.le_refl _) _, HBL.out⟩
  have GG := grown_trans (grown_trans (row := some w.heap.size) (grown_setCell w1 w.heap.size 0 (.int .i64 x.w)) (grown_setCell _ w.heap.size 1 (.int .i64 x.c))) (grown_setCell _ w.heap.size 2 (.int .i64 x.r))
  exact rs_grownC HR.out GG (fun j hj => by have := HBL.out j hj; omega)
set_option maxHeartbeats 1000000 in
theorem DrawDownTensions_any (a : Option Addr) (len cap : Nat) (w : World) (h : ByteRow w a len) :
    Calls Try.prog 35 #[.slice a len cap] w (DkPost w) := by
  have HH := Lib.hid (h.below ((Below.refl _ _).alloc (Nat.le_refl _) (.cells #[.int .i64 0, .int .i64 0, .int .i64 0] 44)))
  clear h
  go_enter Try.func35, Try.ntmps35
  go_wp2_with fail
  refine (DrawUpTensions_any a len cap _ HH.out).mono ?_
  rintro e w1 ⟨v, l, x, rfl, hr, hl, hwf, hb, hbl⟩
  have HR := Lib.hid hr
  have HB := Lib.hid hb
  have HBL : Hid (∀ j, v.ownBlock = some j → w.heap.size < j) := Lib.hid (fun j hj => by have := hbl j hj; simp at this; omega)
  have HWF := Lib.hid hwf
  clear hr hb hwf hbl
  have K : w1.heap[w.heap.size]? = some (.cells #[.int .i64 0, .int .i64 0, .int .i64 0] 44 (0, 0)) := (HB.out.block w.heap.size (by simp)).trans (heap_alloc_new w _)
  have q0' := cell_of_row w1 w.heap.size 0 _ _ _ K
  have m0 := frozen_of_row w1 w.heap.size 0 _ _ K
  have q1' := cell_of_row w1 w.heap.size 1 _ _ _ K
  have m1 := frozen_of_row w1 w.heap.size 1 _ _ K
  have q2' := cell_of_row w1 w.heap.size 2 _ _ _ K
  have m2 := frozen_of_row w1 w.heap.size 2 _ _ K
  have b0 := blk_setD (i := 0) (v := .int .i64 x.w) K
  have z0 := cell_of_row _ w.heap.size 0 _ _ _ b0
  have b1 := blk_setD (i := 1) (v := .int .i64 x.c) b0
  have z1 := cell_of_row _ w.heap.size 1 _ _ _ b1
  have b2 := blk_setD (i := 2) (v := .int .i64 x.r) b1
  have z2 := cell_of_row _ w.heap.size 2 _ _ _ b2
  simp at q0' q1' q2' z0 z1 z2
  have Z0 := Lib.hid z0
  have Z1 := Lib.hid z1
  have Z2 := Lib.hid z2
  clear b0 b1 b2 z0 z1 z2 K
  have HB0 := Lib.hid (((Below.refl w.heap.size w).alloc (Nat.le_refl _) (.cells #[.int .i64 0, .int .i64 0, .int .i64 0] 44)).trans (HB.out.mono (by simp)))
  go_wp2
  refine bodyPost_ret (v := .tuple #[v, .agg #[.int .i64 x.w, .int .i64 x.c, .int .i64 x.r]]) (by simp [results, Try.results35, go_sem, Z0.out, Z1.out, Z2.out]) rfl ?_
  refine ⟨v, l, x, rfl, ?_, hl, HWF.out, ((HB0.out.setCell (Nat.le_refl _) _).setCell (Nat.le_refl _) _).setCell (Nat.le_refl _) _, HBL.out⟩
  have GG := grown_trans (grown_trans (row := some w.heap.size) (grown_setCell w1 w.heap.size 0 (.int .i64 x.w)) (grown_setCell _ w.heap.size 1 (.int .i64 x.c))) (grown_setCell _ w.heap.size 2 (.int .i64 x.r))
  exact rs_grownC HR.out GG (fun j hj => by have := HBL.out j hj; omega)
set_option maxHeartbeats 400000 in
theorem vIntsT_same (va vb : Value) (l : List Int) (w : World) (ha : Rd w va (intVs l)) (hb : Rd w vb (intVs l)) :
    Calls Try.prog 34 #[va, vb] w fun e w' => e = .returned (.bool true) ∧ Drew w w' := by
  by_cases h0 : l = []
  · subst h0
    obtain ⟨a, ca, rfl⟩ := ha.iv0
    obtain ⟨b, cb, rfl⟩ := hb.iv0
    clear ha hb
    go_enter Try.func34, Try.ntmps34
    go_wp2
    refine wp_loop_rounds 1 ?_
    rw [rounds_succ]
    go_wp2
    go_ret
    exact ⟨rfl, Drew.refl _⟩
  · obtain ⟨a, oa, ca, rfl, hla, hm, hca⟩ := ha.iv h0
    obtain ⟨b, ob, cb, rfl, hlb, _, hcb⟩ := hb.iv h0
    unfold maxLen at hm
    have HA := Lib.hid hca
    have HB := Lib.hid hcb
    clear hca hcb ha hb
    go_enter Try.func34, Try.ntmps34
    go_wp2
    go_loopw [5] (fun i wr => ∃ k m : Nat, k ≤ l.length ∧ i = .int .i64 k ∧ wr = w.drewN m) (fun i _ => l.length - (intOf i).toNat)
    case atStart => exact ⟨0, 0, Nat.zero_le _, rfl, rfl⟩
    case round =>
      obtain ⟨k, m, hk, rfl, rfl⟩ := hrel
      by_cases hlt : k < l.length
      · have c1 : w.cell? ⟨a, oa + k, none⟩ = some (.int .i64 (l.getD k 0)) := HA.out k hlt
        have c2 : w.cell? ⟨b, ob + k, none⟩ = some (.int .i64 (l.getD k 0)) := HB.out k hlt
        generalize l.getD k 0 = x at c1 c2
        go_wp2
        go_quiet (fail)
        go_wp2
        go_roundw
        case rel => exact ⟨k + 1, m + nq, by omega, by go_num, rfl⟩
        case measure => simp [intOf]; omega
      · go_wp2
        go_ret
        exact ⟨rfl, m, rfl⟩
theorem vIntsT_c (va vb : Value) (l : List Int) (w : World) (ha : Rd w va (intVs l)) (hb : Rd w vb (intVs l)) :
    Calls Try.prog 34 #[va, vb] w fun e w' => e = .returned (.bool true) ∧ Below w.heap.size w w' := (vIntsT_same va vb l w ha hb).mono fun _ _ h => ⟨h.1, h.2.below _⟩
end Go.Proofs.Ytmmjbdffpgohdaa
