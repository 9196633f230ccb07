/- DrawGreatestTension; a list that has not. Condition: sizes. -/
import Derived.Test.YtdnmmafnjhgeiaaDrawCase
import Derived.Test.YtdnmmafnjhgeiaaSpansHelp
namespace Go.Proofs.Ytdnmmafnjhgeiaa
open Go.RowKit
set_option linter.unusedVariables false
set_option maxHeartbeats 1000000 in
theorem vHas_no (v : Value) (l : List Int) (x : Int) (w : World) (hr : Rd w v (intVs l)) (hn : l.length ≤ 8) (hx : x ∉ l) :
    Calls Try.prog 21 #[v, .int .i64 x] w fun e w' => e = .returned (.bool false) ∧ w' = w := by
  by_cases h0 : l = []
  · subst h0
    obtain ⟨a, ca, rfl⟩ := hr.iv0
    clear hr hx
    go_enter Try.func21, Try.ntmps21
    go_wp2
    refine wp_loop_rounds 1 ?_
    rw [rounds_succ]
    go_wp2
    go_ret
    exact ⟨rfl, rfl⟩
  · obtain ⟨a, oa, ca, rfl, hla, hm, hca⟩ := hr.iv h0
    have HA := Lib.hid hca
    have HNX : Hid (∀ k, k < l.length → l.getD k 0 ≠ x) := Lib.hid (fun k hk e => hx (by rw [← e]; simp [List.getD, hk]))
    clear hca hr h0 hx
    go_enter Try.func21, Try.ntmps21
    go_wp2
    go_loop [5] (fun i => ∃ k : Nat, k ≤ l.length ∧ i = .int .i64 k) (fun i => l.length - (intOf i).toNat)
    case atStart => exact ⟨0, Nat.zero_le _, rfl⟩
    case round =>
      obtain ⟨k, hk, rfl⟩ := hrel
      by_cases hlt : k < l.length
      · have c1 : w.cell? ⟨a, oa + k, none⟩ = some (.int .i64 (l.getD k 0)) := HA.out k hlt
        have hxb : (l.getD k 0 == x) = false := by rw [beq_eq_false_iff_ne]; exact HNX.out k hlt
        generalize l.getD k 0 = X at *
        go_wp2
        go_round
        case rel => exact ⟨k + 1, by omega, by go_num⟩
        case measure => simp [intOf]; omega
      · obtain rfl : k = l.length := by omega
        go_wp2
        go_ret
        exact ⟨rfl, rfl⟩
set_option maxHeartbeats 1000000 in
theorem DrawGreatestTension_any (a : Option Addr) (len cap : Nat) (w : World) (h : ByteRow w a len) :
    Calls Try.prog 25 #[.slice a len cap] w (DkPost w) := by
  have HH := Lib.hid (h.below ((Below.refl _ _).alloc (Nat.le_refl _) (.cells #[.int .i64 0, .int .i64 0, .int .i64 0] 26)))
  clear h
  go_enter Try.func25, Try.ntmps25
  go_wp2_with fail
  refine (DrawUpTensions_any a len cap _ HH.out).mono ?_
  rintro e w1 ⟨v, l, x, rfl, hr, hl, hwf, hb, hbl⟩
  have HR := Lib.hid hr
  have HB := Lib.hid hb
  have HBL : Hid (∀ j, v.ownBlock = some j → w.heap.size < j) := Lib.hid (fun j hj => by have := hbl j hj; simp at this; omega)
  have HWF := Lib.hid hwf
  clear hr hb hwf hbl
  have K : w1.heap[w.heap.size]? = some (.cells #[.int .i64 0, .int .i64 0, .int .i64 0] 26 (0, 0)) := (HB.out.block w.heap.size (by simp)).trans (heap_alloc_new w _)
  have q0' := cell_of_row w1 w.heap.size 0 _ _ _ K
  have m0 := frozen_of_row w1 w.heap.size 0 _ _ K
  have q1' := cell_of_row w1 w.heap.size 1 _ _ _ K
  have m1 := frozen_of_row w1 w.heap.size 1 _ _ K
  have q2' := cell_of_row w1 w.heap.size 2 _ _ _ K
  have m2 := frozen_of_row w1 w.heap.size 2 _ _ K
  have b0 := blk_setD (i := 0) (v := .int .i64 x.w) K
  have z0 := cell_of_row _ w.heap.size 0 _ _ _ b0
  have b1 := blk_setD (i := 1) (v := .int .i64 x.c) b0
  have z1 := cell_of_row _ w.heap.size 1 _ _ _ b1
  have b2 := blk_setD (i := 2) (v := .int .i64 x.r) b1
  have z2 := cell_of_row _ w.heap.size 2 _ _ _ b2
  simp at q0' q1' q2' z0 z1 z2
  have Z0 := Lib.hid z0
  have Z1 := Lib.hid z1
  have Z2 := Lib.hid z2
  clear b0 b1 b2 z0 z1 z2 K
  have HB0 := Lib.hid (((Below.refl w.heap.size w).alloc (Nat.le_refl _) (.cells #[.int .i64 0, .int .i64 0, .int .i64 0] 26)).trans (HB.out.mono (by simp)))
  go_wp2
  refine bodyPost_ret (v := .tuple #[v, .agg #[.int .i64 x.w, .int .i64 x.c, .int .i64 x.r]]) (by simp [results, Try.results25, go_sem, Z0.out, Z1.out, Z2.out]) rfl ?_
  refine ⟨v, l, x, rfl, ?_, hl, HWF.out, ((HB0.out.setCell (Nat.le_refl _) _).setCell (Nat.le_refl _) _).setCell (Nat.le_refl _) _, HBL.out⟩
  have GG := grown_trans (grown_trans (row := some w.heap.size) (grown_setCell w1 w.heap.size 0 (.int .i64 x.w)) (grown_setCell _ w.heap.size 1 (.int .i64 x.c))) (grown_setCell _ w.heap.size 2 (.int .i64 x.r))
  exact rs_grownC HR.out GG (fun j hj => by have := HBL.out j hj; omega)
end Go.Proofs.Ytdnmmafnjhgeiaa
