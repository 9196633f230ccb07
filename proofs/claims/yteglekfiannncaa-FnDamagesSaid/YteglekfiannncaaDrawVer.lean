/- A drawn verdict's kind and damages. Condition: sizes. -/
import Derived.Test.YteglekfiannncaaDrawAreD
namespace Go.Proofs.Yteglekfiannncaa
open Go.RowKit
set_option linter.unusedVariables false
set_option maxRecDepth 100000 in
set_option maxHeartbeats 4000000 in
theorem DrawRopeVerdict_any (a : Option Addr) (len cap : Nat) (w : World) (h : ByteRow w a len) :
    Calls Try.prog 48 #[.slice a len cap] w (K2Post w) := by
  have h1 := Lib.hid (h.below ((Below.refl w.heap.size w).alloc (Nat.le_refl _) (.cells #[.int .i64 0, .int .i64 0, .int .i64 0, .int .i64 0, .int .i64 0] 47)))
  have B0 := Lib.hid ((Below.refl w.heap.size w).alloc (Nat.le_refl _) (.cells #[.int .i64 0, .int .i64 0, .int .i64 0, .int .i64 0, .int .i64 0] 47))
  have K0 := Lib.hid (heap_alloc_new w (.cells #[.int .i64 0, .int .i64 0, .int .i64 0, .int .i64 0, .int .i64 0] 47))
  have hz : (w.alloc (.cells #[.int .i64 0, .int .i64 0, .int .i64 0, .int .i64 0, .int .i64 0] 47)).heap.size = w.heap.size + 1 := by simp
  clear h
  go_enter Try.func48, Try.ntmps48
  go_upto_region 1 with fail
  generalize hw0 : w.alloc (.cells #[.int .i64 0, .int .i64 0, .int .i64 0, .int .i64 0, .int .i64 0] 47) = w0 at *
  clear hw0
  go_wp2_with fail
  refine (DrawAreDamages_any a len cap w0 h1.out).mono ?_
  rintro e w3 ⟨x, v, l, rfl, hr, hl, hbk, hb⟩
  have hsz := hb.size
  have HRs := Lib.hid hr
  have K3 : w3.heap[w.heap.size]? = some (.cells #[.int .i64 0, .int .i64 0, .int .i64 0, .int .i64 0, .int .i64 0] 47 (0, 0)) := (hb.block w.heap.size (by omega)).trans K0.out
  have BB := Lib.hid (B0.out.trans (hb.mono (by omega)))
  have c0 := cell_of_row w3 w.heap.size 0 _ _ _ K3
  have c1 := cell_of_row w3 w.heap.size 1 _ _ _ K3
  have c2 := cell_of_row w3 w.heap.size 2 _ _ _ K3
  have c3 := cell_of_row w3 w.heap.size 3 _ _ _ K3
  have c4 := cell_of_row w3 w.heap.size 4 _ _ _ K3
  have d0 := frozen_of_row w3 w.heap.size 0 _ _ K3
  have d1 := frozen_of_row w3 w.heap.size 1 _ _ K3
  have d2 := frozen_of_row w3 w.heap.size 2 _ _ K3
  have d3 := frozen_of_row w3 w.heap.size 3 _ _ K3
  have d4 := frozen_of_row w3 w.heap.size 4 _ _ K3
  have s0 := blk_setD (i := 0) (v := .int .i64 x.i) K3
  have z0 := cell_of_row _ w.heap.size 0 _ _ _ s0
  have s1 := blk_setD (i := 1) (v := .int .i64 x.s) s0
  have z1 := cell_of_row _ w.heap.size 1 _ _ _ s1
  have s2 := blk_setD (i := 2) (v := .int .i64 x.w) s1
  have z2 := cell_of_row _ w.heap.size 2 _ _ _ s2
  have s3 := blk_setD (i := 3) (v := .int .i64 x.g) s2
  have z3 := cell_of_row _ w.heap.size 3 _ _ _ s3
  have s4 := blk_setD (i := 4) (v := .int .i64 x.p) s3
  have z4 := cell_of_row _ w.heap.size 4 _ _ _ s4
  simp at c0 c1 c2 c3 c4 z0 z1 z2 z3 z4
  have Z0 := Lib.hid z0
  have Z1 := Lib.hid z1
  have Z2 := Lib.hid z2
  have Z3 := Lib.hid z3
  have Z4 := Lib.hid z4
  clear z0 z1 z2 z3 z4 s0 s1 s2 s3 s4
  have GA := Lib.hid (grown_trans (grown_trans (grown_trans (grown_trans (grown_setCell w3 w.heap.size 0 (.int .i64 x.i)) (grown_setCell _ w.heap.size 1 (.int .i64 x.s))) (grown_setCell _ w.heap.size 2 (.int .i64 x.w))) (grown_setCell _ w.heap.size 3 (.int .i64 x.g))) (grown_setCell _ w.heap.size 4 (.int .i64 x.p)))
  clear K3 hr
  unfold RK.agg
  go_wp2
  refine bodyPost_ret (v := .tuple #[.agg #[.int .i64 x.i, .int .i64 x.s, .int .i64 x.w, .int .i64 x.g, .int .i64 x.p], v]) (by simp [results, Try.results48, go_sem, Z0.out, Z1.out, Z2.out, Z3.out, Z4.out]) rfl ⟨x, v, l, rfl, ?_, hl, fun j hj => by have := hbk j hj; omega, ?_⟩
  · exact rs_grownD HRs.out GA.out (fun j hj => by have := hbk j hj; omega)
  · exact ((((BB.out.setCell (Nat.le_refl _) _).setCell (Nat.le_refl _) _).setCell (Nat.le_refl _) _).setCell (Nat.le_refl _) _).setCell (Nat.le_refl _) _
end Go.Proofs.Yteglekfiannncaa
