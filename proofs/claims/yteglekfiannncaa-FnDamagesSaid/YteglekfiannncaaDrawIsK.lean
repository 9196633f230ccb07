/- A drawn kind alone. Condition: sizes. -/
import Derived.Test.YteglekfiannncaaDrawDamB
namespace Go.Proofs.Yteglekfiannncaa
open Go.RowKit
set_option linter.unusedVariables false
set_option maxRecDepth 100000 in
set_option maxHeartbeats 4000000 in
theorem DrawIsRopeKind_any (a : Option Addr) (len cap : Nat) (w : World) (h : ByteRow w a len) :
    Calls Try.prog 53 #[.slice a len cap] w (K1Post w) := by
  have h1 := h.below ((Below.refl _ _).alloc (Nat.le_refl _) (.cells #[.int .i64 0, .int .i64 0, .int .i64 0, .int .i64 0, .int .i64 0] 47))
  have C0 := Lib.hid (cur_at (cap := cap) h1 104 (n := w.heap.size + 1) (by simp))
  have K0 := Lib.hid (old_allocD (o' := .cells #[.slice a len cap, .int .i64 0, .int .u64 0] 104) (heap_alloc_new w (.cells #[.int .i64 0, .int .i64 0, .int .i64 0, .int .i64 0, .int .i64 0] 47)))
  have B0 := Lib.hid (((Below.refl w.heap.size w).alloc (Nat.le_refl _) (.cells #[.int .i64 0, .int .i64 0, .int .i64 0, .int .i64 0, .int .i64 0] 47)).alloc (by simp; try omega) (.cells #[.slice a len cap, .int .i64 0, .int .u64 0] 104))
  have hz : ((w.alloc (.cells #[.int .i64 0, .int .i64 0, .int .i64 0, .int .i64 0, .int .i64 0] 47)).alloc (.cells #[.slice a len cap, .int .i64 0, .int .u64 0] 104)).heap.size = w.heap.size + 2 := by simp
  clear h h1
  go_enter Try.func53, Try.ntmps53
  go_upto_region 2 with fail
  generalize hw0 : (w.alloc (.cells #[.int .i64 0, .int .i64 0, .int .i64 0, .int .i64 0, .int .i64 0] 47)).alloc (.cells #[.slice a len cap, .int .i64 0, .int .u64 0] 104) = w0 at *
  clear hw0
  have hb0 := B0.out.size
  go_wp2_with fail
  refine (among_any _ _ 0 (w.heap.size + 2) 3 3 [1, 7, 20] _ (C0.out.alloc _) (by omega) rfl (by omega) (by omega) (by omega) (num_cells1 w0 3 [1, 7, 20] _ rfl _ hz.symm)).mono ?_
  rintro e w1 ⟨id, _, rfl, hc, hg⟩
  have K1 := Lib.hid (keepD hg (by omega) (old_allocD (o' := .cells #[.int .i64 1, .int .i64 7, .int .i64 20] 3) K0.out))
  have G1 := Lib.hid (grown_trans (World.grownBy_alloc w0 (.cells #[.int .i64 1, .int .i64 7, .int .i64 20] 3) (some (w.heap.size + 1))) hg)
  have C1 := Lib.hid hc
  clear hc hg
  go_wp2_with fail
  refine (ropeKind_any _ _ (0 + 2) id w1 C1.out (by omega)).mono ?_
  rintro e w2 ⟨x, rfl, hx, hc, hg⟩
  have K2 := keepD hg (by omega) K1.out
  have G2 := Lib.hid (grown_trans G1.out hg)
  have BB := Lib.hid (B0.out.trans (grown_below G2.out (by omega) (fun k hk => by cases hk; omega)))
  have c0 := cell_of_row w2 w.heap.size 0 _ _ _ K2
  have c1 := cell_of_row w2 w.heap.size 1 _ _ _ K2
  have c2 := cell_of_row w2 w.heap.size 2 _ _ _ K2
  have c3 := cell_of_row w2 w.heap.size 3 _ _ _ K2
  have c4 := cell_of_row w2 w.heap.size 4 _ _ _ K2
  have d0 := frozen_of_row w2 w.heap.size 0 _ _ K2
  have d1 := frozen_of_row w2 w.heap.size 1 _ _ K2
  have d2 := frozen_of_row w2 w.heap.size 2 _ _ K2
  have d3 := frozen_of_row w2 w.heap.size 3 _ _ K2
  have d4 := frozen_of_row w2 w.heap.size 4 _ _ K2
  have s0 := blk_setD (i := 0) (v := .int .i64 x.i) K2
  have z0 := cell_of_row _ w.heap.size 0 _ _ _ s0
  have s1 := blk_setD (i := 1) (v := .int .i64 x.s) s0
  have z1 := cell_of_row _ w.heap.size 1 _ _ _ s1
  have s2 := blk_setD (i := 2) (v := .int .i64 x.w) s1
  have z2 := cell_of_row _ w.heap.size 2 _ _ _ s2
  have s3 := blk_setD (i := 3) (v := .int .i64 x.g) s2
  have z3 := cell_of_row _ w.heap.size 3 _ _ _ s3
  have s4 := blk_setD (i := 4) (v := .int .i64 x.p) s3
  have z4 := cell_of_row _ w.heap.size 4 _ _ _ s4
  simp at c0 c1 c2 c3 c4 z0 z1 z2 z3 z4
  have Z0 := Lib.hid z0
  have Z1 := Lib.hid z1
  have Z2 := Lib.hid z2
  have Z3 := Lib.hid z3
  have Z4 := Lib.hid z4
  clear z0 z1 z2 z3 z4
  clear K2 s0 s1 s2 s3 s4 hc hg
  unfold RK.agg
  go_wp2
  refine bodyPost_ret (v := .agg #[.int .i64 x.i, .int .i64 x.s, .int .i64 x.w, .int .i64 x.g, .int .i64 x.p]) (by simp [results, Try.results53, go_sem, Z0.out, Z1.out, Z2.out, Z3.out, Z4.out]) rfl ⟨x, rfl, ?_⟩
  exact ((((BB.out.setCell (Nat.le_refl _) _).setCell (Nat.le_refl _) _).setCell (Nat.le_refl _) _).setCell (Nat.le_refl _) _).setCell (Nat.le_refl _) _
end Go.Proofs.Yteglekfiannncaa
