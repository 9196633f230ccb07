/- What the laws on sags draw: a rope. Condition: sizes. -/
import Derived.Test.YtmmjbdffpgohdaaDrawLine
import Derived.Test.YtmmjbdffpgohdaaDrawBase
import Derived.Test.YtmmjbdffpgohdaaBig
import Derived.Test.YtmmjbdffpgohdaaRpS
import Derived.Deep.Heap
namespace Go.Proofs.Ytmmjbdffpgohdaa
open Go.RowKit
set_option linter.unusedVariables false
/-- What drawing a rope leaves. -/
def RoPost (B b k : Nat) (w : World) (e : Ending) (w' : World) : Prop := ∃ r : Rp, e = .returned (.agg #[.int .i64 r.w, .int .i64 r.p]) ∧ Cur B b (k + 4) w' ∧ w.grownBy w' (some b)
set_option maxRecDepth 100000 in
set_option maxHeartbeats 2000000 in
theorem rope_any (B b k : Nat) (w : World) (h : Cur B b k w) (hk : k ≤ 800000000) :
    Calls Try.prog 56 #[.pointer (some ⟨b, 0, none⟩)] w (RoPost B b k w) := by
  have HH := Lib.hid h
  have hb := h.2.1
  clear h
  go_enter Try.func56, Try.ntmps56
  go_wp2_with fail
  refine (among_any B b k (w.heap.size + 1) 9 9 [1, 20, 50, 100, 200, 0, 201, 30, 60] _ ((HH.out.alloc _).alloc _) (by omega) rfl (by omega) (by omega) (by omega) (num_cells1 _ 3 [1, 20, 50, 100, 200, 0, 201, 30, 60] _ rfl _ (aszD _ _))).mono ?_
  rintro e w1 ⟨x, _, rfl, hc, hg⟩
  have K1 := (hg.block w.heap.size (by simp; omega) (fun e => by cases e; omega)).trans (old_allocD (o' := .cells #[.int .i64 1, .int .i64 20, .int .i64 50, .int .i64 100, .int .i64 200, .int .i64 0, .int .i64 201, .int .i64 30, .int .i64 60] 3) (heap_alloc_new w (.cells #[.int .i64 0, .int .i64 0] 26)))
  have G1 := Lib.hid (grown_trans (grown_trans (World.grownBy_alloc w (.cells #[.int .i64 0, .int .i64 0] 26) (some b)) (World.grownBy_alloc _ (.cells #[.int .i64 1, .int .i64 20, .int .i64 50, .int .i64 100, .int .i64 200, .int .i64 0, .int .i64 201, .int .i64 30, .int .i64 60] 3) (some b))) hg)
  have HC1 := Lib.hid hc
  have hs1 := hg.size
  simp at hs1
  have HK1 := Lib.hid K1
  clear K1 hc hg
  go_wp2_with fail
  refine (among_any B b (k + 2) w1.heap.size 10 10 [1, 1000, 5000, 20000, 50000, 100000, 0, 100001, 3000, 7000] _ (HC1.out.alloc _) (by omega) rfl (by omega) (by omega) (by omega) (num_cells w1 3 [1, 1000, 5000, 20000, 50000, 100000, 0, 100001, 3000, 7000] _ rfl)).mono ?_
  rintro e w2 ⟨y, _, rfl, hc, hg⟩
  have K2 := (hg.block w.heap.size (by simp; omega) (fun e => by cases e; omega)).trans (old_allocD (o' := .cells #[.int .i64 1, .int .i64 1000, .int .i64 5000, .int .i64 20000, .int .i64 50000, .int .i64 100000, .int .i64 0, .int .i64 100001, .int .i64 3000, .int .i64 7000] 3) HK1.out)
  have G2 := Lib.hid (grown_trans (grown_trans G1.out (World.grownBy_alloc _ (.cells #[.int .i64 1, .int .i64 1000, .int .i64 5000, .int .i64 20000, .int .i64 50000, .int .i64 100000, .int .i64 0, .int .i64 100001, .int .i64 3000, .int .i64 7000] 3) (some b))) hg)
  have HC2 := Lib.hid hc
  clear hc hg HK1 G1 HC1
  have q0 := cell_of_row w2 w.heap.size 0 _ _ _ K2
  have q1 := cell_of_row w2 w.heap.size 1 _ _ _ K2
  have m0 := frozen_of_row w2 w.heap.size 0 _ _ K2
  have m1 := frozen_of_row w2 w.heap.size 1 _ _ K2
  have b0 := blk_setD (i := 0) (v := .int .i64 x) K2
  have z0 := cell_of_row _ w.heap.size 0 _ _ _ b0
  have b1 := blk_setD (i := 1) (v := .int .i64 y) b0
  have z1 := cell_of_row _ w.heap.size 1 _ _ _ b1
  simp at q0 q1 z0 z1
  have Z0 := Lib.hid z0
  have Z1 := Lib.hid z1
  clear b0 b1 z0 z1 K2
  go_wp2
  have GG := grown_trans (row := some w.heap.size) (grown_setCell w2 w.heap.size 0 (.int .i64 x)) (grown_setCell _ w.heap.size 1 (.int .i64 y))
  refine bodyPost_ret (v := .agg #[.int .i64 x, .int .i64 y]) (by simp [results, Try.results56, go_sem, Z0.out, Z1.out]) rfl ⟨⟨x, y⟩, rfl, ?_, ?_⟩
  · exact (HC2.out.grown GG (fun j hj => by cases hj; exact hb)).mono (by omega)
  · exact grown_past G2.out GG (Nat.le_refl _)
end Go.Proofs.Ytmmjbdffpgohdaa
