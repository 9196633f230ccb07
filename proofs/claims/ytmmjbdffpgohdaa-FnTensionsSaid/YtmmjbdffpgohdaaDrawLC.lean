/- The drawn load case. Condition: sizes. -/
import Derived.Test.YtmmjbdffpgohdaaDrawLine
import Derived.Test.YtmmjbdffpgohdaaDrawBase
import Derived.Test.YtmmjbdffpgohdaaBig
import Derived.Test.YtmmjbdffpgohdaaLCS
import Derived.Deep.Heap
namespace Go.Proofs.Ytmmjbdffpgohdaa
open Go.RowKit
set_option linter.unusedVariables false
/-- What drawing a load case leaves. -/
def LcPost (B b k : Nat) (w : World) (e : Ending) (w' : World) : Prop := ∃ x : LC, e = .returned (.agg #[.int .i64 x.w, .int .i64 x.c, .int .i64 x.r]) ∧ x.wf ∧ Cur B b (k + 6) w' ∧ w.grownBy w' (some b)
set_option maxRecDepth 100000 in
set_option maxHeartbeats 4000000 in
theorem loadCase_any (B b k : Nat) (w : World) (h : Cur B b k w) (hk : k ≤ 800000000) :
    Calls Try.prog 80 #[.pointer (some ⟨b, 0, none⟩)] w (LcPost B b k w) := by
  have HH := Lib.hid h
  have hb := h.2.1
  clear h
  go_enter Try.func80, Try.ntmps80
  go_wp2_with fail
  refine (among_any B b k (w.heap.size + 1) 9 9 [1, 20, 50, 100, 300, 1000, 0, 1001, 60] _ ((HH.out.alloc _).alloc _) (by omega) rfl (by omega) (by omega) (by omega) (num_cells1 _ 3 [1, 20, 50, 100, 300, 1000, 0, 1001, 60] _ rfl _ (aszD _ _))).mono ?_
  rintro e w1 ⟨x, hx1, rfl, hc, hg⟩
  have bb1 : -1 ≤ x ∧ x ≤ 1000001 := by simp at hx1; omega
  have K1 := Lib.hid ((hg.block w.heap.size (by simp; omega) (fun e => by have := Option.some.inj e; omega)).trans (old_allocD (o' := .cells #[.int .i64 1, .int .i64 20, .int .i64 50, .int .i64 100, .int .i64 300, .int .i64 1000, .int .i64 0, .int .i64 1001, .int .i64 60] 3) (heap_alloc_new w (.cells #[.int .i64 0, .int .i64 0, .int .i64 0] 44))))
  have G1 := Lib.hid (grown_trans (grown_trans (World.grownBy_alloc w (.cells #[.int .i64 0, .int .i64 0, .int .i64 0] 44) (some b)) (World.grownBy_alloc _ (.cells #[.int .i64 1, .int .i64 20, .int .i64 50, .int .i64 100, .int .i64 300, .int .i64 1000, .int .i64 0, .int .i64 1001, .int .i64 60] 3) (some b))) hg)
  have C1 := Lib.hid hc
  have hs1 := hg.size
  simp at hs1
  clear hc hg hx1
  go_wp2_with fail
  refine (among_any B b (k + 2) w1.heap.size 10 10 [1, 100, 5000, 20000, 100000, 1000000, 0, 1000001, 40000, 300000] _ (C1.out.alloc _) (by omega) rfl (by omega) (by omega) (by omega) (num_cells w1 3 [1, 100, 5000, 20000, 100000, 1000000, 0, 1000001, 40000, 300000] _ rfl)).mono ?_
  rintro e w2 ⟨y, hx2, rfl, hc, hg⟩
  have bb2 : -1 ≤ y ∧ y ≤ 1000001 := by simp at hx2; omega
  have K2 := Lib.hid ((hg.block w.heap.size (by simp; omega) (fun e => by have := Option.some.inj e; omega)).trans (old_allocD (o' := .cells #[.int .i64 1, .int .i64 100, .int .i64 5000, .int .i64 20000, .int .i64 100000, .int .i64 1000000, .int .i64 0, .int .i64 1000001, .int .i64 40000, .int .i64 300000] 3) K1.out))
  have G2 := Lib.hid (grown_trans (grown_trans G1.out (World.grownBy_alloc _ (.cells #[.int .i64 1, .int .i64 100, .int .i64 5000, .int .i64 20000, .int .i64 100000, .int .i64 1000000, .int .i64 0, .int .i64 1000001, .int .i64 40000, .int .i64 300000] 3) (some b))) hg)
  have C2 := Lib.hid hc
  have hs2 := hg.size
  simp at hs2
  clear hc hg hx2
  go_wp2_with fail
  refine (among_any B b (k + 2 + 2) w2.heap.size 9 9 [0, 0, 10, 100, 500, 1000, -1, 1001, 200] _ (C2.out.alloc _) (by omega) rfl (by omega) (by omega) (by omega) (num_cells w2 3 [0, 0, 10, 100, 500, 1000, -1, 1001, 200] _ rfl)).mono ?_
  rintro e w3 ⟨z, hx3, rfl, hc, hg⟩
  have bb3 : -1 ≤ z ∧ z ≤ 1000001 := by simp at hx3; omega
  have K3 := Lib.hid ((hg.block w.heap.size (by simp; omega) (fun e => by have := Option.some.inj e; omega)).trans (old_allocD (o' := .cells #[.int .i64 0, .int .i64 0, .int .i64 10, .int .i64 100, .int .i64 500, .int .i64 1000, .int .i64 (-1), .int .i64 1001, .int .i64 200] 3) K2.out))
  have G3 := Lib.hid (grown_trans (grown_trans G2.out (World.grownBy_alloc _ (.cells #[.int .i64 0, .int .i64 0, .int .i64 10, .int .i64 100, .int .i64 500, .int .i64 1000, .int .i64 (-1), .int .i64 1001, .int .i64 200] 3) (some b))) hg)
  have C3 := Lib.hid hc
  have hs3 := hg.size
  simp at hs3
  clear hc hg hx3
  have K := K3.out
  have q0 := cell_of_row w3 w.heap.size 0 _ _ _ K
  have m0 := frozen_of_row w3 w.heap.size 0 _ _ K
  have q1 := cell_of_row w3 w.heap.size 1 _ _ _ K
  have m1 := frozen_of_row w3 w.heap.size 1 _ _ K
  have q2 := cell_of_row w3 w.heap.size 2 _ _ _ K
  have m2 := frozen_of_row w3 w.heap.size 2 _ _ K
  have b0 := blk_setD (i := 0) (v := .int .i64 x) K
  have z0 := cell_of_row _ w.heap.size 0 _ _ _ b0
  have b1 := blk_setD (i := 1) (v := .int .i64 y) b0
  have z1 := cell_of_row _ w.heap.size 1 _ _ _ b1
  have b2 := blk_setD (i := 2) (v := .int .i64 z) b1
  have z2 := cell_of_row _ w.heap.size 2 _ _ _ b2
  simp at q0 q1 q2 z0 z1 z2
  have Z0 := Lib.hid z0
  have Z1 := Lib.hid z1
  have Z2 := Lib.hid z2
  clear b0 b1 b2 z0 z1 z2 K K1 K2 K3
  go_wp2
  have GG := grown_trans (grown_trans (row := some w.heap.size) (grown_setCell w3 w.heap.size 0 (.int .i64 x)) (grown_setCell _ w.heap.size 1 (.int .i64 y))) (grown_setCell _ w.heap.size 2 (.int .i64 z))
  refine bodyPost_ret (v := .agg #[.int .i64 x, .int .i64 y, .int .i64 z]) (by simp [results, Try.results80, go_sem, Z0.out, Z1.out, Z2.out]) rfl ⟨⟨x, y, z⟩, rfl, ?_, ?_, ?_⟩
  · exact ⟨WalkArith.wf_i64 (n := x) (by omega), WalkArith.wf_i64 (n := y) (by omega), WalkArith.wf_i64 (n := z) (by omega)⟩
  · exact (C3.out.grown GG (fun j hj => by cases hj; exact hb)).mono (by omega)
  · exact grown_past G3.out GG (Nat.le_refl _)
end Go.Proofs.Ytmmjbdffpgohdaa
