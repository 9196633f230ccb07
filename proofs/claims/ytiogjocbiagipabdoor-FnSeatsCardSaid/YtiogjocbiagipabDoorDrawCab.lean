/- The drawn cabin. Condition: sizes. -/
import Derived.Test.YtiogjocbiagipabDoorDrawBase
import Derived.Test.YtiogjocbiagipabDoorCabS
import Derived.Deep.DeepCutAuto
namespace Go.Proofs.YtiogjocbiagipabDoor
open Go.RowKit
set_option linter.unusedVariables false
/-- A drawn cabin's numbers. -/
def CabB (x : Cab) : Prop := (-10 ≤ x.i ∧ x.i ≤ 200) ∧ (0 ≤ x.s ∧ x.s ≤ 17) ∧ (99 ≤ x.w ∧ x.w ≤ 2001) ∧ (-1 ≤ x.g ∧ x.g ≤ 4) ∧ (-1 ≤ x.p ∧ x.p ≤ 100000)
/-- What drawing a cabin leaves. -/
def CbPost (B b k : Nat) (w : World) (e : Ending) (w' : World) : Prop := ∃ x : Cab, e = .returned x.agg ∧ CabB x ∧ Cur B b (k + 20) w' ∧ w.grownBy w' (some b)
set_option maxRecDepth 100000 in
set_option maxHeartbeats 8000000 in
theorem cabin_any (B b k : Nat) (id : Int) (w : World) (h : Cur B b k w) (hk : k ≤ 800000000) (hid : -10 ≤ id ∧ id ≤ 200) :
    Calls Tryd.prog 63 #[.pointer (some ⟨b, 0, none⟩), .int .i64 id] w (CbPost B b k w) := by
  have HH := Lib.hid h
  have hb := h.2.1
  clear h
  go_enter Tryd.func63, Tryd.ntmps63
  go_wp2_with fail
  refine (among_any B b k (w.heap.size + 1) 5 5 [1, 4, 8, 8, 16] _ ((HH.out.alloc _).alloc _) (by omega) rfl (by omega) (by omega) (by omega) (num_cells1 _ 3 [1, 4, 8, 8, 16] _ rfl _ (aszD _ _))).mono ?_
  rintro e w1 ⟨xs, hx0, rfl, hc, hg⟩
  have hsb : 1 ≤ xs ∧ xs ≤ 16 := by simp at hx0; omega
  have K1 := Lib.hid ((hg.block w.heap.size (by simp; omega) (fun e => by have := Option.some.inj e; omega)).trans (old_allocD (o' := .cells #[.int .i64 1, .int .i64 4, .int .i64 8, .int .i64 8, .int .i64 16] 3) (heap_alloc_new w (.cells #[.int .i64 0, .int .i64 0, .int .i64 0, .int .i64 0, .int .i64 0] 34))))
  have G1 := Lib.hid (grown_trans (grown_trans (World.grownBy_alloc w (.cells #[.int .i64 0, .int .i64 0, .int .i64 0, .int .i64 0, .int .i64 0] 34) (some b)) (World.grownBy_alloc _ (.cells #[.int .i64 1, .int .i64 4, .int .i64 8, .int .i64 8, .int .i64 16] 3) (some b))) hg)
  have C1 := Lib.hid hc
  have hz1 := hg.size
  simp at hz1
  clear hc hg hx0
  go_wp2_with fail
  refine (among_any B b (k + 2) w1.heap.size 3 3 [100, 450, 2000] _ (C1.out.alloc _) (by omega) rfl (by omega) (by omega) (by omega) (num_cells w1 3 [100, 450, 2000] _ rfl)).mono ?_
  rintro e w2 ⟨xw, hx2, rfl, hc, hg⟩
  have hb2 : 100 ≤ xw ∧ xw ≤ 2000 := by simp at hx2; omega
  have K2 := Lib.hid ((hg.block w.heap.size (by simp; omega) (fun e => by have := Option.some.inj e; omega)).trans (old_allocD (o' := .cells #[.int .i64 100, .int .i64 450, .int .i64 2000] 3) K1.out))
  have G2 := Lib.hid (grown_trans (grown_trans G1.out (World.grownBy_alloc _ (.cells #[.int .i64 100, .int .i64 450, .int .i64 2000] 3) (some b))) hg)
  have C2 := Lib.hid hc
  have hz2 := hg.size
  simp at hz2
  clear hc hg hx2
  go_wp2_with fail
  refine (among_any B b (k + 2 + 2) w2.heap.size 7 7 [0, 0, 0, 1, 1, 2, 3] _ (C2.out.alloc _) (by omega) rfl (by omega) (by omega) (by omega) (num_cells w2 3 [0, 0, 0, 1, 1, 2, 3] _ rfl)).mono ?_
  rintro e w3 ⟨xg, hx3, rfl, hc, hg⟩
  have hb3 : 0 ≤ xg ∧ xg ≤ 3 := by simp at hx3; omega
  have K3 := Lib.hid ((hg.block w.heap.size (by simp; omega) (fun e => by have := Option.some.inj e; omega)).trans (old_allocD (o' := .cells #[.int .i64 0, .int .i64 0, .int .i64 0, .int .i64 1, .int .i64 1, .int .i64 2, .int .i64 3] 3) K2.out))
  have G3 := Lib.hid (grown_trans (grown_trans G2.out (World.grownBy_alloc _ (.cells #[.int .i64 0, .int .i64 0, .int .i64 0, .int .i64 1, .int .i64 1, .int .i64 2, .int .i64 3] 3) (some b))) hg)
  have C3 := Lib.hid hc
  have hz3 := hg.size
  simp at hz3
  clear hc hg hx3
  go_wp2_with fail
  refine (among_any B b (k + 2 + 2 + 2) w3.heap.size 5 5 [0, 5, 5, 900, 99999] _ (C3.out.alloc _) (by omega) rfl (by omega) (by omega) (by omega) (num_cells w3 3 [0, 5, 5, 900, 99999] _ rfl)).mono ?_
  rintro e w4 ⟨xp, hx4, rfl, hc, hg⟩
  have hb4 : 0 ≤ xp ∧ xp ≤ 99999 := by simp at hx4; omega
  have K4 := Lib.hid ((hg.block w.heap.size (by simp; omega) (fun e => by have := Option.some.inj e; omega)).trans (old_allocD (o' := .cells #[.int .i64 0, .int .i64 5, .int .i64 5, .int .i64 900, .int .i64 99999] 3) K3.out))
  have G4 := Lib.hid (grown_trans (grown_trans G3.out (World.grownBy_alloc _ (.cells #[.int .i64 0, .int .i64 5, .int .i64 5, .int .i64 900, .int .i64 99999] 3) (some b))) hg)
  have C4 := Lib.hid hc
  have hz4 := hg.size
  simp at hz4
  clear hc hg hx4
  go_wp2_with fail
  have M4 := Lib.hid (heap_alloc_new w4 (.cells #[.int .i64 id, .int .i64 xs, .int .i64 xw, .int .i64 xg, .int .i64 xp] 34))
  have K5 := Lib.hid (old_allocD (o' := .cells #[.int .i64 id, .int .i64 xs, .int .i64 xw, .int .i64 xg, .int .i64 xp] 34) K4.out)
  have G5 := Lib.hid (grown_trans G4.out (World.grownBy_alloc w4 (.cells #[.int .i64 id, .int .i64 xs, .int .i64 xw, .int .i64 xg, .int .i64 xp] 34) (some b)))
  have C5 := Lib.hid (C4.out.alloc (.cells #[.int .i64 id, .int .i64 xs, .int .i64 xw, .int .i64 xg, .int .i64 xp] 34))
  have hz5 : (w4.alloc (.cells #[.int .i64 id, .int .i64 xs, .int .i64 xw, .int .i64 xg, .int .i64 xp] 34)).heap.size = w4.heap.size + 1 := by simp
  generalize hw5 : w4.alloc (.cells #[.int .i64 id, .int .i64 xs, .int .i64 xw, .int .i64 xg, .int .i64 xp] 34) = w5 at *
  clear hw5
  refine (pick_any B b (k + 2 + 2 + 2 + 2) 70 w5 C5.out (by omega) (by omega) (by omega)).mono ?_
  rintro e w6 ⟨r, rfl, hr, hc, hg⟩
  have K6 := Lib.hid ((hg.block w.heap.size (by omega) (fun e => by have := Option.some.inj e; omega)).trans K5.out)
  have M6 := Lib.hid ((hg.block w4.heap.size (by omega) (fun e => by have := Option.some.inj e; omega)).trans M4.out)
  have G6 := Lib.hid (grown_trans G5.out hg)
  have C6 := Lib.hid hc
  have hz6 := hg.size
  clear hc hg K1 K2 K3 K4 K5 G1 G2 G3 G4 G5 C1 C2 C3 C4 C5 M4
  have hT : w.heap.size < w4.heap.size := by omega
  have hTb : b < w4.heap.size := by omega
  by_cases e0 : r = 0
  · have t0 : ((r : Int) == 0) = true := by rw [beq_iff_eq]; omega
    go_wp2_with fail
    refine (among_any B b (k + 2 + 2 + 2 + 2 + 2) w6.heap.size 3 3 [0, 99, 100] _ (C6.out.alloc _) (by omega) rfl (by omega) (by omega) (by omega) (num_cells w6 3 [0, 99, 100] _ rfl)).mono ?_
    rintro e w7 ⟨y, hx7, rfl, hc, hg⟩
    have hb7 : 0 ≤ y ∧ y ≤ 100 := by simp at hx7; omega
    have K7 := Lib.hid ((hg.block w.heap.size (by simp; omega) (fun e => by have := Option.some.inj e; omega)).trans (old_allocD (o' := .cells #[.int .i64 0, .int .i64 99, .int .i64 100] 3) K6.out))
    have M7 := Lib.hid ((hg.block w4.heap.size (by simp; omega) (fun e => by have := Option.some.inj e; omega)).trans (old_allocD (o' := .cells #[.int .i64 0, .int .i64 99, .int .i64 100] 3) M6.out))
    have G7 := Lib.hid (grown_trans (grown_trans G6.out (World.grownBy_alloc _ (.cells #[.int .i64 0, .int .i64 99, .int .i64 100] 3) (some b))) hg)
    have C7 := Lib.hid hc
    have hz7 := hg.size
    simp at hz7
    clear hc hg hx7
    have mm := M7.out
    have q0 := cell_of_row w7 w4.heap.size 0 _ _ _ mm
    have q1 := frozen_of_row w7 w4.heap.size 0 _ _ mm
    simp at q0
    clear mm
    have M8 := Lib.hid (blk_setD (i := 0) (v := .int .i64 y) M7.out)
    have K8 : Hid ((w7.setCell ⟨w4.heap.size, 0, none⟩ (.int .i64 y)).heap[w.heap.size]? = some (.cells #[.int .i64 0, .int .i64 0, .int .i64 0, .int .i64 0, .int .i64 0] 34 (0, 0))) := Lib.hid (by simp only [World.setCell, Array.getElem?_modify]; rw [if_neg (by show ¬ w4.heap.size = w.heap.size; omega)]; exact K7.out)
    have G8 := Lib.hid (grown_past G7.out (grown_setCell w7 w4.heap.size 0 (.int .i64 y)) (by omega))
    have C8 := Lib.hid (C7.out.grown (grown_setCell w7 w4.heap.size 0 (.int .i64 y)) (fun j hj => by cases hj; omega))
    go_upto_region 13 with fail
    generalize hw8 : w7.setCell ⟨w4.heap.size, 0, none⟩ (.int .i64 y) = w8 at *
    clear hw8 q0 q1
    have kk8 := K8.out
    have mm8 := M8.out
    have a0 := cell_of_row w8 w4.heap.size 0 _ _ _ mm8
    have a1 := cell_of_row w8 w4.heap.size 1 _ _ _ mm8
    have a2 := cell_of_row w8 w4.heap.size 2 _ _ _ mm8
    have a3 := cell_of_row w8 w4.heap.size 3 _ _ _ mm8
    have a4 := cell_of_row w8 w4.heap.size 4 _ _ _ mm8
    have c0 := cell_of_row w8 w.heap.size 0 _ _ _ kk8
    have c1 := cell_of_row w8 w.heap.size 1 _ _ _ kk8
    have c2 := cell_of_row w8 w.heap.size 2 _ _ _ kk8
    have c3 := cell_of_row w8 w.heap.size 3 _ _ _ kk8
    have c4 := cell_of_row w8 w.heap.size 4 _ _ _ kk8
    have d0 := frozen_of_row w8 w.heap.size 0 _ _ kk8
    have d1 := frozen_of_row w8 w.heap.size 1 _ _ kk8
    have d2 := frozen_of_row w8 w.heap.size 2 _ _ kk8
    have d3 := frozen_of_row w8 w.heap.size 3 _ _ kk8
    have d4 := frozen_of_row w8 w.heap.size 4 _ _ kk8
    have s0 := blk_setD (i := 0) (v := .int .i64 y) kk8
    have z0 := cell_of_row _ w.heap.size 0 _ _ _ s0
    have s1 := blk_setD (i := 1) (v := .int .i64 xs) s0
    have z1 := cell_of_row _ w.heap.size 1 _ _ _ s1
    have s2 := blk_setD (i := 2) (v := .int .i64 xw) s1
    have z2 := cell_of_row _ w.heap.size 2 _ _ _ s2
    have s3 := blk_setD (i := 3) (v := .int .i64 xg) s2
    have z3 := cell_of_row _ w.heap.size 3 _ _ _ s3
    have s4 := blk_setD (i := 4) (v := .int .i64 xp) s3
    have z4 := cell_of_row _ w.heap.size 4 _ _ _ s4
    simp at a0 a1 a2 a3 a4 c0 c1 c2 c3 c4 z0 z1 z2 z3 z4
    have Z0 := Lib.hid z0
    have Z1 := Lib.hid z1
    have Z2 := Lib.hid z2
    have Z3 := Lib.hid z3
    have Z4 := Lib.hid z4
    clear kk8 mm8 s0 s1 s2 s3 s4 z0 z1 z2 z3 z4
    have GG := Lib.hid (grown_trans (grown_trans (grown_trans (grown_trans (grown_setCell w8 w.heap.size 0 (.int .i64 y)) (grown_setCell _ w.heap.size 1 (.int .i64 xs))) (grown_setCell _ w.heap.size 2 (.int .i64 xw))) (grown_setCell _ w.heap.size 3 (.int .i64 xg))) (grown_setCell _ w.heap.size 4 (.int .i64 xp)))
    go_wp2
    refine bodyPost_ret (v := .agg #[.int .i64 y, .int .i64 xs, .int .i64 xw, .int .i64 xg, .int .i64 xp]) (by simp [results, Tryd.results63, go_sem, Z0.out, Z1.out, Z2.out, Z3.out, Z4.out]) rfl ⟨⟨y, xs, xw, xg, xp⟩, rfl, by show (-10 ≤ y ∧ y ≤ 200) ∧ (0 ≤ xs ∧ xs ≤ 17) ∧ (99 ≤ xw ∧ xw ≤ 2001) ∧ (-1 ≤ xg ∧ xg ≤ 4) ∧ (-1 ≤ xp ∧ xp ≤ 100000); omega, (C8.out.grown GG.out (fun j hj => by cases hj; exact hb)).mono (by omega), grown_past G8.out GG.out (Nat.le_refl _)⟩
  · have t0 : ((r : Int) == 0) = false := by rw [beq_eq_false_iff_ne]; omega
    by_cases e1 : r = 1
    · have t1 : ((r : Int) == 1) = true := by rw [beq_iff_eq]; omega
      go_wp2_with fail
      refine (among_any B b (k + 2 + 2 + 2 + 2 + 2) w6.heap.size 2 2 [0, 17] _ (C6.out.alloc _) (by omega) rfl (by omega) (by omega) (by omega) (num_cells w6 3 [0, 17] _ rfl)).mono ?_
      rintro e w7 ⟨y, hx7, rfl, hc, hg⟩
      have hb7 : 0 ≤ y ∧ y ≤ 17 := by simp at hx7; omega
      have K7 := Lib.hid ((hg.block w.heap.size (by simp; omega) (fun e => by have := Option.some.inj e; omega)).trans (old_allocD (o' := .cells #[.int .i64 0, .int .i64 17] 3) K6.out))
      have M7 := Lib.hid ((hg.block w4.heap.size (by simp; omega) (fun e => by have := Option.some.inj e; omega)).trans (old_allocD (o' := .cells #[.int .i64 0, .int .i64 17] 3) M6.out))
      have G7 := Lib.hid (grown_trans (grown_trans G6.out (World.grownBy_alloc _ (.cells #[.int .i64 0, .int .i64 17] 3) (some b))) hg)
      have C7 := Lib.hid hc
      have hz7 := hg.size
      simp at hz7
      clear hc hg hx7
      have mm := M7.out
      have q0 := cell_of_row w7 w4.heap.size 1 _ _ _ mm
      have q1 := frozen_of_row w7 w4.heap.size 1 _ _ mm
      simp at q0
      clear mm
      have M8 := Lib.hid (blk_setD (i := 1) (v := .int .i64 y) M7.out)
      have K8 : Hid ((w7.setCell ⟨w4.heap.size, 1, none⟩ (.int .i64 y)).heap[w.heap.size]? = some (.cells #[.int .i64 0, .int .i64 0, .int .i64 0, .int .i64 0, .int .i64 0] 34 (0, 0))) := Lib.hid (by simp only [World.setCell, Array.getElem?_modify]; rw [if_neg (by show ¬ w4.heap.size = w.heap.size; omega)]; exact K7.out)
      have G8 := Lib.hid (grown_past G7.out (grown_setCell w7 w4.heap.size 1 (.int .i64 y)) (by omega))
      have C8 := Lib.hid (C7.out.grown (grown_setCell w7 w4.heap.size 1 (.int .i64 y)) (fun j hj => by cases hj; omega))
      go_upto_region 13 with fail
      generalize hw8 : w7.setCell ⟨w4.heap.size, 1, none⟩ (.int .i64 y) = w8 at *
      clear hw8 q0 q1
      have kk8 := K8.out
      have mm8 := M8.out
      have a0 := cell_of_row w8 w4.heap.size 0 _ _ _ mm8
      have a1 := cell_of_row w8 w4.heap.size 1 _ _ _ mm8
      have a2 := cell_of_row w8 w4.heap.size 2 _ _ _ mm8
      have a3 := cell_of_row w8 w4.heap.size 3 _ _ _ mm8
      have a4 := cell_of_row w8 w4.heap.size 4 _ _ _ mm8
      have c0 := cell_of_row w8 w.heap.size 0 _ _ _ kk8
      have c1 := cell_of_row w8 w.heap.size 1 _ _ _ kk8
      have c2 := cell_of_row w8 w.heap.size 2 _ _ _ kk8
      have c3 := cell_of_row w8 w.heap.size 3 _ _ _ kk8
      have c4 := cell_of_row w8 w.heap.size 4 _ _ _ kk8
      have d0 := frozen_of_row w8 w.heap.size 0 _ _ kk8
      have d1 := frozen_of_row w8 w.heap.size 1 _ _ kk8
      have d2 := frozen_of_row w8 w.heap.size 2 _ _ kk8
      have d3 := frozen_of_row w8 w.heap.size 3 _ _ kk8
      have d4 := frozen_of_row w8 w.heap.size 4 _ _ kk8
      have s0 := blk_setD (i := 0) (v := .int .i64 id) kk8
      have z0 := cell_of_row _ w.heap.size 0 _ _ _ s0
      have s1 := blk_setD (i := 1) (v := .int .i64 y) s0
      have z1 := cell_of_row _ w.heap.size 1 _ _ _ s1
      have s2 := blk_setD (i := 2) (v := .int .i64 xw) s1
      have z2 := cell_of_row _ w.heap.size 2 _ _ _ s2
      have s3 := blk_setD (i := 3) (v := .int .i64 xg) s2
      have z3 := cell_of_row _ w.heap.size 3 _ _ _ s3
      have s4 := blk_setD (i := 4) (v := .int .i64 xp) s3
      have z4 := cell_of_row _ w.heap.size 4 _ _ _ s4
      simp at a0 a1 a2 a3 a4 c0 c1 c2 c3 c4 z0 z1 z2 z3 z4
      have Z0 := Lib.hid z0
      have Z1 := Lib.hid z1
      have Z2 := Lib.hid z2
      have Z3 := Lib.hid z3
      have Z4 := Lib.hid z4
      clear kk8 mm8 s0 s1 s2 s3 s4 z0 z1 z2 z3 z4
      have GG := Lib.hid (grown_trans (grown_trans (grown_trans (grown_trans (grown_setCell w8 w.heap.size 0 (.int .i64 id)) (grown_setCell _ w.heap.size 1 (.int .i64 y))) (grown_setCell _ w.heap.size 2 (.int .i64 xw))) (grown_setCell _ w.heap.size 3 (.int .i64 xg))) (grown_setCell _ w.heap.size 4 (.int .i64 xp)))
      go_wp2
      refine bodyPost_ret (v := .agg #[.int .i64 id, .int .i64 y, .int .i64 xw, .int .i64 xg, .int .i64 xp]) (by simp [results, Tryd.results63, go_sem, Z0.out, Z1.out, Z2.out, Z3.out, Z4.out]) rfl ⟨⟨id, y, xw, xg, xp⟩, rfl, by show (-10 ≤ id ∧ id ≤ 200) ∧ (0 ≤ y ∧ y ≤ 17) ∧ (99 ≤ xw ∧ xw ≤ 2001) ∧ (-1 ≤ xg ∧ xg ≤ 4) ∧ (-1 ≤ xp ∧ xp ≤ 100000); omega, (C8.out.grown GG.out (fun j hj => by cases hj; exact hb)).mono (by omega), grown_past G8.out GG.out (Nat.le_refl _)⟩
    · have t1 : ((r : Int) == 1) = false := by rw [beq_eq_false_iff_ne]; omega
      by_cases e2 : r = 2
      · have t2 : ((r : Int) == 2) = true := by rw [beq_iff_eq]; omega
        go_wp2_with fail
        refine (among_any B b (k + 2 + 2 + 2 + 2 + 2) w6.heap.size 2 2 [99, 2001] _ (C6.out.alloc _) (by omega) rfl (by omega) (by omega) (by omega) (num_cells w6 3 [99, 2001] _ rfl)).mono ?_
        rintro e w7 ⟨y, hx7, rfl, hc, hg⟩
        have hb7 : 99 ≤ y ∧ y ≤ 2001 := by simp at hx7; omega
        have K7 := Lib.hid ((hg.block w.heap.size (by simp; omega) (fun e => by have := Option.some.inj e; omega)).trans (old_allocD (o' := .cells #[.int .i64 99, .int .i64 2001] 3) K6.out))
        have M7 := Lib.hid ((hg.block w4.heap.size (by simp; omega) (fun e => by have := Option.some.inj e; omega)).trans (old_allocD (o' := .cells #[.int .i64 99, .int .i64 2001] 3) M6.out))
        have G7 := Lib.hid (grown_trans (grown_trans G6.out (World.grownBy_alloc _ (.cells #[.int .i64 99, .int .i64 2001] 3) (some b))) hg)
        have C7 := Lib.hid hc
        have hz7 := hg.size
        simp at hz7
        clear hc hg hx7
        have mm := M7.out
        have q0 := cell_of_row w7 w4.heap.size 2 _ _ _ mm
        have q1 := frozen_of_row w7 w4.heap.size 2 _ _ mm
        simp at q0
        clear mm
        have M8 := Lib.hid (blk_setD (i := 2) (v := .int .i64 y) M7.out)
        have K8 : Hid ((w7.setCell ⟨w4.heap.size, 2, none⟩ (.int .i64 y)).heap[w.heap.size]? = some (.cells #[.int .i64 0, .int .i64 0, .int .i64 0, .int .i64 0, .int .i64 0] 34 (0, 0))) := Lib.hid (by simp only [World.setCell, Array.getElem?_modify]; rw [if_neg (by show ¬ w4.heap.size = w.heap.size; omega)]; exact K7.out)
        have G8 := Lib.hid (grown_past G7.out (grown_setCell w7 w4.heap.size 2 (.int .i64 y)) (by omega))
        have C8 := Lib.hid (C7.out.grown (grown_setCell w7 w4.heap.size 2 (.int .i64 y)) (fun j hj => by cases hj; omega))
        go_upto_region 13 with fail
        generalize hw8 : w7.setCell ⟨w4.heap.size, 2, none⟩ (.int .i64 y) = w8 at *
        clear hw8 q0 q1
        have kk8 := K8.out
        have mm8 := M8.out
        have a0 := cell_of_row w8 w4.heap.size 0 _ _ _ mm8
        have a1 := cell_of_row w8 w4.heap.size 1 _ _ _ mm8
        have a2 := cell_of_row w8 w4.heap.size 2 _ _ _ mm8
        have a3 := cell_of_row w8 w4.heap.size 3 _ _ _ mm8
        have a4 := cell_of_row w8 w4.heap.size 4 _ _ _ mm8
        have c0 := cell_of_row w8 w.heap.size 0 _ _ _ kk8
        have c1 := cell_of_row w8 w.heap.size 1 _ _ _ kk8
        have c2 := cell_of_row w8 w.heap.size 2 _ _ _ kk8
        have c3 := cell_of_row w8 w.heap.size 3 _ _ _ kk8
        have c4 := cell_of_row w8 w.heap.size 4 _ _ _ kk8
        have d0 := frozen_of_row w8 w.heap.size 0 _ _ kk8
        have d1 := frozen_of_row w8 w.heap.size 1 _ _ kk8
        have d2 := frozen_of_row w8 w.heap.size 2 _ _ kk8
        have d3 := frozen_of_row w8 w.heap.size 3 _ _ kk8
        have d4 := frozen_of_row w8 w.heap.size 4 _ _ kk8
        have s0 := blk_setD (i := 0) (v := .int .i64 id) kk8
        have z0 := cell_of_row _ w.heap.size 0 _ _ _ s0
        have s1 := blk_setD (i := 1) (v := .int .i64 xs) s0
        have z1 := cell_of_row _ w.heap.size 1 _ _ _ s1
        have s2 := blk_setD (i := 2) (v := .int .i64 y) s1
        have z2 := cell_of_row _ w.heap.size 2 _ _ _ s2
        have s3 := blk_setD (i := 3) (v := .int .i64 xg) s2
        have z3 := cell_of_row _ w.heap.size 3 _ _ _ s3
        have s4 := blk_setD (i := 4) (v := .int .i64 xp) s3
        have z4 := cell_of_row _ w.heap.size 4 _ _ _ s4
        simp at a0 a1 a2 a3 a4 c0 c1 c2 c3 c4 z0 z1 z2 z3 z4
        have Z0 := Lib.hid z0
        have Z1 := Lib.hid z1
        have Z2 := Lib.hid z2
        have Z3 := Lib.hid z3
        have Z4 := Lib.hid z4
        clear kk8 mm8 s0 s1 s2 s3 s4 z0 z1 z2 z3 z4
        have GG := Lib.hid (grown_trans (grown_trans (grown_trans (grown_trans (grown_setCell w8 w.heap.size 0 (.int .i64 id)) (grown_setCell _ w.heap.size 1 (.int .i64 xs))) (grown_setCell _ w.heap.size 2 (.int .i64 y))) (grown_setCell _ w.heap.size 3 (.int .i64 xg))) (grown_setCell _ w.heap.size 4 (.int .i64 xp)))
        go_wp2
        refine bodyPost_ret (v := .agg #[.int .i64 id, .int .i64 xs, .int .i64 y, .int .i64 xg, .int .i64 xp]) (by simp [results, Tryd.results63, go_sem, Z0.out, Z1.out, Z2.out, Z3.out, Z4.out]) rfl ⟨⟨id, xs, y, xg, xp⟩, rfl, by show (-10 ≤ id ∧ id ≤ 200) ∧ (0 ≤ xs ∧ xs ≤ 17) ∧ (99 ≤ y ∧ y ≤ 2001) ∧ (-1 ≤ xg ∧ xg ≤ 4) ∧ (-1 ≤ xp ∧ xp ≤ 100000); omega, (C8.out.grown GG.out (fun j hj => by cases hj; exact hb)).mono (by omega), grown_past G8.out GG.out (Nat.le_refl _)⟩
      · have t2 : ((r : Int) == 2) = false := by rw [beq_eq_false_iff_ne]; omega
        by_cases e3 : r = 3
        · have t3 : ((r : Int) == 3) = true := by rw [beq_iff_eq]; omega
          go_wp2_with fail
          refine (among_any B b (k + 2 + 2 + 2 + 2 + 2) w6.heap.size 2 2 [-1, 4] _ (C6.out.alloc _) (by omega) rfl (by omega) (by omega) (by omega) (num_cells w6 3 [-1, 4] _ rfl)).mono ?_
          rintro e w7 ⟨y, hx7, rfl, hc, hg⟩
          have hb7 : -1 ≤ y ∧ y ≤ 4 := by simp at hx7; omega
          have K7 := Lib.hid ((hg.block w.heap.size (by simp; omega) (fun e => by have := Option.some.inj e; omega)).trans (old_allocD (o' := .cells #[.int .i64 (-1), .int .i64 4] 3) K6.out))
          have M7 := Lib.hid ((hg.block w4.heap.size (by simp; omega) (fun e => by have := Option.some.inj e; omega)).trans (old_allocD (o' := .cells #[.int .i64 (-1), .int .i64 4] 3) M6.out))
          have G7 := Lib.hid (grown_trans (grown_trans G6.out (World.grownBy_alloc _ (.cells #[.int .i64 (-1), .int .i64 4] 3) (some b))) hg)
          have C7 := Lib.hid hc
          have hz7 := hg.size
          simp at hz7
          clear hc hg hx7
          have mm := M7.out
          have q0 := cell_of_row w7 w4.heap.size 3 _ _ _ mm
          have q1 := frozen_of_row w7 w4.heap.size 3 _ _ mm
          simp at q0
          clear mm
          have M8 := Lib.hid (blk_setD (i := 3) (v := .int .i64 y) M7.out)
          have K8 : Hid ((w7.setCell ⟨w4.heap.size, 3, none⟩ (.int .i64 y)).heap[w.heap.size]? = some (.cells #[.int .i64 0, .int .i64 0, .int .i64 0, .int .i64 0, .int .i64 0] 34 (0, 0))) := Lib.hid (by simp only [World.setCell, Array.getElem?_modify]; rw [if_neg (by show ¬ w4.heap.size = w.heap.size; omega)]; exact K7.out)
          have G8 := Lib.hid (grown_past G7.out (grown_setCell w7 w4.heap.size 3 (.int .i64 y)) (by omega))
          have C8 := Lib.hid (C7.out.grown (grown_setCell w7 w4.heap.size 3 (.int .i64 y)) (fun j hj => by cases hj; omega))
          go_upto_region 13 with fail
          generalize hw8 : w7.setCell ⟨w4.heap.size, 3, none⟩ (.int .i64 y) = w8 at *
          clear hw8 q0 q1
          have kk8 := K8.out
          have mm8 := M8.out
          have a0 := cell_of_row w8 w4.heap.size 0 _ _ _ mm8
          have a1 := cell_of_row w8 w4.heap.size 1 _ _ _ mm8
          have a2 := cell_of_row w8 w4.heap.size 2 _ _ _ mm8
          have a3 := cell_of_row w8 w4.heap.size 3 _ _ _ mm8
          have a4 := cell_of_row w8 w4.heap.size 4 _ _ _ mm8
          have c0 := cell_of_row w8 w.heap.size 0 _ _ _ kk8
          have c1 := cell_of_row w8 w.heap.size 1 _ _ _ kk8
          have c2 := cell_of_row w8 w.heap.size 2 _ _ _ kk8
          have c3 := cell_of_row w8 w.heap.size 3 _ _ _ kk8
          have c4 := cell_of_row w8 w.heap.size 4 _ _ _ kk8
          have d0 := frozen_of_row w8 w.heap.size 0 _ _ kk8
          have d1 := frozen_of_row w8 w.heap.size 1 _ _ kk8
          have d2 := frozen_of_row w8 w.heap.size 2 _ _ kk8
          have d3 := frozen_of_row w8 w.heap.size 3 _ _ kk8
          have d4 := frozen_of_row w8 w.heap.size 4 _ _ kk8
          have s0 := blk_setD (i := 0) (v := .int .i64 id) kk8
          have z0 := cell_of_row _ w.heap.size 0 _ _ _ s0
          have s1 := blk_setD (i := 1) (v := .int .i64 xs) s0
          have z1 := cell_of_row _ w.heap.size 1 _ _ _ s1
          have s2 := blk_setD (i := 2) (v := .int .i64 xw) s1
          have z2 := cell_of_row _ w.heap.size 2 _ _ _ s2
          have s3 := blk_setD (i := 3) (v := .int .i64 y) s2
          have z3 := cell_of_row _ w.heap.size 3 _ _ _ s3
          have s4 := blk_setD (i := 4) (v := .int .i64 xp) s3
          have z4 := cell_of_row _ w.heap.size 4 _ _ _ s4
          simp at a0 a1 a2 a3 a4 c0 c1 c2 c3 c4 z0 z1 z2 z3 z4
          have Z0 := Lib.hid z0
          have Z1 := Lib.hid z1
          have Z2 := Lib.hid z2
          have Z3 := Lib.hid z3
          have Z4 := Lib.hid z4
          clear kk8 mm8 s0 s1 s2 s3 s4 z0 z1 z2 z3 z4
          have GG := Lib.hid (grown_trans (grown_trans (grown_trans (grown_trans (grown_setCell w8 w.heap.size 0 (.int .i64 id)) (grown_setCell _ w.heap.size 1 (.int .i64 xs))) (grown_setCell _ w.heap.size 2 (.int .i64 xw))) (grown_setCell _ w.heap.size 3 (.int .i64 y))) (grown_setCell _ w.heap.size 4 (.int .i64 xp)))
          go_wp2
          refine bodyPost_ret (v := .agg #[.int .i64 id, .int .i64 xs, .int .i64 xw, .int .i64 y, .int .i64 xp]) (by simp [results, Tryd.results63, go_sem, Z0.out, Z1.out, Z2.out, Z3.out, Z4.out]) rfl ⟨⟨id, xs, xw, y, xp⟩, rfl, by show (-10 ≤ id ∧ id ≤ 200) ∧ (0 ≤ xs ∧ xs ≤ 17) ∧ (99 ≤ xw ∧ xw ≤ 2001) ∧ (-1 ≤ y ∧ y ≤ 4) ∧ (-1 ≤ xp ∧ xp ≤ 100000); omega, (C8.out.grown GG.out (fun j hj => by cases hj; exact hb)).mono (by omega), grown_past G8.out GG.out (Nat.le_refl _)⟩
        · have t3 : ((r : Int) == 3) = false := by rw [beq_eq_false_iff_ne]; omega
          by_cases e4 : r = 4
          · have t4 : ((r : Int) == 4) = true := by rw [beq_iff_eq]; omega
            go_wp2_with fail
            refine (among_any B b (k + 2 + 2 + 2 + 2 + 2) w6.heap.size 2 2 [-1, 100000] _ (C6.out.alloc _) (by omega) rfl (by omega) (by omega) (by omega) (num_cells w6 3 [-1, 100000] _ rfl)).mono ?_
            rintro e w7 ⟨y, hx7, rfl, hc, hg⟩
            have hb7 : -1 ≤ y ∧ y ≤ 100000 := by simp at hx7; omega
            have K7 := Lib.hid ((hg.block w.heap.size (by simp; omega) (fun e => by have := Option.some.inj e; omega)).trans (old_allocD (o' := .cells #[.int .i64 (-1), .int .i64 100000] 3) K6.out))
            have M7 := Lib.hid ((hg.block w4.heap.size (by simp; omega) (fun e => by have := Option.some.inj e; omega)).trans (old_allocD (o' := .cells #[.int .i64 (-1), .int .i64 100000] 3) M6.out))
            have G7 := Lib.hid (grown_trans (grown_trans G6.out (World.grownBy_alloc _ (.cells #[.int .i64 (-1), .int .i64 100000] 3) (some b))) hg)
            have C7 := Lib.hid hc
            have hz7 := hg.size
            simp at hz7
            clear hc hg hx7
            have mm := M7.out
            have q0 := cell_of_row w7 w4.heap.size 4 _ _ _ mm
            have q1 := frozen_of_row w7 w4.heap.size 4 _ _ mm
            simp at q0
            clear mm
            have M8 := Lib.hid (blk_setD (i := 4) (v := .int .i64 y) M7.out)
            have K8 : Hid ((w7.setCell ⟨w4.heap.size, 4, none⟩ (.int .i64 y)).heap[w.heap.size]? = some (.cells #[.int .i64 0, .int .i64 0, .int .i64 0, .int .i64 0, .int .i64 0] 34 (0, 0))) := Lib.hid (by simp only [World.setCell, Array.getElem?_modify]; rw [if_neg (by show ¬ w4.heap.size = w.heap.size; omega)]; exact K7.out)
            have G8 := Lib.hid (grown_past G7.out (grown_setCell w7 w4.heap.size 4 (.int .i64 y)) (by omega))
            have C8 := Lib.hid (C7.out.grown (grown_setCell w7 w4.heap.size 4 (.int .i64 y)) (fun j hj => by cases hj; omega))
            go_upto_region 13 with fail
            generalize hw8 : w7.setCell ⟨w4.heap.size, 4, none⟩ (.int .i64 y) = w8 at *
            clear hw8 q0 q1
            have kk8 := K8.out
            have mm8 := M8.out
            have a0 := cell_of_row w8 w4.heap.size 0 _ _ _ mm8
            have a1 := cell_of_row w8 w4.heap.size 1 _ _ _ mm8
            have a2 := cell_of_row w8 w4.heap.size 2 _ _ _ mm8
            have a3 := cell_of_row w8 w4.heap.size 3 _ _ _ mm8
            have a4 := cell_of_row w8 w4.heap.size 4 _ _ _ mm8
            have c0 := cell_of_row w8 w.heap.size 0 _ _ _ kk8
            have c1 := cell_of_row w8 w.heap.size 1 _ _ _ kk8
            have c2 := cell_of_row w8 w.heap.size 2 _ _ _ kk8
            have c3 := cell_of_row w8 w.heap.size 3 _ _ _ kk8
            have c4 := cell_of_row w8 w.heap.size 4 _ _ _ kk8
            have d0 := frozen_of_row w8 w.heap.size 0 _ _ kk8
            have d1 := frozen_of_row w8 w.heap.size 1 _ _ kk8
            have d2 := frozen_of_row w8 w.heap.size 2 _ _ kk8
            have d3 := frozen_of_row w8 w.heap.size 3 _ _ kk8
            have d4 := frozen_of_row w8 w.heap.size 4 _ _ kk8
            have s0 := blk_setD (i := 0) (v := .int .i64 id) kk8
            have z0 := cell_of_row _ w.heap.size 0 _ _ _ s0
            have s1 := blk_setD (i := 1) (v := .int .i64 xs) s0
            have z1 := cell_of_row _ w.heap.size 1 _ _ _ s1
            have s2 := blk_setD (i := 2) (v := .int .i64 xw) s1
            have z2 := cell_of_row _ w.heap.size 2 _ _ _ s2
            have s3 := blk_setD (i := 3) (v := .int .i64 xg) s2
            have z3 := cell_of_row _ w.heap.size 3 _ _ _ s3
            have s4 := blk_setD (i := 4) (v := .int .i64 y) s3
            have z4 := cell_of_row _ w.heap.size 4 _ _ _ s4
            simp at a0 a1 a2 a3 a4 c0 c1 c2 c3 c4 z0 z1 z2 z3 z4
            have Z0 := Lib.hid z0
            have Z1 := Lib.hid z1
            have Z2 := Lib.hid z2
            have Z3 := Lib.hid z3
            have Z4 := Lib.hid z4
            clear kk8 mm8 s0 s1 s2 s3 s4 z0 z1 z2 z3 z4
            have GG := Lib.hid (grown_trans (grown_trans (grown_trans (grown_trans (grown_setCell w8 w.heap.size 0 (.int .i64 id)) (grown_setCell _ w.heap.size 1 (.int .i64 xs))) (grown_setCell _ w.heap.size 2 (.int .i64 xw))) (grown_setCell _ w.heap.size 3 (.int .i64 xg))) (grown_setCell _ w.heap.size 4 (.int .i64 y)))
            go_wp2
            refine bodyPost_ret (v := .agg #[.int .i64 id, .int .i64 xs, .int .i64 xw, .int .i64 xg, .int .i64 y]) (by simp [results, Tryd.results63, go_sem, Z0.out, Z1.out, Z2.out, Z3.out, Z4.out]) rfl ⟨⟨id, xs, xw, xg, y⟩, rfl, by show (-10 ≤ id ∧ id ≤ 200) ∧ (0 ≤ xs ∧ xs ≤ 17) ∧ (99 ≤ xw ∧ xw ≤ 2001) ∧ (-1 ≤ xg ∧ xg ≤ 4) ∧ (-1 ≤ y ∧ y ≤ 100000); omega, (C8.out.grown GG.out (fun j hj => by cases hj; exact hb)).mono (by omega), grown_past G8.out GG.out (Nat.le_refl _)⟩
          · have t4 : ((r : Int) == 4) = false := by rw [beq_eq_false_iff_ne]; omega
            have kk6 := K6.out
            have mm6 := M6.out
            have a0 := cell_of_row w6 w4.heap.size 0 _ _ _ mm6
            have a1 := cell_of_row w6 w4.heap.size 1 _ _ _ mm6
            have a2 := cell_of_row w6 w4.heap.size 2 _ _ _ mm6
            have a3 := cell_of_row w6 w4.heap.size 3 _ _ _ mm6
            have a4 := cell_of_row w6 w4.heap.size 4 _ _ _ mm6
            have c0 := cell_of_row w6 w.heap.size 0 _ _ _ kk6
            have c1 := cell_of_row w6 w.heap.size 1 _ _ _ kk6
            have c2 := cell_of_row w6 w.heap.size 2 _ _ _ kk6
            have c3 := cell_of_row w6 w.heap.size 3 _ _ _ kk6
            have c4 := cell_of_row w6 w.heap.size 4 _ _ _ kk6
            have d0 := frozen_of_row w6 w.heap.size 0 _ _ kk6
            have d1 := frozen_of_row w6 w.heap.size 1 _ _ kk6
            have d2 := frozen_of_row w6 w.heap.size 2 _ _ kk6
            have d3 := frozen_of_row w6 w.heap.size 3 _ _ kk6
            have d4 := frozen_of_row w6 w.heap.size 4 _ _ kk6
            have s0 := blk_setD (i := 0) (v := .int .i64 id) kk6
            have z0 := cell_of_row _ w.heap.size 0 _ _ _ s0
            have s1 := blk_setD (i := 1) (v := .int .i64 xs) s0
            have z1 := cell_of_row _ w.heap.size 1 _ _ _ s1
            have s2 := blk_setD (i := 2) (v := .int .i64 xw) s1
            have z2 := cell_of_row _ w.heap.size 2 _ _ _ s2
            have s3 := blk_setD (i := 3) (v := .int .i64 xg) s2
            have z3 := cell_of_row _ w.heap.size 3 _ _ _ s3
            have s4 := blk_setD (i := 4) (v := .int .i64 xp) s3
            have z4 := cell_of_row _ w.heap.size 4 _ _ _ s4
            simp at a0 a1 a2 a3 a4 c0 c1 c2 c3 c4 z0 z1 z2 z3 z4
            have Z0 := Lib.hid z0
            have Z1 := Lib.hid z1
            have Z2 := Lib.hid z2
            have Z3 := Lib.hid z3
            have Z4 := Lib.hid z4
            clear kk6 mm6 s0 s1 s2 s3 s4 z0 z1 z2 z3 z4
            have GG := Lib.hid (grown_trans (grown_trans (grown_trans (grown_trans (grown_setCell w6 w.heap.size 0 (.int .i64 id)) (grown_setCell _ w.heap.size 1 (.int .i64 xs))) (grown_setCell _ w.heap.size 2 (.int .i64 xw))) (grown_setCell _ w.heap.size 3 (.int .i64 xg))) (grown_setCell _ w.heap.size 4 (.int .i64 xp)))
            go_wp2
            refine bodyPost_ret (v := .agg #[.int .i64 id, .int .i64 xs, .int .i64 xw, .int .i64 xg, .int .i64 xp]) (by simp [results, Tryd.results63, go_sem, Z0.out, Z1.out, Z2.out, Z3.out, Z4.out]) rfl ⟨⟨id, xs, xw, xg, xp⟩, rfl, by show (-10 ≤ id ∧ id ≤ 200) ∧ (0 ≤ xs ∧ xs ≤ 17) ∧ (99 ≤ xw ∧ xw ≤ 2001) ∧ (-1 ≤ xg ∧ xg ≤ 4) ∧ (-1 ≤ xp ∧ xp ≤ 100000); omega, (C6.out.grown GG.out (fun j hj => by cases hj; exact hb)).mono (by omega), grown_past G6.out GG.out (Nat.le_refl _)⟩
end Go.Proofs.YtiogjocbiagipabDoor
