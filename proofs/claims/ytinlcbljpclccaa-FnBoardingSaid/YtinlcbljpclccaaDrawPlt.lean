/- The drawn platform. Condition: sizes. -/
import Derived.Test.YtinlcbljpclccaaDrawBase
import Derived.Test.YtinlcbljpclccaaPltS
import Derived.Deep.DeepCutAuto
namespace Go.Proofs.Ytinlcbljpclccaa
open Go.RowKit
set_option linter.unusedVariables false
/-- What drawing a platform leaves. -/
def PlPost (B b k : Nat) (w : World) (e : Ending) (w' : World) : Prop := ∃ x : Plt, e = .returned x.agg ∧ Cur B b (k + 20) w' ∧ w.grownBy w' (some b)
set_option maxRecDepth 100000 in
set_option maxHeartbeats 8000000 in
theorem platform_any (B b k : Nat) (w : World) (h : Cur B b k w) (hk : k ≤ 800000000) :
    Calls Try.prog 46 #[.pointer (some ⟨b, 0, none⟩)] w (PlPost B b k w) := by
  have HH := Lib.hid h
  have hb := h.2.1
  clear h
  go_enter Try.func46, Try.ntmps46
  go_wp2_with fail
  refine (among_any B b k (w.heap.size + 1) 6 6 [0, 0, 1, 3, 20, 500] _ ((HH.out.alloc _).alloc _) (by omega) rfl (by omega) (by omega) (by omega) (num_cells1 _ 3 [0, 0, 1, 3, 20, 500] _ rfl _ (aszD _ _))).mono ?_
  rintro e w1 ⟨xw, hx1, rfl, hc, hg⟩
  have K1 := Lib.hid ((hg.block w.heap.size (by simp; omega) (fun e => by have := Option.some.inj e; omega)).trans (old_allocD (o' := .cells #[.int .i64 0, .int .i64 0, .int .i64 1, .int .i64 3, .int .i64 20, .int .i64 500] 3) (heap_alloc_new w (.cells #[.int .i64 0, .int .i64 0, .int .i64 0, .int .i64 0, .bool false, .int .i64 0] 25))))
  have G1 := Lib.hid (grown_trans (grown_trans (World.grownBy_alloc w (.cells #[.int .i64 0, .int .i64 0, .int .i64 0, .int .i64 0, .bool false, .int .i64 0] 25) (some b)) (World.grownBy_alloc _ (.cells #[.int .i64 0, .int .i64 0, .int .i64 1, .int .i64 3, .int .i64 20, .int .i64 500] 3) (some b))) hg)
  have C1 := Lib.hid hc
  have hz1 := hg.size
  simp at hz1
  clear hc hg hx1
  go_wp2_with fail
  refine (one_any B b (k + 2) (3) w1 C1.out (by omega) (by omega) (by omega)).mono ?_
  rintro e w2 ⟨xl, rfl, hc, hg⟩
  have K2 := Lib.hid ((hg.block w.heap.size (by omega) (fun e => by have := Option.some.inj e; omega)).trans K1.out)
  have G2 := Lib.hid (grown_trans G1.out hg)
  have C2 := Lib.hid hc
  have hz2 := hg.size
  clear hc hg
  clear K1 C1 G1
  go_wp2_with fail
  refine (among_any B b (k + 2 + 2) w2.heap.size 5 5 [0, 7, 7, 7, 9999] _ (C2.out.alloc _) (by omega) rfl (by omega) (by omega) (by omega) (num_cells w2 3 [0, 7, 7, 7, 9999] _ rfl)).mono ?_
  rintro e w3 ⟨xg, hx3, rfl, hc, hg⟩
  have K3 := Lib.hid ((hg.block w.heap.size (by simp; omega) (fun e => by have := Option.some.inj e; omega)).trans (old_allocD (o' := .cells #[.int .i64 0, .int .i64 7, .int .i64 7, .int .i64 7, .int .i64 9999] 3) K2.out))
  have G3 := Lib.hid (grown_trans (grown_trans G2.out (World.grownBy_alloc _ (.cells #[.int .i64 0, .int .i64 7, .int .i64 7, .int .i64 7, .int .i64 9999] 3) (some b))) hg)
  have C3 := Lib.hid hc
  have hz3 := hg.size
  simp at hz3
  clear hc hg hx3
  clear K2 C2 G2
  go_wp2_with fail
  have M4 := Lib.hid (heap_alloc_new w3 (.cells #[.int .i64 0, .int .i64 0, .int .i64 0, .int .i64 xw, .bool xl, .int .i64 xg] 25))
  have K4 := Lib.hid (old_allocD (o' := .cells #[.int .i64 0, .int .i64 0, .int .i64 0, .int .i64 xw, .bool xl, .int .i64 xg] 25) K3.out)
  have G4 := Lib.hid (grown_trans G3.out (World.grownBy_alloc w3 (.cells #[.int .i64 0, .int .i64 0, .int .i64 0, .int .i64 xw, .bool xl, .int .i64 xg] 25) (some b)))
  have C4 := Lib.hid (C3.out.alloc (.cells #[.int .i64 0, .int .i64 0, .int .i64 0, .int .i64 xw, .bool xl, .int .i64 xg] 25))
  have hz4 : (w3.alloc (.cells #[.int .i64 0, .int .i64 0, .int .i64 0, .int .i64 xw, .bool xl, .int .i64 xg] 25)).heap.size = w3.heap.size + 1 := by simp
  generalize hw4 : w3.alloc (.cells #[.int .i64 0, .int .i64 0, .int .i64 0, .int .i64 xw, .bool xl, .int .i64 xg] 25) = w4 at *
  clear hw4 K3 C3 G3
  obtain ⟨P, hP⟩ : ∃ P, P = w3.heap.size := ⟨_, rfl⟩
  rw [← hP] at M4 hz4 ⊢
  have hPw : w.heap.size < P := by omega
  have hPb : b < P := by omega
  have hP4 : P < w4.heap.size := by omega
  clear hP hz1 hz2 hz3
  refine (one_any B b (k + 2 + 2 + 2) (4) w4 C4.out (by omega) (by omega) (by omega)).mono ?_
  rintro e w5 ⟨r0, rfl, hc, hg⟩
  have K5 := Lib.hid ((hg.block w.heap.size (by omega) (fun e => by have := Option.some.inj e; omega)).trans K4.out)
  have M5 := Lib.hid ((hg.block P (by omega) (fun e => by have := Option.some.inj e; omega)).trans M4.out)
  have G5 := Lib.hid (grown_trans G4.out hg)
  have C5 := Lib.hid hc
  have hz5 := hg.size
  clear hc hg
  clear K4 M4 C4 G4
  cases r0 with
  | true =>
    go_wp2_with fail
    refine (pick_any B b (k + 2 + 2 + 2 + 2) (60) w5 C5.out (by omega) (by omega) (by omega)).mono ?_
    rintro e w6 ⟨r, rfl, hr6, hc, hg⟩
    have K6 := Lib.hid ((hg.block w.heap.size (by omega) (fun e => by have := Option.some.inj e; omega)).trans K5.out)
    have M6 := Lib.hid ((hg.block P (by omega) (fun e => by have := Option.some.inj e; omega)).trans M5.out)
    have G6 := Lib.hid (grown_trans G5.out hg)
    have C6 := Lib.hid hc
    have hz6 := hg.size
    clear hc hg
    clear K5 M5 C5 G5
    by_cases e0 : r = 0
    · have t0 : ((r : Int) == 0) = true := by rw [beq_iff_eq]; omega
      clear e0
      go_wp2_with fail
      refine (among_any B b (k + 2 + 2 + 2 + 2 + 2) w6.heap.size 3 3 [-1, 1, 2] _ (C6.out.alloc _) (by omega) rfl (by omega) (by omega) (by omega) (num_cells w6 3 [-1, 1, 2] _ rfl)).mono ?_
      rintro e w7 ⟨y, hx7, rfl, hc, hg⟩
      have K7 := Lib.hid ((hg.block w.heap.size (by simp; omega) (fun e => by have := Option.some.inj e; omega)).trans (old_allocD (o' := .cells #[.int .i64 (-1), .int .i64 1, .int .i64 2] 3) K6.out))
      have M7 := Lib.hid ((hg.block P (by simp; omega) (fun e => by have := Option.some.inj e; omega)).trans (old_allocD (o' := .cells #[.int .i64 (-1), .int .i64 1, .int .i64 2] 3) M6.out))
      have G7 := Lib.hid (grown_trans (grown_trans G6.out (World.grownBy_alloc _ (.cells #[.int .i64 (-1), .int .i64 1, .int .i64 2] 3) (some b))) hg)
      have C7 := Lib.hid hc
      have hz7 := hg.size
      simp at hz7
      clear hc hg hx7
      clear K6 M6 C6 G6
      have mm := M7.out
      have m0 := cell_of_row w7 P 0 _ _ _ mm
      have m1 := frozen_of_row w7 P 0 _ _ mm
      clear mm
      have M8 := Lib.hid (blk_setD (i := 0) (v := .int .i64 y) M7.out)
      have K8 : Hid ((w7.setCell ⟨P, 0, none⟩ (.int .i64 y)).heap[w.heap.size]? = some (.cells #[.int .i64 0, .int .i64 0, .int .i64 0, .int .i64 0, .bool false, .int .i64 0] 25 (0, 0))) := Lib.hid (by simp only [World.setCell, Array.getElem?_modify]; rw [if_neg (by show ¬ P = w.heap.size; omega)]; exact K7.out)
      have G8 := Lib.hid (grown_past G7.out (grown_setCell w7 P 0 (.int .i64 y)) (by omega))
      have C8 := Lib.hid (C7.out.grown (grown_setCell w7 P 0 (.int .i64 y)) (fun j hj => by cases hj; omega))
      have hz8 : (w7.setCell ⟨P, 0, none⟩ (.int .i64 y)).heap.size = w7.heap.size := by simp [World.setCell]
      go_upto_region 17 with fail
      generalize hw8 : w7.setCell ⟨P, 0, none⟩ (.int .i64 y) = w8 at *
      clear hw8 m0 m1 K7 M7 C7 G7
      have kk := K8.out
      have mm := M8.out
      have a0 := cell_of_row w8 P 0 _ _ _ mm
      have a1 := cell_of_row w8 P 1 _ _ _ mm
      have a2 := cell_of_row w8 P 2 _ _ _ mm
      have a3 := cell_of_row w8 P 3 _ _ _ mm
      have a4 := cell_of_row w8 P 4 _ _ _ mm
      have a5 := cell_of_row w8 P 5 _ _ _ mm
      have c0 := cell_of_row w8 w.heap.size 0 _ _ _ kk
      have c1 := cell_of_row w8 w.heap.size 1 _ _ _ kk
      have c2 := cell_of_row w8 w.heap.size 2 _ _ _ kk
      have c3 := cell_of_row w8 w.heap.size 3 _ _ _ kk
      have c4 := cell_of_row w8 w.heap.size 4 _ _ _ kk
      have c5 := cell_of_row w8 w.heap.size 5 _ _ _ kk
      have d0 := frozen_of_row w8 w.heap.size 0 _ _ kk
      have d1 := frozen_of_row w8 w.heap.size 1 _ _ kk
      have d2 := frozen_of_row w8 w.heap.size 2 _ _ kk
      have d3 := frozen_of_row w8 w.heap.size 3 _ _ kk
      have d4 := frozen_of_row w8 w.heap.size 4 _ _ kk
      have d5 := frozen_of_row w8 w.heap.size 5 _ _ kk
      have s0 := blk_setD (i := 0) (v := .int .i64 y) kk
      have z0 := cell_of_row _ w.heap.size 0 _ _ _ s0
      have s1 := blk_setD (i := 1) (v := .int .i64 0) s0
      have z1 := cell_of_row _ w.heap.size 1 _ _ _ s1
      have s2 := blk_setD (i := 2) (v := .int .i64 0) s1
      have z2 := cell_of_row _ w.heap.size 2 _ _ _ s2
      have s3 := blk_setD (i := 3) (v := .int .i64 xw) s2
      have z3 := cell_of_row _ w.heap.size 3 _ _ _ s3
      have s4 := blk_setD (i := 4) (v := .bool xl) s3
      have z4 := cell_of_row _ w.heap.size 4 _ _ _ s4
      have s5 := blk_setD (i := 5) (v := .int .i64 xg) s4
      have z5 := cell_of_row _ w.heap.size 5 _ _ _ s5
      simp at a0 c0 z0 a1 c1 z1 a2 c2 z2 a3 c3 z3 a4 c4 z4 a5 c5 z5
      have Z0 := Lib.hid z0
      have Z1 := Lib.hid z1
      have Z2 := Lib.hid z2
      have Z3 := Lib.hid z3
      have Z4 := Lib.hid z4
      have Z5 := Lib.hid z5
      clear kk mm s0 z0 s1 z1 s2 z2 s3 z3 s4 z4 s5 z5
      have GG := Lib.hid (grown_trans (grown_trans (grown_trans (grown_trans (grown_trans (grown_setCell w8 w.heap.size 0 (.int .i64 y)) (grown_setCell _ w.heap.size 1 (.int .i64 0))) (grown_setCell _ w.heap.size 2 (.int .i64 0))) (grown_setCell _ w.heap.size 3 (.int .i64 xw))) (grown_setCell _ w.heap.size 4 (.bool xl))) (grown_setCell _ w.heap.size 5 (.int .i64 xg)))
      go_wp2
      refine bodyPost_ret (v := .agg #[.int .i64 y, .int .i64 0, .int .i64 0, .int .i64 xw, .bool xl, .int .i64 xg]) (by simp [results, Try.results46, go_sem, Z0.out, Z1.out, Z2.out, Z3.out, Z4.out, Z5.out]) rfl ⟨⟨y, 0, 0, xw, xl, xg⟩, rfl, (C8.out.grown GG.out (fun j hj => by cases hj; exact hb)).mono (by omega), grown_past G8.out GG.out (Nat.le_refl _)⟩
    · have t0 : ((r : Int) == 0) = false := by rw [beq_eq_false_iff_ne]; omega
      by_cases e1 : r = 1
      · have t1 : ((r : Int) == 1) = true := by rw [beq_iff_eq]; omega
        clear e1
        go_wp2_with fail
        refine (among_any B b (k + 2 + 2 + 2 + 2 + 2) w6.heap.size 2 2 [-1, 17] _ (C6.out.alloc _) (by omega) rfl (by omega) (by omega) (by omega) (num_cells w6 3 [-1, 17] _ rfl)).mono ?_
        rintro e w7 ⟨y, hx7, rfl, hc, hg⟩
        have K7 := Lib.hid ((hg.block w.heap.size (by simp; omega) (fun e => by have := Option.some.inj e; omega)).trans (old_allocD (o' := .cells #[.int .i64 (-1), .int .i64 17] 3) K6.out))
        have M7 := Lib.hid ((hg.block P (by simp; omega) (fun e => by have := Option.some.inj e; omega)).trans (old_allocD (o' := .cells #[.int .i64 (-1), .int .i64 17] 3) M6.out))
        have G7 := Lib.hid (grown_trans (grown_trans G6.out (World.grownBy_alloc _ (.cells #[.int .i64 (-1), .int .i64 17] 3) (some b))) hg)
        have C7 := Lib.hid hc
        have hz7 := hg.size
        simp at hz7
        clear hc hg hx7
        clear K6 M6 C6 G6
        have mm := M7.out
        have m0 := cell_of_row w7 P 1 _ _ _ mm
        have m1 := frozen_of_row w7 P 1 _ _ mm
        clear mm
        have M8 := Lib.hid (blk_setD (i := 1) (v := .int .i64 y) M7.out)
        have K8 : Hid ((w7.setCell ⟨P, 1, none⟩ (.int .i64 y)).heap[w.heap.size]? = some (.cells #[.int .i64 0, .int .i64 0, .int .i64 0, .int .i64 0, .bool false, .int .i64 0] 25 (0, 0))) := Lib.hid (by simp only [World.setCell, Array.getElem?_modify]; rw [if_neg (by show ¬ P = w.heap.size; omega)]; exact K7.out)
        have G8 := Lib.hid (grown_past G7.out (grown_setCell w7 P 1 (.int .i64 y)) (by omega))
        have C8 := Lib.hid (C7.out.grown (grown_setCell w7 P 1 (.int .i64 y)) (fun j hj => by cases hj; omega))
        have hz8 : (w7.setCell ⟨P, 1, none⟩ (.int .i64 y)).heap.size = w7.heap.size := by simp [World.setCell]
        go_upto_region 17 with fail
        generalize hw8 : w7.setCell ⟨P, 1, none⟩ (.int .i64 y) = w8 at *
        clear hw8 m0 m1 K7 M7 C7 G7
        have kk := K8.out
        have mm := M8.out
        have a0 := cell_of_row w8 P 0 _ _ _ mm
        have a1 := cell_of_row w8 P 1 _ _ _ mm
        have a2 := cell_of_row w8 P 2 _ _ _ mm
        have a3 := cell_of_row w8 P 3 _ _ _ mm
        have a4 := cell_of_row w8 P 4 _ _ _ mm
        have a5 := cell_of_row w8 P 5 _ _ _ mm
        have c0 := cell_of_row w8 w.heap.size 0 _ _ _ kk
        have c1 := cell_of_row w8 w.heap.size 1 _ _ _ kk
        have c2 := cell_of_row w8 w.heap.size 2 _ _ _ kk
        have c3 := cell_of_row w8 w.heap.size 3 _ _ _ kk
        have c4 := cell_of_row w8 w.heap.size 4 _ _ _ kk
        have c5 := cell_of_row w8 w.heap.size 5 _ _ _ kk
        have d0 := frozen_of_row w8 w.heap.size 0 _ _ kk
        have d1 := frozen_of_row w8 w.heap.size 1 _ _ kk
        have d2 := frozen_of_row w8 w.heap.size 2 _ _ kk
        have d3 := frozen_of_row w8 w.heap.size 3 _ _ kk
        have d4 := frozen_of_row w8 w.heap.size 4 _ _ kk
        have d5 := frozen_of_row w8 w.heap.size 5 _ _ kk
        have s0 := blk_setD (i := 0) (v := .int .i64 0) kk
        have z0 := cell_of_row _ w.heap.size 0 _ _ _ s0
        have s1 := blk_setD (i := 1) (v := .int .i64 y) s0
        have z1 := cell_of_row _ w.heap.size 1 _ _ _ s1
        have s2 := blk_setD (i := 2) (v := .int .i64 0) s1
        have z2 := cell_of_row _ w.heap.size 2 _ _ _ s2
        have s3 := blk_setD (i := 3) (v := .int .i64 xw) s2
        have z3 := cell_of_row _ w.heap.size 3 _ _ _ s3
        have s4 := blk_setD (i := 4) (v := .bool xl) s3
        have z4 := cell_of_row _ w.heap.size 4 _ _ _ s4
        have s5 := blk_setD (i := 5) (v := .int .i64 xg) s4
        have z5 := cell_of_row _ w.heap.size 5 _ _ _ s5
        simp at a0 c0 z0 a1 c1 z1 a2 c2 z2 a3 c3 z3 a4 c4 z4 a5 c5 z5
        have Z0 := Lib.hid z0
        have Z1 := Lib.hid z1
        have Z2 := Lib.hid z2
        have Z3 := Lib.hid z3
        have Z4 := Lib.hid z4
        have Z5 := Lib.hid z5
        clear kk mm s0 z0 s1 z1 s2 z2 s3 z3 s4 z4 s5 z5
        have GG := Lib.hid (grown_trans (grown_trans (grown_trans (grown_trans (grown_trans (grown_setCell w8 w.heap.size 0 (.int .i64 0)) (grown_setCell _ w.heap.size 1 (.int .i64 y))) (grown_setCell _ w.heap.size 2 (.int .i64 0))) (grown_setCell _ w.heap.size 3 (.int .i64 xw))) (grown_setCell _ w.heap.size 4 (.bool xl))) (grown_setCell _ w.heap.size 5 (.int .i64 xg)))
        go_wp2
        refine bodyPost_ret (v := .agg #[.int .i64 0, .int .i64 y, .int .i64 0, .int .i64 xw, .bool xl, .int .i64 xg]) (by simp [results, Try.results46, go_sem, Z0.out, Z1.out, Z2.out, Z3.out, Z4.out, Z5.out]) rfl ⟨⟨0, y, 0, xw, xl, xg⟩, rfl, (C8.out.grown GG.out (fun j hj => by cases hj; exact hb)).mono (by omega), grown_past G8.out GG.out (Nat.le_refl _)⟩
      · have t1 : ((r : Int) == 1) = false := by rw [beq_eq_false_iff_ne]; omega
        by_cases e2 : r = 2
        · have t2 : ((r : Int) == 2) = true := by rw [beq_iff_eq]; omega
          clear e2
          skip
          have mm := M6.out
          have sc := cell_of_row w6 P 1 _ _ _ mm
          simp at sc
          clear mm
          go_wp2_with fail
          refine (among_any B b (k + 2 + 2 + 2 + 2 + 2) w6.heap.size 2 2 [-1, 1] _ (C6.out.alloc _) (by omega) rfl (by omega) (by omega) (by omega) (num_cells w6 3 [-1, 1] _ rfl)).mono ?_
          rintro e w7 ⟨y, hx7, rfl, hc, hg⟩
          have K7 := Lib.hid ((hg.block w.heap.size (by simp; omega) (fun e => by have := Option.some.inj e; omega)).trans (old_allocD (o' := .cells #[.int .i64 (-1), .int .i64 1] 3) K6.out))
          have M7 := Lib.hid ((hg.block P (by simp; omega) (fun e => by have := Option.some.inj e; omega)).trans (old_allocD (o' := .cells #[.int .i64 (-1), .int .i64 1] 3) M6.out))
          have G7 := Lib.hid (grown_trans (grown_trans G6.out (World.grownBy_alloc _ (.cells #[.int .i64 (-1), .int .i64 1] 3) (some b))) hg)
          have C7 := Lib.hid hc
          have hz7 := hg.size
          simp at hz7
          clear hc hg hx7
          clear K6 M6 C6 G6
          clear sc
          have mm := M7.out
          have m0 := cell_of_row w7 P 2 _ _ _ mm
          have m1 := frozen_of_row w7 P 2 _ _ mm
          clear mm
          have M8 := Lib.hid (blk_setD (i := 2) (v := .int .i64 y) M7.out)
          have K8 : Hid ((w7.setCell ⟨P, 2, none⟩ (.int .i64 y)).heap[w.heap.size]? = some (.cells #[.int .i64 0, .int .i64 0, .int .i64 0, .int .i64 0, .bool false, .int .i64 0] 25 (0, 0))) := Lib.hid (by simp only [World.setCell, Array.getElem?_modify]; rw [if_neg (by show ¬ P = w.heap.size; omega)]; exact K7.out)
          have G8 := Lib.hid (grown_past G7.out (grown_setCell w7 P 2 (.int .i64 y)) (by omega))
          have C8 := Lib.hid (C7.out.grown (grown_setCell w7 P 2 (.int .i64 y)) (fun j hj => by cases hj; omega))
          have hz8 : (w7.setCell ⟨P, 2, none⟩ (.int .i64 y)).heap.size = w7.heap.size := by simp [World.setCell]
          go_upto_region 17 with fail
          generalize hw8 : w7.setCell ⟨P, 2, none⟩ (.int .i64 y) = w8 at *
          clear hw8 m0 m1 K7 M7 C7 G7
          have kk := K8.out
          have mm := M8.out
          have a0 := cell_of_row w8 P 0 _ _ _ mm
          have a1 := cell_of_row w8 P 1 _ _ _ mm
          have a2 := cell_of_row w8 P 2 _ _ _ mm
          have a3 := cell_of_row w8 P 3 _ _ _ mm
          have a4 := cell_of_row w8 P 4 _ _ _ mm
          have a5 := cell_of_row w8 P 5 _ _ _ mm
          have c0 := cell_of_row w8 w.heap.size 0 _ _ _ kk
          have c1 := cell_of_row w8 w.heap.size 1 _ _ _ kk
          have c2 := cell_of_row w8 w.heap.size 2 _ _ _ kk
          have c3 := cell_of_row w8 w.heap.size 3 _ _ _ kk
          have c4 := cell_of_row w8 w.heap.size 4 _ _ _ kk
          have c5 := cell_of_row w8 w.heap.size 5 _ _ _ kk
          have d0 := frozen_of_row w8 w.heap.size 0 _ _ kk
          have d1 := frozen_of_row w8 w.heap.size 1 _ _ kk
          have d2 := frozen_of_row w8 w.heap.size 2 _ _ kk
          have d3 := frozen_of_row w8 w.heap.size 3 _ _ kk
          have d4 := frozen_of_row w8 w.heap.size 4 _ _ kk
          have d5 := frozen_of_row w8 w.heap.size 5 _ _ kk
          have s0 := blk_setD (i := 0) (v := .int .i64 0) kk
          have z0 := cell_of_row _ w.heap.size 0 _ _ _ s0
          have s1 := blk_setD (i := 1) (v := .int .i64 0) s0
          have z1 := cell_of_row _ w.heap.size 1 _ _ _ s1
          have s2 := blk_setD (i := 2) (v := .int .i64 y) s1
          have z2 := cell_of_row _ w.heap.size 2 _ _ _ s2
          have s3 := blk_setD (i := 3) (v := .int .i64 xw) s2
          have z3 := cell_of_row _ w.heap.size 3 _ _ _ s3
          have s4 := blk_setD (i := 4) (v := .bool xl) s3
          have z4 := cell_of_row _ w.heap.size 4 _ _ _ s4
          have s5 := blk_setD (i := 5) (v := .int .i64 xg) s4
          have z5 := cell_of_row _ w.heap.size 5 _ _ _ s5
          simp at a0 c0 z0 a1 c1 z1 a2 c2 z2 a3 c3 z3 a4 c4 z4 a5 c5 z5
          have Z0 := Lib.hid z0
          have Z1 := Lib.hid z1
          have Z2 := Lib.hid z2
          have Z3 := Lib.hid z3
          have Z4 := Lib.hid z4
          have Z5 := Lib.hid z5
          clear kk mm s0 z0 s1 z1 s2 z2 s3 z3 s4 z4 s5 z5
          have GG := Lib.hid (grown_trans (grown_trans (grown_trans (grown_trans (grown_trans (grown_setCell w8 w.heap.size 0 (.int .i64 0)) (grown_setCell _ w.heap.size 1 (.int .i64 0))) (grown_setCell _ w.heap.size 2 (.int .i64 y))) (grown_setCell _ w.heap.size 3 (.int .i64 xw))) (grown_setCell _ w.heap.size 4 (.bool xl))) (grown_setCell _ w.heap.size 5 (.int .i64 xg)))
          go_wp2
          refine bodyPost_ret (v := .agg #[.int .i64 0, .int .i64 0, .int .i64 y, .int .i64 xw, .bool xl, .int .i64 xg]) (by simp [results, Try.results46, go_sem, Z0.out, Z1.out, Z2.out, Z3.out, Z4.out, Z5.out]) rfl ⟨⟨0, 0, y, xw, xl, xg⟩, rfl, (C8.out.grown GG.out (fun j hj => by cases hj; exact hb)).mono (by omega), grown_past G8.out GG.out (Nat.le_refl _)⟩
        · have t2 : ((r : Int) == 2) = false := by rw [beq_eq_false_iff_ne]; omega
          by_cases e3 : r = 3
          · have t3 : ((r : Int) == 3) = true := by rw [beq_iff_eq]; omega
            clear e3
            go_wp2_with fail
            refine (among_any B b (k + 2 + 2 + 2 + 2 + 2) w6.heap.size 2 2 [-1, 501] _ (C6.out.alloc _) (by omega) rfl (by omega) (by omega) (by omega) (num_cells w6 3 [-1, 501] _ rfl)).mono ?_
            rintro e w7 ⟨y, hx7, rfl, hc, hg⟩
            have K7 := Lib.hid ((hg.block w.heap.size (by simp; omega) (fun e => by have := Option.some.inj e; omega)).trans (old_allocD (o' := .cells #[.int .i64 (-1), .int .i64 501] 3) K6.out))
            have M7 := Lib.hid ((hg.block P (by simp; omega) (fun e => by have := Option.some.inj e; omega)).trans (old_allocD (o' := .cells #[.int .i64 (-1), .int .i64 501] 3) M6.out))
            have G7 := Lib.hid (grown_trans (grown_trans G6.out (World.grownBy_alloc _ (.cells #[.int .i64 (-1), .int .i64 501] 3) (some b))) hg)
            have C7 := Lib.hid hc
            have hz7 := hg.size
            simp at hz7
            clear hc hg hx7
            clear K6 M6 C6 G6
            have mm := M7.out
            have m0 := cell_of_row w7 P 3 _ _ _ mm
            have m1 := frozen_of_row w7 P 3 _ _ mm
            clear mm
            have M8 := Lib.hid (blk_setD (i := 3) (v := .int .i64 y) M7.out)
            have K8 : Hid ((w7.setCell ⟨P, 3, none⟩ (.int .i64 y)).heap[w.heap.size]? = some (.cells #[.int .i64 0, .int .i64 0, .int .i64 0, .int .i64 0, .bool false, .int .i64 0] 25 (0, 0))) := Lib.hid (by simp only [World.setCell, Array.getElem?_modify]; rw [if_neg (by show ¬ P = w.heap.size; omega)]; exact K7.out)
            have G8 := Lib.hid (grown_past G7.out (grown_setCell w7 P 3 (.int .i64 y)) (by omega))
            have C8 := Lib.hid (C7.out.grown (grown_setCell w7 P 3 (.int .i64 y)) (fun j hj => by cases hj; omega))
            have hz8 : (w7.setCell ⟨P, 3, none⟩ (.int .i64 y)).heap.size = w7.heap.size := by simp [World.setCell]
            go_upto_region 17 with fail
            generalize hw8 : w7.setCell ⟨P, 3, none⟩ (.int .i64 y) = w8 at *
            clear hw8 m0 m1 K7 M7 C7 G7
            have kk := K8.out
            have mm := M8.out
            have a0 := cell_of_row w8 P 0 _ _ _ mm
            have a1 := cell_of_row w8 P 1 _ _ _ mm
            have a2 := cell_of_row w8 P 2 _ _ _ mm
            have a3 := cell_of_row w8 P 3 _ _ _ mm
            have a4 := cell_of_row w8 P 4 _ _ _ mm
            have a5 := cell_of_row w8 P 5 _ _ _ mm
            have c0 := cell_of_row w8 w.heap.size 0 _ _ _ kk
            have c1 := cell_of_row w8 w.heap.size 1 _ _ _ kk
            have c2 := cell_of_row w8 w.heap.size 2 _ _ _ kk
            have c3 := cell_of_row w8 w.heap.size 3 _ _ _ kk
            have c4 := cell_of_row w8 w.heap.size 4 _ _ _ kk
            have c5 := cell_of_row w8 w.heap.size 5 _ _ _ kk
            have d0 := frozen_of_row w8 w.heap.size 0 _ _ kk
            have d1 := frozen_of_row w8 w.heap.size 1 _ _ kk
            have d2 := frozen_of_row w8 w.heap.size 2 _ _ kk
            have d3 := frozen_of_row w8 w.heap.size 3 _ _ kk
            have d4 := frozen_of_row w8 w.heap.size 4 _ _ kk
            have d5 := frozen_of_row w8 w.heap.size 5 _ _ kk
            have s0 := blk_setD (i := 0) (v := .int .i64 0) kk
            have z0 := cell_of_row _ w.heap.size 0 _ _ _ s0
            have s1 := blk_setD (i := 1) (v := .int .i64 0) s0
            have z1 := cell_of_row _ w.heap.size 1 _ _ _ s1
            have s2 := blk_setD (i := 2) (v := .int .i64 0) s1
            have z2 := cell_of_row _ w.heap.size 2 _ _ _ s2
            have s3 := blk_setD (i := 3) (v := .int .i64 y) s2
            have z3 := cell_of_row _ w.heap.size 3 _ _ _ s3
            have s4 := blk_setD (i := 4) (v := .bool xl) s3
            have z4 := cell_of_row _ w.heap.size 4 _ _ _ s4
            have s5 := blk_setD (i := 5) (v := .int .i64 xg) s4
            have z5 := cell_of_row _ w.heap.size 5 _ _ _ s5
            simp at a0 c0 z0 a1 c1 z1 a2 c2 z2 a3 c3 z3 a4 c4 z4 a5 c5 z5
            have Z0 := Lib.hid z0
            have Z1 := Lib.hid z1
            have Z2 := Lib.hid z2
            have Z3 := Lib.hid z3
            have Z4 := Lib.hid z4
            have Z5 := Lib.hid z5
            clear kk mm s0 z0 s1 z1 s2 z2 s3 z3 s4 z4 s5 z5
            have GG := Lib.hid (grown_trans (grown_trans (grown_trans (grown_trans (grown_trans (grown_setCell w8 w.heap.size 0 (.int .i64 0)) (grown_setCell _ w.heap.size 1 (.int .i64 0))) (grown_setCell _ w.heap.size 2 (.int .i64 0))) (grown_setCell _ w.heap.size 3 (.int .i64 y))) (grown_setCell _ w.heap.size 4 (.bool xl))) (grown_setCell _ w.heap.size 5 (.int .i64 xg)))
            go_wp2
            refine bodyPost_ret (v := .agg #[.int .i64 0, .int .i64 0, .int .i64 0, .int .i64 y, .bool xl, .int .i64 xg]) (by simp [results, Try.results46, go_sem, Z0.out, Z1.out, Z2.out, Z3.out, Z4.out, Z5.out]) rfl ⟨⟨0, 0, 0, y, xl, xg⟩, rfl, (C8.out.grown GG.out (fun j hj => by cases hj; exact hb)).mono (by omega), grown_past G8.out GG.out (Nat.le_refl _)⟩
          · have t3 : ((r : Int) == 3) = false := by rw [beq_eq_false_iff_ne]; omega
            by_cases e4 : r = 4
            · have t4 : ((r : Int) == 4) = true := by rw [beq_iff_eq]; omega
              clear e4
              go_wp2_with fail
              refine (among_any B b (k + 2 + 2 + 2 + 2 + 2) w6.heap.size 2 2 [-1, 10000] _ (C6.out.alloc _) (by omega) rfl (by omega) (by omega) (by omega) (num_cells w6 3 [-1, 10000] _ rfl)).mono ?_
              rintro e w7 ⟨y, hx7, rfl, hc, hg⟩
              have K7 := Lib.hid ((hg.block w.heap.size (by simp; omega) (fun e => by have := Option.some.inj e; omega)).trans (old_allocD (o' := .cells #[.int .i64 (-1), .int .i64 10000] 3) K6.out))
              have M7 := Lib.hid ((hg.block P (by simp; omega) (fun e => by have := Option.some.inj e; omega)).trans (old_allocD (o' := .cells #[.int .i64 (-1), .int .i64 10000] 3) M6.out))
              have G7 := Lib.hid (grown_trans (grown_trans G6.out (World.grownBy_alloc _ (.cells #[.int .i64 (-1), .int .i64 10000] 3) (some b))) hg)
              have C7 := Lib.hid hc
              have hz7 := hg.size
              simp at hz7
              clear hc hg hx7
              clear K6 M6 C6 G6
              have mm := M7.out
              have m0 := cell_of_row w7 P 5 _ _ _ mm
              have m1 := frozen_of_row w7 P 5 _ _ mm
              clear mm
              have M8 := Lib.hid (blk_setD (i := 5) (v := .int .i64 y) M7.out)
              have K8 : Hid ((w7.setCell ⟨P, 5, none⟩ (.int .i64 y)).heap[w.heap.size]? = some (.cells #[.int .i64 0, .int .i64 0, .int .i64 0, .int .i64 0, .bool false, .int .i64 0] 25 (0, 0))) := Lib.hid (by simp only [World.setCell, Array.getElem?_modify]; rw [if_neg (by show ¬ P = w.heap.size; omega)]; exact K7.out)
              have G8 := Lib.hid (grown_past G7.out (grown_setCell w7 P 5 (.int .i64 y)) (by omega))
              have C8 := Lib.hid (C7.out.grown (grown_setCell w7 P 5 (.int .i64 y)) (fun j hj => by cases hj; omega))
              have hz8 : (w7.setCell ⟨P, 5, none⟩ (.int .i64 y)).heap.size = w7.heap.size := by simp [World.setCell]
              go_upto_region 17 with fail
              generalize hw8 : w7.setCell ⟨P, 5, none⟩ (.int .i64 y) = w8 at *
              clear hw8 m0 m1 K7 M7 C7 G7
              have kk := K8.out
              have mm := M8.out
              have a0 := cell_of_row w8 P 0 _ _ _ mm
              have a1 := cell_of_row w8 P 1 _ _ _ mm
              have a2 := cell_of_row w8 P 2 _ _ _ mm
              have a3 := cell_of_row w8 P 3 _ _ _ mm
              have a4 := cell_of_row w8 P 4 _ _ _ mm
              have a5 := cell_of_row w8 P 5 _ _ _ mm
              have c0 := cell_of_row w8 w.heap.size 0 _ _ _ kk
              have c1 := cell_of_row w8 w.heap.size 1 _ _ _ kk
              have c2 := cell_of_row w8 w.heap.size 2 _ _ _ kk
              have c3 := cell_of_row w8 w.heap.size 3 _ _ _ kk
              have c4 := cell_of_row w8 w.heap.size 4 _ _ _ kk
              have c5 := cell_of_row w8 w.heap.size 5 _ _ _ kk
              have d0 := frozen_of_row w8 w.heap.size 0 _ _ kk
              have d1 := frozen_of_row w8 w.heap.size 1 _ _ kk
              have d2 := frozen_of_row w8 w.heap.size 2 _ _ kk
              have d3 := frozen_of_row w8 w.heap.size 3 _ _ kk
              have d4 := frozen_of_row w8 w.heap.size 4 _ _ kk
              have d5 := frozen_of_row w8 w.heap.size 5 _ _ kk
              have s0 := blk_setD (i := 0) (v := .int .i64 0) kk
              have z0 := cell_of_row _ w.heap.size 0 _ _ _ s0
              have s1 := blk_setD (i := 1) (v := .int .i64 0) s0
              have z1 := cell_of_row _ w.heap.size 1 _ _ _ s1
              have s2 := blk_setD (i := 2) (v := .int .i64 0) s1
              have z2 := cell_of_row _ w.heap.size 2 _ _ _ s2
              have s3 := blk_setD (i := 3) (v := .int .i64 xw) s2
              have z3 := cell_of_row _ w.heap.size 3 _ _ _ s3
              have s4 := blk_setD (i := 4) (v := .bool xl) s3
              have z4 := cell_of_row _ w.heap.size 4 _ _ _ s4
              have s5 := blk_setD (i := 5) (v := .int .i64 y) s4
              have z5 := cell_of_row _ w.heap.size 5 _ _ _ s5
              simp at a0 c0 z0 a1 c1 z1 a2 c2 z2 a3 c3 z3 a4 c4 z4 a5 c5 z5
              have Z0 := Lib.hid z0
              have Z1 := Lib.hid z1
              have Z2 := Lib.hid z2
              have Z3 := Lib.hid z3
              have Z4 := Lib.hid z4
              have Z5 := Lib.hid z5
              clear kk mm s0 z0 s1 z1 s2 z2 s3 z3 s4 z4 s5 z5
              have GG := Lib.hid (grown_trans (grown_trans (grown_trans (grown_trans (grown_trans (grown_setCell w8 w.heap.size 0 (.int .i64 0)) (grown_setCell _ w.heap.size 1 (.int .i64 0))) (grown_setCell _ w.heap.size 2 (.int .i64 0))) (grown_setCell _ w.heap.size 3 (.int .i64 xw))) (grown_setCell _ w.heap.size 4 (.bool xl))) (grown_setCell _ w.heap.size 5 (.int .i64 y)))
              go_wp2
              refine bodyPost_ret (v := .agg #[.int .i64 0, .int .i64 0, .int .i64 0, .int .i64 xw, .bool xl, .int .i64 y]) (by simp [results, Try.results46, go_sem, Z0.out, Z1.out, Z2.out, Z3.out, Z4.out, Z5.out]) rfl ⟨⟨0, 0, 0, xw, xl, y⟩, rfl, (C8.out.grown GG.out (fun j hj => by cases hj; exact hb)).mono (by omega), grown_past G8.out GG.out (Nat.le_refl _)⟩
            · have t4 : ((r : Int) == 4) = false := by rw [beq_eq_false_iff_ne]; omega
              have kk := K6.out
              have mm := M6.out
              have a0 := cell_of_row w6 P 0 _ _ _ mm
              have a1 := cell_of_row w6 P 1 _ _ _ mm
              have a2 := cell_of_row w6 P 2 _ _ _ mm
              have a3 := cell_of_row w6 P 3 _ _ _ mm
              have a4 := cell_of_row w6 P 4 _ _ _ mm
              have a5 := cell_of_row w6 P 5 _ _ _ mm
              have c0 := cell_of_row w6 w.heap.size 0 _ _ _ kk
              have c1 := cell_of_row w6 w.heap.size 1 _ _ _ kk
              have c2 := cell_of_row w6 w.heap.size 2 _ _ _ kk
              have c3 := cell_of_row w6 w.heap.size 3 _ _ _ kk
              have c4 := cell_of_row w6 w.heap.size 4 _ _ _ kk
              have c5 := cell_of_row w6 w.heap.size 5 _ _ _ kk
              have d0 := frozen_of_row w6 w.heap.size 0 _ _ kk
              have d1 := frozen_of_row w6 w.heap.size 1 _ _ kk
              have d2 := frozen_of_row w6 w.heap.size 2 _ _ kk
              have d3 := frozen_of_row w6 w.heap.size 3 _ _ kk
              have d4 := frozen_of_row w6 w.heap.size 4 _ _ kk
              have d5 := frozen_of_row w6 w.heap.size 5 _ _ kk
              have s0 := blk_setD (i := 0) (v := .int .i64 0) kk
              have z0 := cell_of_row _ w.heap.size 0 _ _ _ s0
              have s1 := blk_setD (i := 1) (v := .int .i64 0) s0
              have z1 := cell_of_row _ w.heap.size 1 _ _ _ s1
              have s2 := blk_setD (i := 2) (v := .int .i64 0) s1
              have z2 := cell_of_row _ w.heap.size 2 _ _ _ s2
              have s3 := blk_setD (i := 3) (v := .int .i64 xw) s2
              have z3 := cell_of_row _ w.heap.size 3 _ _ _ s3
              have s4 := blk_setD (i := 4) (v := .bool xl) s3
              have z4 := cell_of_row _ w.heap.size 4 _ _ _ s4
              have s5 := blk_setD (i := 5) (v := .int .i64 xg) s4
              have z5 := cell_of_row _ w.heap.size 5 _ _ _ s5
              simp at a0 c0 z0 a1 c1 z1 a2 c2 z2 a3 c3 z3 a4 c4 z4 a5 c5 z5
              have Z0 := Lib.hid z0
              have Z1 := Lib.hid z1
              have Z2 := Lib.hid z2
              have Z3 := Lib.hid z3
              have Z4 := Lib.hid z4
              have Z5 := Lib.hid z5
              clear kk mm s0 z0 s1 z1 s2 z2 s3 z3 s4 z4 s5 z5
              have GG := Lib.hid (grown_trans (grown_trans (grown_trans (grown_trans (grown_trans (grown_setCell w6 w.heap.size 0 (.int .i64 0)) (grown_setCell _ w.heap.size 1 (.int .i64 0))) (grown_setCell _ w.heap.size 2 (.int .i64 0))) (grown_setCell _ w.heap.size 3 (.int .i64 xw))) (grown_setCell _ w.heap.size 4 (.bool xl))) (grown_setCell _ w.heap.size 5 (.int .i64 xg)))
              go_wp2
              refine bodyPost_ret (v := .agg #[.int .i64 0, .int .i64 0, .int .i64 0, .int .i64 xw, .bool xl, .int .i64 xg]) (by simp [results, Try.results46, go_sem, Z0.out, Z1.out, Z2.out, Z3.out, Z4.out, Z5.out]) rfl ⟨⟨0, 0, 0, xw, xl, xg⟩, rfl, (C6.out.grown GG.out (fun j hj => by cases hj; exact hb)).mono (by omega), grown_past G6.out GG.out (Nat.le_refl _)⟩
  | false =>
    go_wp2_with fail
    refine (among_any B b (k + 2 + 2 + 2 + 2) w5.heap.size 4 4 [1, 4, 8, 16] _ (C5.out.alloc _) (by omega) rfl (by omega) (by omega) (by omega) (num_cells w5 3 [1, 4, 8, 16] _ rfl)).mono ?_
    rintro e w6 ⟨ys, hx6, rfl, hc, hg⟩
    have K6 := Lib.hid ((hg.block w.heap.size (by simp; omega) (fun e => by have := Option.some.inj e; omega)).trans (old_allocD (o' := .cells #[.int .i64 1, .int .i64 4, .int .i64 8, .int .i64 16] 3) K5.out))
    have M6 := Lib.hid ((hg.block P (by simp; omega) (fun e => by have := Option.some.inj e; omega)).trans (old_allocD (o' := .cells #[.int .i64 1, .int .i64 4, .int .i64 8, .int .i64 16] 3) M5.out))
    have G6 := Lib.hid (grown_trans (grown_trans G5.out (World.grownBy_alloc _ (.cells #[.int .i64 1, .int .i64 4, .int .i64 8, .int .i64 16] 3) (some b))) hg)
    have BD : 0 ≤ ys ∧ ys ≤ 16 := by simp at hx6; omega
    have C6 := Lib.hid hc
    have hz6 := hg.size
    simp at hz6
    clear hc hg hx6
    clear K5 M5 C5 G5
    have mm := M6.out
    have m0 := cell_of_row w6 P 1 _ _ _ mm
    have m1 := frozen_of_row w6 P 1 _ _ mm
    clear mm
    have M7 := Lib.hid (blk_setD (i := 1) (v := .int .i64 ys) M6.out)
    have K7 : Hid ((w6.setCell ⟨P, 1, none⟩ (.int .i64 ys)).heap[w.heap.size]? = some (.cells #[.int .i64 0, .int .i64 0, .int .i64 0, .int .i64 0, .bool false, .int .i64 0] 25 (0, 0))) := Lib.hid (by simp only [World.setCell, Array.getElem?_modify]; rw [if_neg (by show ¬ P = w.heap.size; omega)]; exact K6.out)
    have G7 := Lib.hid (grown_past G6.out (grown_setCell w6 P 1 (.int .i64 ys)) (by omega))
    have C7 := Lib.hid (C6.out.grown (grown_setCell w6 P 1 (.int .i64 ys)) (fun j hj => by cases hj; omega))
    have hz7 : (w6.setCell ⟨P, 1, none⟩ (.int .i64 ys)).heap.size = w6.heap.size := by simp [World.setCell]
    go_upto_region 4 with fail
    generalize hw7 : w6.setCell ⟨P, 1, none⟩ (.int .i64 ys) = w7 at *
    clear hw7 m0 m1 K6 M6 C6 G6
    have qs : IntKind.i64.wrap (ys + 1) = ys + 1 := IntWalk.i64_in _ (by omega)
    have mm := M7.out
    have sc := cell_of_row w7 P 1 _ _ _ mm
    simp at sc
    clear mm
    go_wp2_with fail
    refine (pick_any B b (k + 2 + 2 + 2 + 2 + 2) (ys + 1) w7 C7.out (by omega) (by omega) (by omega)).mono ?_
    rintro e w8 ⟨yi, rfl, hr8, hc, hg⟩
    have K8 := Lib.hid ((hg.block w.heap.size (by omega) (fun e => by have := Option.some.inj e; omega)).trans K7.out)
    have M8 := Lib.hid ((hg.block P (by omega) (fun e => by have := Option.some.inj e; omega)).trans M7.out)
    have G8 := Lib.hid (grown_trans G7.out hg)
    have C8 := Lib.hid hc
    have hz8 := hg.size
    clear hc hg
    clear K7 M7 C7 G7
    clear sc
    have mm := M8.out
    have m0 := cell_of_row w8 P 2 _ _ _ mm
    have m1 := frozen_of_row w8 P 2 _ _ mm
    clear mm
    have M9 := Lib.hid (blk_setD (i := 2) (v := .int .i64 (yi : Int)) M8.out)
    have K9 : Hid ((w8.setCell ⟨P, 2, none⟩ (.int .i64 (yi : Int))).heap[w.heap.size]? = some (.cells #[.int .i64 0, .int .i64 0, .int .i64 0, .int .i64 0, .bool false, .int .i64 0] 25 (0, 0))) := Lib.hid (by simp only [World.setCell, Array.getElem?_modify]; rw [if_neg (by show ¬ P = w.heap.size; omega)]; exact K8.out)
    have G9 := Lib.hid (grown_past G8.out (grown_setCell w8 P 2 (.int .i64 (yi : Int))) (by omega))
    have C9 := Lib.hid (C8.out.grown (grown_setCell w8 P 2 (.int .i64 (yi : Int))) (fun j hj => by cases hj; omega))
    have hz9 : (w8.setCell ⟨P, 2, none⟩ (.int .i64 (yi : Int))).heap.size = w8.heap.size := by simp [World.setCell]
    go_upto_region 5 with fail
    generalize hw9 : w8.setCell ⟨P, 2, none⟩ (.int .i64 (yi : Int)) = w9 at *
    clear hw9 m0 m1 K8 M8 C8 G8
    go_wp2_with fail
    refine (pick_any B b (k + 2 + 2 + 2 + 2 + 2 + 2) (2) w9 C9.out (by omega) (by omega) (by omega)).mono ?_
    rintro e w10 ⟨yd, rfl, hr10, hc, hg⟩
    have K10 := Lib.hid ((hg.block w.heap.size (by omega) (fun e => by have := Option.some.inj e; omega)).trans K9.out)
    have M10 := Lib.hid ((hg.block P (by omega) (fun e => by have := Option.some.inj e; omega)).trans M9.out)
    have G10 := Lib.hid (grown_trans G9.out hg)
    have C10 := Lib.hid hc
    have hz10 := hg.size
    clear hc hg
    clear K9 M9 C9 G9
    have mm := M10.out
    have m0 := cell_of_row w10 P 0 _ _ _ mm
    have m1 := frozen_of_row w10 P 0 _ _ mm
    clear mm
    have M11 := Lib.hid (blk_setD (i := 0) (v := .int .i64 (yd : Int)) M10.out)
    have K11 : Hid ((w10.setCell ⟨P, 0, none⟩ (.int .i64 (yd : Int))).heap[w.heap.size]? = some (.cells #[.int .i64 0, .int .i64 0, .int .i64 0, .int .i64 0, .bool false, .int .i64 0] 25 (0, 0))) := Lib.hid (by simp only [World.setCell, Array.getElem?_modify]; rw [if_neg (by show ¬ P = w.heap.size; omega)]; exact K10.out)
    have G11 := Lib.hid (grown_past G10.out (grown_setCell w10 P 0 (.int .i64 (yd : Int))) (by omega))
    have C11 := Lib.hid (C10.out.grown (grown_setCell w10 P 0 (.int .i64 (yd : Int))) (fun j hj => by cases hj; omega))
    have hz11 : (w10.setCell ⟨P, 0, none⟩ (.int .i64 (yd : Int))).heap.size = w10.heap.size := by simp [World.setCell]
    go_upto_region 6 with fail
    generalize hw11 : w10.setCell ⟨P, 0, none⟩ (.int .i64 (yd : Int)) = w11 at *
    clear hw11 m0 m1 K10 M10 C10 G10
    go_wp2_with fail
    refine (pick_any B b (k + 2 + 2 + 2 + 2 + 2 + 2 + 2) (60) w11 C11.out (by omega) (by omega) (by omega)).mono ?_
    rintro e w12 ⟨r, rfl, hr12, hc, hg⟩
    have K12 := Lib.hid ((hg.block w.heap.size (by omega) (fun e => by have := Option.some.inj e; omega)).trans K11.out)
    have M12 := Lib.hid ((hg.block P (by omega) (fun e => by have := Option.some.inj e; omega)).trans M11.out)
    have G12 := Lib.hid (grown_trans G11.out hg)
    have C12 := Lib.hid hc
    have hz12 := hg.size
    clear hc hg
    clear K11 M11 C11 G11
    by_cases e0 : r = 0
    · have t0 : ((r : Int) == 0) = true := by rw [beq_iff_eq]; omega
      clear e0
      go_wp2_with fail
      refine (among_any B b (k + 2 + 2 + 2 + 2 + 2 + 2 + 2 + 2) w12.heap.size 3 3 [-1, 1, 2] _ (C12.out.alloc _) (by omega) rfl (by omega) (by omega) (by omega) (num_cells w12 3 [-1, 1, 2] _ rfl)).mono ?_
      rintro e w13 ⟨y, hx13, rfl, hc, hg⟩
      have K13 := Lib.hid ((hg.block w.heap.size (by simp; omega) (fun e => by have := Option.some.inj e; omega)).trans (old_allocD (o' := .cells #[.int .i64 (-1), .int .i64 1, .int .i64 2] 3) K12.out))
      have M13 := Lib.hid ((hg.block P (by simp; omega) (fun e => by have := Option.some.inj e; omega)).trans (old_allocD (o' := .cells #[.int .i64 (-1), .int .i64 1, .int .i64 2] 3) M12.out))
      have G13 := Lib.hid (grown_trans (grown_trans G12.out (World.grownBy_alloc _ (.cells #[.int .i64 (-1), .int .i64 1, .int .i64 2] 3) (some b))) hg)
      have C13 := Lib.hid hc
      have hz13 := hg.size
      simp at hz13
      clear hc hg hx13
      clear K12 M12 C12 G12
      have mm := M13.out
      have m0 := cell_of_row w13 P 0 _ _ _ mm
      have m1 := frozen_of_row w13 P 0 _ _ mm
      clear mm
      have M14 := Lib.hid (blk_setD (i := 0) (v := .int .i64 y) M13.out)
      have K14 : Hid ((w13.setCell ⟨P, 0, none⟩ (.int .i64 y)).heap[w.heap.size]? = some (.cells #[.int .i64 0, .int .i64 0, .int .i64 0, .int .i64 0, .bool false, .int .i64 0] 25 (0, 0))) := Lib.hid (by simp only [World.setCell, Array.getElem?_modify]; rw [if_neg (by show ¬ P = w.heap.size; omega)]; exact K13.out)
      have G14 := Lib.hid (grown_past G13.out (grown_setCell w13 P 0 (.int .i64 y)) (by omega))
      have C14 := Lib.hid (C13.out.grown (grown_setCell w13 P 0 (.int .i64 y)) (fun j hj => by cases hj; omega))
      have hz14 : (w13.setCell ⟨P, 0, none⟩ (.int .i64 y)).heap.size = w13.heap.size := by simp [World.setCell]
      go_upto_region 17 with fail
      generalize hw14 : w13.setCell ⟨P, 0, none⟩ (.int .i64 y) = w14 at *
      clear hw14 m0 m1 K13 M13 C13 G13
      have kk := K14.out
      have mm := M14.out
      have a0 := cell_of_row w14 P 0 _ _ _ mm
      have a1 := cell_of_row w14 P 1 _ _ _ mm
      have a2 := cell_of_row w14 P 2 _ _ _ mm
      have a3 := cell_of_row w14 P 3 _ _ _ mm
      have a4 := cell_of_row w14 P 4 _ _ _ mm
      have a5 := cell_of_row w14 P 5 _ _ _ mm
      have c0 := cell_of_row w14 w.heap.size 0 _ _ _ kk
      have c1 := cell_of_row w14 w.heap.size 1 _ _ _ kk
      have c2 := cell_of_row w14 w.heap.size 2 _ _ _ kk
      have c3 := cell_of_row w14 w.heap.size 3 _ _ _ kk
      have c4 := cell_of_row w14 w.heap.size 4 _ _ _ kk
      have c5 := cell_of_row w14 w.heap.size 5 _ _ _ kk
      have d0 := frozen_of_row w14 w.heap.size 0 _ _ kk
      have d1 := frozen_of_row w14 w.heap.size 1 _ _ kk
      have d2 := frozen_of_row w14 w.heap.size 2 _ _ kk
      have d3 := frozen_of_row w14 w.heap.size 3 _ _ kk
      have d4 := frozen_of_row w14 w.heap.size 4 _ _ kk
      have d5 := frozen_of_row w14 w.heap.size 5 _ _ kk
      have s0 := blk_setD (i := 0) (v := .int .i64 y) kk
      have z0 := cell_of_row _ w.heap.size 0 _ _ _ s0
      have s1 := blk_setD (i := 1) (v := .int .i64 ys) s0
      have z1 := cell_of_row _ w.heap.size 1 _ _ _ s1
      have s2 := blk_setD (i := 2) (v := .int .i64 (yi : Int)) s1
      have z2 := cell_of_row _ w.heap.size 2 _ _ _ s2
      have s3 := blk_setD (i := 3) (v := .int .i64 xw) s2
      have z3 := cell_of_row _ w.heap.size 3 _ _ _ s3
      have s4 := blk_setD (i := 4) (v := .bool xl) s3
      have z4 := cell_of_row _ w.heap.size 4 _ _ _ s4
      have s5 := blk_setD (i := 5) (v := .int .i64 xg) s4
      have z5 := cell_of_row _ w.heap.size 5 _ _ _ s5
      simp at a0 c0 z0 a1 c1 z1 a2 c2 z2 a3 c3 z3 a4 c4 z4 a5 c5 z5
      have Z0 := Lib.hid z0
      have Z1 := Lib.hid z1
      have Z2 := Lib.hid z2
      have Z3 := Lib.hid z3
      have Z4 := Lib.hid z4
      have Z5 := Lib.hid z5
      clear kk mm s0 z0 s1 z1 s2 z2 s3 z3 s4 z4 s5 z5
      have GG := Lib.hid (grown_trans (grown_trans (grown_trans (grown_trans (grown_trans (grown_setCell w14 w.heap.size 0 (.int .i64 y)) (grown_setCell _ w.heap.size 1 (.int .i64 ys))) (grown_setCell _ w.heap.size 2 (.int .i64 (yi : Int)))) (grown_setCell _ w.heap.size 3 (.int .i64 xw))) (grown_setCell _ w.heap.size 4 (.bool xl))) (grown_setCell _ w.heap.size 5 (.int .i64 xg)))
      go_wp2
      refine bodyPost_ret (v := .agg #[.int .i64 y, .int .i64 ys, .int .i64 (yi : Int), .int .i64 xw, .bool xl, .int .i64 xg]) (by simp [results, Try.results46, go_sem, Z0.out, Z1.out, Z2.out, Z3.out, Z4.out, Z5.out]) rfl ⟨⟨y, ys, (yi : Int), xw, xl, xg⟩, rfl, (C14.out.grown GG.out (fun j hj => by cases hj; exact hb)).mono (by omega), grown_past G14.out GG.out (Nat.le_refl _)⟩
    · have t0 : ((r : Int) == 0) = false := by rw [beq_eq_false_iff_ne]; omega
      by_cases e1 : r = 1
      · have t1 : ((r : Int) == 1) = true := by rw [beq_iff_eq]; omega
        clear e1
        go_wp2_with fail
        refine (among_any B b (k + 2 + 2 + 2 + 2 + 2 + 2 + 2 + 2) w12.heap.size 2 2 [-1, 17] _ (C12.out.alloc _) (by omega) rfl (by omega) (by omega) (by omega) (num_cells w12 3 [-1, 17] _ rfl)).mono ?_
        rintro e w13 ⟨y, hx13, rfl, hc, hg⟩
        have K13 := Lib.hid ((hg.block w.heap.size (by simp; omega) (fun e => by have := Option.some.inj e; omega)).trans (old_allocD (o' := .cells #[.int .i64 (-1), .int .i64 17] 3) K12.out))
        have M13 := Lib.hid ((hg.block P (by simp; omega) (fun e => by have := Option.some.inj e; omega)).trans (old_allocD (o' := .cells #[.int .i64 (-1), .int .i64 17] 3) M12.out))
        have G13 := Lib.hid (grown_trans (grown_trans G12.out (World.grownBy_alloc _ (.cells #[.int .i64 (-1), .int .i64 17] 3) (some b))) hg)
        have C13 := Lib.hid hc
        have hz13 := hg.size
        simp at hz13
        clear hc hg hx13
        clear K12 M12 C12 G12
        have mm := M13.out
        have m0 := cell_of_row w13 P 1 _ _ _ mm
        have m1 := frozen_of_row w13 P 1 _ _ mm
        clear mm
        have M14 := Lib.hid (blk_setD (i := 1) (v := .int .i64 y) M13.out)
        have K14 : Hid ((w13.setCell ⟨P, 1, none⟩ (.int .i64 y)).heap[w.heap.size]? = some (.cells #[.int .i64 0, .int .i64 0, .int .i64 0, .int .i64 0, .bool false, .int .i64 0] 25 (0, 0))) := Lib.hid (by simp only [World.setCell, Array.getElem?_modify]; rw [if_neg (by show ¬ P = w.heap.size; omega)]; exact K13.out)
        have G14 := Lib.hid (grown_past G13.out (grown_setCell w13 P 1 (.int .i64 y)) (by omega))
        have C14 := Lib.hid (C13.out.grown (grown_setCell w13 P 1 (.int .i64 y)) (fun j hj => by cases hj; omega))
        have hz14 : (w13.setCell ⟨P, 1, none⟩ (.int .i64 y)).heap.size = w13.heap.size := by simp [World.setCell]
        go_upto_region 17 with fail
        generalize hw14 : w13.setCell ⟨P, 1, none⟩ (.int .i64 y) = w14 at *
        clear hw14 m0 m1 K13 M13 C13 G13
        have kk := K14.out
        have mm := M14.out
        have a0 := cell_of_row w14 P 0 _ _ _ mm
        have a1 := cell_of_row w14 P 1 _ _ _ mm
        have a2 := cell_of_row w14 P 2 _ _ _ mm
        have a3 := cell_of_row w14 P 3 _ _ _ mm
        have a4 := cell_of_row w14 P 4 _ _ _ mm
        have a5 := cell_of_row w14 P 5 _ _ _ mm
        have c0 := cell_of_row w14 w.heap.size 0 _ _ _ kk
        have c1 := cell_of_row w14 w.heap.size 1 _ _ _ kk
        have c2 := cell_of_row w14 w.heap.size 2 _ _ _ kk
        have c3 := cell_of_row w14 w.heap.size 3 _ _ _ kk
        have c4 := cell_of_row w14 w.heap.size 4 _ _ _ kk
        have c5 := cell_of_row w14 w.heap.size 5 _ _ _ kk
        have d0 := frozen_of_row w14 w.heap.size 0 _ _ kk
        have d1 := frozen_of_row w14 w.heap.size 1 _ _ kk
        have d2 := frozen_of_row w14 w.heap.size 2 _ _ kk
        have d3 := frozen_of_row w14 w.heap.size 3 _ _ kk
        have d4 := frozen_of_row w14 w.heap.size 4 _ _ kk
        have d5 := frozen_of_row w14 w.heap.size 5 _ _ kk
        have s0 := blk_setD (i := 0) (v := .int .i64 (yd : Int)) kk
        have z0 := cell_of_row _ w.heap.size 0 _ _ _ s0
        have s1 := blk_setD (i := 1) (v := .int .i64 y) s0
        have z1 := cell_of_row _ w.heap.size 1 _ _ _ s1
        have s2 := blk_setD (i := 2) (v := .int .i64 (yi : Int)) s1
        have z2 := cell_of_row _ w.heap.size 2 _ _ _ s2
        have s3 := blk_setD (i := 3) (v := .int .i64 xw) s2
        have z3 := cell_of_row _ w.heap.size 3 _ _ _ s3
        have s4 := blk_setD (i := 4) (v := .bool xl) s3
        have z4 := cell_of_row _ w.heap.size 4 _ _ _ s4
        have s5 := blk_setD (i := 5) (v := .int .i64 xg) s4
        have z5 := cell_of_row _ w.heap.size 5 _ _ _ s5
        simp at a0 c0 z0 a1 c1 z1 a2 c2 z2 a3 c3 z3 a4 c4 z4 a5 c5 z5
        have Z0 := Lib.hid z0
        have Z1 := Lib.hid z1
        have Z2 := Lib.hid z2
        have Z3 := Lib.hid z3
        have Z4 := Lib.hid z4
        have Z5 := Lib.hid z5
        clear kk mm s0 z0 s1 z1 s2 z2 s3 z3 s4 z4 s5 z5
        have GG := Lib.hid (grown_trans (grown_trans (grown_trans (grown_trans (grown_trans (grown_setCell w14 w.heap.size 0 (.int .i64 (yd : Int))) (grown_setCell _ w.heap.size 1 (.int .i64 y))) (grown_setCell _ w.heap.size 2 (.int .i64 (yi : Int)))) (grown_setCell _ w.heap.size 3 (.int .i64 xw))) (grown_setCell _ w.heap.size 4 (.bool xl))) (grown_setCell _ w.heap.size 5 (.int .i64 xg)))
        go_wp2
        refine bodyPost_ret (v := .agg #[.int .i64 (yd : Int), .int .i64 y, .int .i64 (yi : Int), .int .i64 xw, .bool xl, .int .i64 xg]) (by simp [results, Try.results46, go_sem, Z0.out, Z1.out, Z2.out, Z3.out, Z4.out, Z5.out]) rfl ⟨⟨(yd : Int), y, (yi : Int), xw, xl, xg⟩, rfl, (C14.out.grown GG.out (fun j hj => by cases hj; exact hb)).mono (by omega), grown_past G14.out GG.out (Nat.le_refl _)⟩
      · have t1 : ((r : Int) == 1) = false := by rw [beq_eq_false_iff_ne]; omega
        by_cases e2 : r = 2
        · have t2 : ((r : Int) == 2) = true := by rw [beq_iff_eq]; omega
          clear e2
          have qs : IntKind.i64.wrap (ys + 1) = ys + 1 := IntWalk.i64_in _ (by omega)
          have mm := M12.out
          have sc := cell_of_row w12 P 1 _ _ _ mm
          simp at sc
          clear mm
          go_wp2_with fail
          refine (among_any B b (k + 2 + 2 + 2 + 2 + 2 + 2 + 2 + 2) w12.heap.size 2 2 [-1, ys + 1] _ (C12.out.alloc _) (by omega) rfl (by omega) (by omega) (by omega) (num_cells w12 3 [-1, ys + 1] _ rfl)).mono ?_
          rintro e w13 ⟨y, hx13, rfl, hc, hg⟩
          have K13 := Lib.hid ((hg.block w.heap.size (by simp; omega) (fun e => by have := Option.some.inj e; omega)).trans (old_allocD (o' := .cells #[.int .i64 (-1), .int .i64 (ys + 1)] 3) K12.out))
          have M13 := Lib.hid ((hg.block P (by simp; omega) (fun e => by have := Option.some.inj e; omega)).trans (old_allocD (o' := .cells #[.int .i64 (-1), .int .i64 (ys + 1)] 3) M12.out))
          have G13 := Lib.hid (grown_trans (grown_trans G12.out (World.grownBy_alloc _ (.cells #[.int .i64 (-1), .int .i64 (ys + 1)] 3) (some b))) hg)
          have C13 := Lib.hid hc
          have hz13 := hg.size
          simp at hz13
          clear hc hg hx13
          clear K12 M12 C12 G12
          clear sc
          have mm := M13.out
          have m0 := cell_of_row w13 P 2 _ _ _ mm
          have m1 := frozen_of_row w13 P 2 _ _ mm
          clear mm
          have M14 := Lib.hid (blk_setD (i := 2) (v := .int .i64 y) M13.out)
          have K14 : Hid ((w13.setCell ⟨P, 2, none⟩ (.int .i64 y)).heap[w.heap.size]? = some (.cells #[.int .i64 0, .int .i64 0, .int .i64 0, .int .i64 0, .bool false, .int .i64 0] 25 (0, 0))) := Lib.hid (by simp only [World.setCell, Array.getElem?_modify]; rw [if_neg (by show ¬ P = w.heap.size; omega)]; exact K13.out)
          have G14 := Lib.hid (grown_past G13.out (grown_setCell w13 P 2 (.int .i64 y)) (by omega))
          have C14 := Lib.hid (C13.out.grown (grown_setCell w13 P 2 (.int .i64 y)) (fun j hj => by cases hj; omega))
          have hz14 : (w13.setCell ⟨P, 2, none⟩ (.int .i64 y)).heap.size = w13.heap.size := by simp [World.setCell]
          go_upto_region 17 with fail
          generalize hw14 : w13.setCell ⟨P, 2, none⟩ (.int .i64 y) = w14 at *
          clear hw14 m0 m1 K13 M13 C13 G13
          have kk := K14.out
          have mm := M14.out
          have a0 := cell_of_row w14 P 0 _ _ _ mm
          have a1 := cell_of_row w14 P 1 _ _ _ mm
          have a2 := cell_of_row w14 P 2 _ _ _ mm
          have a3 := cell_of_row w14 P 3 _ _ _ mm
          have a4 := cell_of_row w14 P 4 _ _ _ mm
          have a5 := cell_of_row w14 P 5 _ _ _ mm
          have c0 := cell_of_row w14 w.heap.size 0 _ _ _ kk
          have c1 := cell_of_row w14 w.heap.size 1 _ _ _ kk
          have c2 := cell_of_row w14 w.heap.size 2 _ _ _ kk
          have c3 := cell_of_row w14 w.heap.size 3 _ _ _ kk
          have c4 := cell_of_row w14 w.heap.size 4 _ _ _ kk
          have c5 := cell_of_row w14 w.heap.size 5 _ _ _ kk
          have d0 := frozen_of_row w14 w.heap.size 0 _ _ kk
          have d1 := frozen_of_row w14 w.heap.size 1 _ _ kk
          have d2 := frozen_of_row w14 w.heap.size 2 _ _ kk
          have d3 := frozen_of_row w14 w.heap.size 3 _ _ kk
          have d4 := frozen_of_row w14 w.heap.size 4 _ _ kk
          have d5 := frozen_of_row w14 w.heap.size 5 _ _ kk
          have s0 := blk_setD (i := 0) (v := .int .i64 (yd : Int)) kk
          have z0 := cell_of_row _ w.heap.size 0 _ _ _ s0
          have s1 := blk_setD (i := 1) (v := .int .i64 ys) s0
          have z1 := cell_of_row _ w.heap.size 1 _ _ _ s1
          have s2 := blk_setD (i := 2) (v := .int .i64 y) s1
          have z2 := cell_of_row _ w.heap.size 2 _ _ _ s2
          have s3 := blk_setD (i := 3) (v := .int .i64 xw) s2
          have z3 := cell_of_row _ w.heap.size 3 _ _ _ s3
          have s4 := blk_setD (i := 4) (v := .bool xl) s3
          have z4 := cell_of_row _ w.heap.size 4 _ _ _ s4
          have s5 := blk_setD (i := 5) (v := .int .i64 xg) s4
          have z5 := cell_of_row _ w.heap.size 5 _ _ _ s5
          simp at a0 c0 z0 a1 c1 z1 a2 c2 z2 a3 c3 z3 a4 c4 z4 a5 c5 z5
          have Z0 := Lib.hid z0
          have Z1 := Lib.hid z1
          have Z2 := Lib.hid z2
          have Z3 := Lib.hid z3
          have Z4 := Lib.hid z4
          have Z5 := Lib.hid z5
          clear kk mm s0 z0 s1 z1 s2 z2 s3 z3 s4 z4 s5 z5
          have GG := Lib.hid (grown_trans (grown_trans (grown_trans (grown_trans (grown_trans (grown_setCell w14 w.heap.size 0 (.int .i64 (yd : Int))) (grown_setCell _ w.heap.size 1 (.int .i64 ys))) (grown_setCell _ w.heap.size 2 (.int .i64 y))) (grown_setCell _ w.heap.size 3 (.int .i64 xw))) (grown_setCell _ w.heap.size 4 (.bool xl))) (grown_setCell _ w.heap.size 5 (.int .i64 xg)))
          go_wp2
          refine bodyPost_ret (v := .agg #[.int .i64 (yd : Int), .int .i64 ys, .int .i64 y, .int .i64 xw, .bool xl, .int .i64 xg]) (by simp [results, Try.results46, go_sem, Z0.out, Z1.out, Z2.out, Z3.out, Z4.out, Z5.out]) rfl ⟨⟨(yd : Int), ys, y, xw, xl, xg⟩, rfl, (C14.out.grown GG.out (fun j hj => by cases hj; exact hb)).mono (by omega), grown_past G14.out GG.out (Nat.le_refl _)⟩
        · have t2 : ((r : Int) == 2) = false := by rw [beq_eq_false_iff_ne]; omega
          by_cases e3 : r = 3
          · have t3 : ((r : Int) == 3) = true := by rw [beq_iff_eq]; omega
            clear e3
            go_wp2_with fail
            refine (among_any B b (k + 2 + 2 + 2 + 2 + 2 + 2 + 2 + 2) w12.heap.size 2 2 [-1, 501] _ (C12.out.alloc _) (by omega) rfl (by omega) (by omega) (by omega) (num_cells w12 3 [-1, 501] _ rfl)).mono ?_
            rintro e w13 ⟨y, hx13, rfl, hc, hg⟩
            have K13 := Lib.hid ((hg.block w.heap.size (by simp; omega) (fun e => by have := Option.some.inj e; omega)).trans (old_allocD (o' := .cells #[.int .i64 (-1), .int .i64 501] 3) K12.out))
            have M13 := Lib.hid ((hg.block P (by simp; omega) (fun e => by have := Option.some.inj e; omega)).trans (old_allocD (o' := .cells #[.int .i64 (-1), .int .i64 501] 3) M12.out))
            have G13 := Lib.hid (grown_trans (grown_trans G12.out (World.grownBy_alloc _ (.cells #[.int .i64 (-1), .int .i64 501] 3) (some b))) hg)
            have C13 := Lib.hid hc
            have hz13 := hg.size
            simp at hz13
            clear hc hg hx13
            clear K12 M12 C12 G12
            have mm := M13.out
            have m0 := cell_of_row w13 P 3 _ _ _ mm
            have m1 := frozen_of_row w13 P 3 _ _ mm
            clear mm
            have M14 := Lib.hid (blk_setD (i := 3) (v := .int .i64 y) M13.out)
            have K14 : Hid ((w13.setCell ⟨P, 3, none⟩ (.int .i64 y)).heap[w.heap.size]? = some (.cells #[.int .i64 0, .int .i64 0, .int .i64 0, .int .i64 0, .bool false, .int .i64 0] 25 (0, 0))) := Lib.hid (by simp only [World.setCell, Array.getElem?_modify]; rw [if_neg (by show ¬ P = w.heap.size; omega)]; exact K13.out)
            have G14 := Lib.hid (grown_past G13.out (grown_setCell w13 P 3 (.int .i64 y)) (by omega))
            have C14 := Lib.hid (C13.out.grown (grown_setCell w13 P 3 (.int .i64 y)) (fun j hj => by cases hj; omega))
            have hz14 : (w13.setCell ⟨P, 3, none⟩ (.int .i64 y)).heap.size = w13.heap.size := by simp [World.setCell]
            go_upto_region 17 with fail
            generalize hw14 : w13.setCell ⟨P, 3, none⟩ (.int .i64 y) = w14 at *
            clear hw14 m0 m1 K13 M13 C13 G13
            have kk := K14.out
            have mm := M14.out
            have a0 := cell_of_row w14 P 0 _ _ _ mm
            have a1 := cell_of_row w14 P 1 _ _ _ mm
            have a2 := cell_of_row w14 P 2 _ _ _ mm
            have a3 := cell_of_row w14 P 3 _ _ _ mm
            have a4 := cell_of_row w14 P 4 _ _ _ mm
            have a5 := cell_of_row w14 P 5 _ _ _ mm
            have c0 := cell_of_row w14 w.heap.size 0 _ _ _ kk
            have c1 := cell_of_row w14 w.heap.size 1 _ _ _ kk
            have c2 := cell_of_row w14 w.heap.size 2 _ _ _ kk
            have c3 := cell_of_row w14 w.heap.size 3 _ _ _ kk
            have c4 := cell_of_row w14 w.heap.size 4 _ _ _ kk
            have c5 := cell_of_row w14 w.heap.size 5 _ _ _ kk
            have d0 := frozen_of_row w14 w.heap.size 0 _ _ kk
            have d1 := frozen_of_row w14 w.heap.size 1 _ _ kk
            have d2 := frozen_of_row w14 w.heap.size 2 _ _ kk
            have d3 := frozen_of_row w14 w.heap.size 3 _ _ kk
            have d4 := frozen_of_row w14 w.heap.size 4 _ _ kk
            have d5 := frozen_of_row w14 w.heap.size 5 _ _ kk
            have s0 := blk_setD (i := 0) (v := .int .i64 (yd : Int)) kk
            have z0 := cell_of_row _ w.heap.size 0 _ _ _ s0
            have s1 := blk_setD (i := 1) (v := .int .i64 ys) s0
            have z1 := cell_of_row _ w.heap.size 1 _ _ _ s1
            have s2 := blk_setD (i := 2) (v := .int .i64 (yi : Int)) s1
            have z2 := cell_of_row _ w.heap.size 2 _ _ _ s2
            have s3 := blk_setD (i := 3) (v := .int .i64 y) s2
            have z3 := cell_of_row _ w.heap.size 3 _ _ _ s3
            have s4 := blk_setD (i := 4) (v := .bool xl) s3
            have z4 := cell_of_row _ w.heap.size 4 _ _ _ s4
            have s5 := blk_setD (i := 5) (v := .int .i64 xg) s4
            have z5 := cell_of_row _ w.heap.size 5 _ _ _ s5
            simp at a0 c0 z0 a1 c1 z1 a2 c2 z2 a3 c3 z3 a4 c4 z4 a5 c5 z5
            have Z0 := Lib.hid z0
            have Z1 := Lib.hid z1
            have Z2 := Lib.hid z2
            have Z3 := Lib.hid z3
            have Z4 := Lib.hid z4
            have Z5 := Lib.hid z5
            clear kk mm s0 z0 s1 z1 s2 z2 s3 z3 s4 z4 s5 z5
            have GG := Lib.hid (grown_trans (grown_trans (grown_trans (grown_trans (grown_trans (grown_setCell w14 w.heap.size 0 (.int .i64 (yd : Int))) (grown_setCell _ w.heap.size 1 (.int .i64 ys))) (grown_setCell _ w.heap.size 2 (.int .i64 (yi : Int)))) (grown_setCell _ w.heap.size 3 (.int .i64 y))) (grown_setCell _ w.heap.size 4 (.bool xl))) (grown_setCell _ w.heap.size 5 (.int .i64 xg)))
            go_wp2
            refine bodyPost_ret (v := .agg #[.int .i64 (yd : Int), .int .i64 ys, .int .i64 (yi : Int), .int .i64 y, .bool xl, .int .i64 xg]) (by simp [results, Try.results46, go_sem, Z0.out, Z1.out, Z2.out, Z3.out, Z4.out, Z5.out]) rfl ⟨⟨(yd : Int), ys, (yi : Int), y, xl, xg⟩, rfl, (C14.out.grown GG.out (fun j hj => by cases hj; exact hb)).mono (by omega), grown_past G14.out GG.out (Nat.le_refl _)⟩
          · have t3 : ((r : Int) == 3) = false := by rw [beq_eq_false_iff_ne]; omega
            by_cases e4 : r = 4
            · have t4 : ((r : Int) == 4) = true := by rw [beq_iff_eq]; omega
              clear e4
              go_wp2_with fail
              refine (among_any B b (k + 2 + 2 + 2 + 2 + 2 + 2 + 2 + 2) w12.heap.size 2 2 [-1, 10000] _ (C12.out.alloc _) (by omega) rfl (by omega) (by omega) (by omega) (num_cells w12 3 [-1, 10000] _ rfl)).mono ?_
              rintro e w13 ⟨y, hx13, rfl, hc, hg⟩
              have K13 := Lib.hid ((hg.block w.heap.size (by simp; omega) (fun e => by have := Option.some.inj e; omega)).trans (old_allocD (o' := .cells #[.int .i64 (-1), .int .i64 10000] 3) K12.out))
              have M13 := Lib.hid ((hg.block P (by simp; omega) (fun e => by have := Option.some.inj e; omega)).trans (old_allocD (o' := .cells #[.int .i64 (-1), .int .i64 10000] 3) M12.out))
              have G13 := Lib.hid (grown_trans (grown_trans G12.out (World.grownBy_alloc _ (.cells #[.int .i64 (-1), .int .i64 10000] 3) (some b))) hg)
              have C13 := Lib.hid hc
              have hz13 := hg.size
              simp at hz13
              clear hc hg hx13
              clear K12 M12 C12 G12
              have mm := M13.out
              have m0 := cell_of_row w13 P 5 _ _ _ mm
              have m1 := frozen_of_row w13 P 5 _ _ mm
              clear mm
              have M14 := Lib.hid (blk_setD (i := 5) (v := .int .i64 y) M13.out)
              have K14 : Hid ((w13.setCell ⟨P, 5, none⟩ (.int .i64 y)).heap[w.heap.size]? = some (.cells #[.int .i64 0, .int .i64 0, .int .i64 0, .int .i64 0, .bool false, .int .i64 0] 25 (0, 0))) := Lib.hid (by simp only [World.setCell, Array.getElem?_modify]; rw [if_neg (by show ¬ P = w.heap.size; omega)]; exact K13.out)
              have G14 := Lib.hid (grown_past G13.out (grown_setCell w13 P 5 (.int .i64 y)) (by omega))
              have C14 := Lib.hid (C13.out.grown (grown_setCell w13 P 5 (.int .i64 y)) (fun j hj => by cases hj; omega))
              have hz14 : (w13.setCell ⟨P, 5, none⟩ (.int .i64 y)).heap.size = w13.heap.size := by simp [World.setCell]
              go_upto_region 17 with fail
              generalize hw14 : w13.setCell ⟨P, 5, none⟩ (.int .i64 y) = w14 at *
              clear hw14 m0 m1 K13 M13 C13 G13
              have kk := K14.out
              have mm := M14.out
              have a0 := cell_of_row w14 P 0 _ _ _ mm
              have a1 := cell_of_row w14 P 1 _ _ _ mm
              have a2 := cell_of_row w14 P 2 _ _ _ mm
              have a3 := cell_of_row w14 P 3 _ _ _ mm
              have a4 := cell_of_row w14 P 4 _ _ _ mm
              have a5 := cell_of_row w14 P 5 _ _ _ mm
              have c0 := cell_of_row w14 w.heap.size 0 _ _ _ kk
              have c1 := cell_of_row w14 w.heap.size 1 _ _ _ kk
              have c2 := cell_of_row w14 w.heap.size 2 _ _ _ kk
              have c3 := cell_of_row w14 w.heap.size 3 _ _ _ kk
              have c4 := cell_of_row w14 w.heap.size 4 _ _ _ kk
              have c5 := cell_of_row w14 w.heap.size 5 _ _ _ kk
              have d0 := frozen_of_row w14 w.heap.size 0 _ _ kk
              have d1 := frozen_of_row w14 w.heap.size 1 _ _ kk
              have d2 := frozen_of_row w14 w.heap.size 2 _ _ kk
              have d3 := frozen_of_row w14 w.heap.size 3 _ _ kk
              have d4 := frozen_of_row w14 w.heap.size 4 _ _ kk
              have d5 := frozen_of_row w14 w.heap.size 5 _ _ kk
              have s0 := blk_setD (i := 0) (v := .int .i64 (yd : Int)) kk
              have z0 := cell_of_row _ w.heap.size 0 _ _ _ s0
              have s1 := blk_setD (i := 1) (v := .int .i64 ys) s0
              have z1 := cell_of_row _ w.heap.size 1 _ _ _ s1
              have s2 := blk_setD (i := 2) (v := .int .i64 (yi : Int)) s1
              have z2 := cell_of_row _ w.heap.size 2 _ _ _ s2
              have s3 := blk_setD (i := 3) (v := .int .i64 xw) s2
              have z3 := cell_of_row _ w.heap.size 3 _ _ _ s3
              have s4 := blk_setD (i := 4) (v := .bool xl) s3
              have z4 := cell_of_row _ w.heap.size 4 _ _ _ s4
              have s5 := blk_setD (i := 5) (v := .int .i64 y) s4
              have z5 := cell_of_row _ w.heap.size 5 _ _ _ s5
              simp at a0 c0 z0 a1 c1 z1 a2 c2 z2 a3 c3 z3 a4 c4 z4 a5 c5 z5
              have Z0 := Lib.hid z0
              have Z1 := Lib.hid z1
              have Z2 := Lib.hid z2
              have Z3 := Lib.hid z3
              have Z4 := Lib.hid z4
              have Z5 := Lib.hid z5
              clear kk mm s0 z0 s1 z1 s2 z2 s3 z3 s4 z4 s5 z5
              have GG := Lib.hid (grown_trans (grown_trans (grown_trans (grown_trans (grown_trans (grown_setCell w14 w.heap.size 0 (.int .i64 (yd : Int))) (grown_setCell _ w.heap.size 1 (.int .i64 ys))) (grown_setCell _ w.heap.size 2 (.int .i64 (yi : Int)))) (grown_setCell _ w.heap.size 3 (.int .i64 xw))) (grown_setCell _ w.heap.size 4 (.bool xl))) (grown_setCell _ w.heap.size 5 (.int .i64 y)))
              go_wp2
              refine bodyPost_ret (v := .agg #[.int .i64 (yd : Int), .int .i64 ys, .int .i64 (yi : Int), .int .i64 xw, .bool xl, .int .i64 y]) (by simp [results, Try.results46, go_sem, Z0.out, Z1.out, Z2.out, Z3.out, Z4.out, Z5.out]) rfl ⟨⟨(yd : Int), ys, (yi : Int), xw, xl, y⟩, rfl, (C14.out.grown GG.out (fun j hj => by cases hj; exact hb)).mono (by omega), grown_past G14.out GG.out (Nat.le_refl _)⟩
            · have t4 : ((r : Int) == 4) = false := by rw [beq_eq_false_iff_ne]; omega
              have kk := K12.out
              have mm := M12.out
              have a0 := cell_of_row w12 P 0 _ _ _ mm
              have a1 := cell_of_row w12 P 1 _ _ _ mm
              have a2 := cell_of_row w12 P 2 _ _ _ mm
              have a3 := cell_of_row w12 P 3 _ _ _ mm
              have a4 := cell_of_row w12 P 4 _ _ _ mm
              have a5 := cell_of_row w12 P 5 _ _ _ mm
              have c0 := cell_of_row w12 w.heap.size 0 _ _ _ kk
              have c1 := cell_of_row w12 w.heap.size 1 _ _ _ kk
              have c2 := cell_of_row w12 w.heap.size 2 _ _ _ kk
              have c3 := cell_of_row w12 w.heap.size 3 _ _ _ kk
              have c4 := cell_of_row w12 w.heap.size 4 _ _ _ kk
              have c5 := cell_of_row w12 w.heap.size 5 _ _ _ kk
              have d0 := frozen_of_row w12 w.heap.size 0 _ _ kk
              have d1 := frozen_of_row w12 w.heap.size 1 _ _ kk
              have d2 := frozen_of_row w12 w.heap.size 2 _ _ kk
              have d3 := frozen_of_row w12 w.heap.size 3 _ _ kk
              have d4 := frozen_of_row w12 w.heap.size 4 _ _ kk
              have d5 := frozen_of_row w12 w.heap.size 5 _ _ kk
              have s0 := blk_setD (i := 0) (v := .int .i64 (yd : Int)) kk
              have z0 := cell_of_row _ w.heap.size 0 _ _ _ s0
              have s1 := blk_setD (i := 1) (v := .int .i64 ys) s0
              have z1 := cell_of_row _ w.heap.size 1 _ _ _ s1
              have s2 := blk_setD (i := 2) (v := .int .i64 (yi : Int)) s1
              have z2 := cell_of_row _ w.heap.size 2 _ _ _ s2
              have s3 := blk_setD (i := 3) (v := .int .i64 xw) s2
              have z3 := cell_of_row _ w.heap.size 3 _ _ _ s3
              have s4 := blk_setD (i := 4) (v := .bool xl) s3
              have z4 := cell_of_row _ w.heap.size 4 _ _ _ s4
              have s5 := blk_setD (i := 5) (v := .int .i64 xg) s4
              have z5 := cell_of_row _ w.heap.size 5 _ _ _ s5
              simp at a0 c0 z0 a1 c1 z1 a2 c2 z2 a3 c3 z3 a4 c4 z4 a5 c5 z5
              have Z0 := Lib.hid z0
              have Z1 := Lib.hid z1
              have Z2 := Lib.hid z2
              have Z3 := Lib.hid z3
              have Z4 := Lib.hid z4
              have Z5 := Lib.hid z5
              clear kk mm s0 z0 s1 z1 s2 z2 s3 z3 s4 z4 s5 z5
              have GG := Lib.hid (grown_trans (grown_trans (grown_trans (grown_trans (grown_trans (grown_setCell w12 w.heap.size 0 (.int .i64 (yd : Int))) (grown_setCell _ w.heap.size 1 (.int .i64 ys))) (grown_setCell _ w.heap.size 2 (.int .i64 (yi : Int)))) (grown_setCell _ w.heap.size 3 (.int .i64 xw))) (grown_setCell _ w.heap.size 4 (.bool xl))) (grown_setCell _ w.heap.size 5 (.int .i64 xg)))
              go_wp2
              refine bodyPost_ret (v := .agg #[.int .i64 (yd : Int), .int .i64 ys, .int .i64 (yi : Int), .int .i64 xw, .bool xl, .int .i64 xg]) (by simp [results, Try.results46, go_sem, Z0.out, Z1.out, Z2.out, Z3.out, Z4.out, Z5.out]) rfl ⟨⟨(yd : Int), ys, (yi : Int), xw, xl, xg⟩, rfl, (C12.out.grown GG.out (fun j hj => by cases hj; exact hb)).mono (by omega), grown_past G12.out GG.out (Nat.le_refl _)⟩
end Go.Proofs.Ytinlcbljpclccaa
