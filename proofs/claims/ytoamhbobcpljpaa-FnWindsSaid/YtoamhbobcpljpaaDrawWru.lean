/- The drawn rule. Condition: sizes. -/
import Derived.Test.YtoamhbobcpljpaaDrawBase
import Derived.Test.YtoamhbobcpljpaaWruS
import Derived.Deep.DeepCutAuto
namespace Go.Proofs.Ytoamhbobcpljpaa
open Go.RowKit
set_option linter.unusedVariables false
/-- What drawing a rule leaves. -/
def WrPost (B b k : Nat) (w : World) (e : Ending) (w' : World) : Prop := ∃ x : Wru, (0 ≤ x.d ∧ x.d ≤ 11) ∧ e = .returned x.agg ∧ Cur B b (k + 20) w' ∧ w.grownBy w' (some b)
set_option maxRecDepth 100000 in
set_option maxHeartbeats 8000000 in
theorem windRule_any (B b k : Nat) (w : World) (h : Cur B b k w) (hk : k ≤ 800000000) :
    Calls Try.prog 51 #[.pointer (some ⟨b, 0, none⟩)] w (WrPost B b k w) := by
  have HH := Lib.hid h
  have hb := h.2.1
  clear h
  go_enter Try.func51, Try.ntmps51
  go_wp2_with fail
  refine (among_any B b k (w.heap.size + 1) 4 4 [5, 10, 12, 15] _ ((HH.out.alloc _).alloc _) (by omega) rfl (by omega) (by omega) (by omega) (num_cells1 _ 3 [5, 10, 12, 15] _ rfl _ (aszD _ _))).mono ?_
  rintro e w1 ⟨xa, hx1, rfl, hc, hg⟩
  have K1 := Lib.hid ((hg.block w.heap.size (by simp; omega) (fun e => by have := Option.some.inj e; omega)).trans (old_allocD (o' := .cells #[.int .i64 5, .int .i64 10, .int .i64 12, .int .i64 15] 3) (heap_alloc_new w (.cells #[.int .i64 0, .int .i64 0, .int .i64 0, .int .i64 0] 25))))
  have G1 := Lib.hid (grown_trans (grown_trans (World.grownBy_alloc w (.cells #[.int .i64 0, .int .i64 0, .int .i64 0, .int .i64 0] 25) (some b)) (World.grownBy_alloc _ (.cells #[.int .i64 5, .int .i64 10, .int .i64 12, .int .i64 15] 3) (some b))) hg)
  have C1 := Lib.hid hc
  have hz1 := hg.size
  simp at hz1
  clear hc hg hx1
  go_wp2_with fail
  refine (among_any B b (k + 2) w1.heap.size 4 4 [16, 18, 20, 25] _ (C1.out.alloc _) (by omega) rfl (by omega) (by omega) (by omega) (num_cells w1 3 [16, 18, 20, 25] _ rfl)).mono ?_
  rintro e w2 ⟨xb, hx2, rfl, hc, hg⟩
  have K2 := Lib.hid ((hg.block w.heap.size (by simp; omega) (fun e => by have := Option.some.inj e; omega)).trans (old_allocD (o' := .cells #[.int .i64 16, .int .i64 18, .int .i64 20, .int .i64 25] 3) K1.out))
  have G2 := Lib.hid (grown_trans (grown_trans G1.out (World.grownBy_alloc _ (.cells #[.int .i64 16, .int .i64 18, .int .i64 20, .int .i64 25] 3) (some b))) hg)
  have C2 := Lib.hid hc
  have hz2 := hg.size
  simp at hz2
  clear hc hg hx2
  clear K1 C1 G1
  go_wp2_with fail
  refine (among_any B b (k + 2 + 2) w2.heap.size 4 4 [1, 2, 3, 5] _ (C2.out.alloc _) (by omega) rfl (by omega) (by omega) (by omega) (num_cells w2 3 [1, 2, 3, 5] _ rfl)).mono ?_
  rintro e w3 ⟨xc, hx3, rfl, hc, hg⟩
  have K3 := Lib.hid ((hg.block w.heap.size (by simp; omega) (fun e => by have := Option.some.inj e; omega)).trans (old_allocD (o' := .cells #[.int .i64 1, .int .i64 2, .int .i64 3, .int .i64 5] 3) K2.out))
  have G3 := Lib.hid (grown_trans (grown_trans G2.out (World.grownBy_alloc _ (.cells #[.int .i64 1, .int .i64 2, .int .i64 3, .int .i64 5] 3) (some b))) hg)
  have C3 := Lib.hid hc
  have hz3 := hg.size
  simp at hz3
  clear hc hg hx3
  clear K2 C2 G2
  go_wp2_with fail
  refine (among_any B b (k + 2 + 2 + 2) w3.heap.size 5 5 [1, 2, 3, 5, 10] _ (C3.out.alloc _) (by omega) rfl (by omega) (by omega) (by omega) (num_cells w3 3 [1, 2, 3, 5, 10] _ rfl)).mono ?_
  rintro e w4 ⟨xd, hx4, rfl, hc, hg⟩
  have K4 := Lib.hid ((hg.block w.heap.size (by simp; omega) (fun e => by have := Option.some.inj e; omega)).trans (old_allocD (o' := .cells #[.int .i64 1, .int .i64 2, .int .i64 3, .int .i64 5, .int .i64 10] 3) K3.out))
  have G4 := Lib.hid (grown_trans (grown_trans G3.out (World.grownBy_alloc _ (.cells #[.int .i64 1, .int .i64 2, .int .i64 3, .int .i64 5, .int .i64 10] 3) (some b))) hg)
  have BDxd : Hid (0 ≤ xd ∧ xd ≤ 11) := Lib.hid (by simp at hx4; omega)
  have C4 := Lib.hid hc
  have hz4 := hg.size
  simp at hz4
  clear hc hg hx4
  clear K3 C3 G3
  go_wp2_with fail
  have M5 := Lib.hid (heap_alloc_new w4 (.cells #[.int .i64 xa, .int .i64 xb, .int .i64 xc, .int .i64 xd] 25))
  have K5 := Lib.hid (old_allocD (o' := .cells #[.int .i64 xa, .int .i64 xb, .int .i64 xc, .int .i64 xd] 25) K4.out)
  have G5 := Lib.hid (grown_trans G4.out (World.grownBy_alloc w4 (.cells #[.int .i64 xa, .int .i64 xb, .int .i64 xc, .int .i64 xd] 25) (some b)))
  have C5 := Lib.hid (C4.out.alloc (.cells #[.int .i64 xa, .int .i64 xb, .int .i64 xc, .int .i64 xd] 25))
  have hz5 : (w4.alloc (.cells #[.int .i64 xa, .int .i64 xb, .int .i64 xc, .int .i64 xd] 25)).heap.size = w4.heap.size + 1 := by simp
  generalize hw5 : w4.alloc (.cells #[.int .i64 xa, .int .i64 xb, .int .i64 xc, .int .i64 xd] 25) = w5 at *
  clear hw5 K4 C4 G4
  obtain ⟨P, hP⟩ : ∃ P, P = w4.heap.size := ⟨_, rfl⟩
  rw [← hP] at M5 hz5 ⊢
  have hPw : w.heap.size < P := by omega
  have hPb : b < P := by omega
  have hP5 : P < w5.heap.size := by omega
  clear hP hz1 hz2 hz3 hz4 hz5
  refine (pick_any B b (k + 2 + 2 + 2 + 2) 24 w5 C5.out (by omega) (by omega) (by omega)).mono ?_
  rintro e w6 ⟨r, rfl, hr6, hc, hg⟩
  have K6 := Lib.hid ((hg.block w.heap.size (by omega) (fun e => by have := Option.some.inj e; omega)).trans K5.out)
  have M6 := Lib.hid ((hg.block P (by omega) (fun e => by have := Option.some.inj e; omega)).trans M5.out)
  have G6 := Lib.hid (grown_trans G5.out hg)
  have C6 := Lib.hid hc
  have hz6 := hg.size
  clear hc hg
  clear K5 M5 C5 G5
  by_cases e0 : r = 0
  · have t0 : ((r : Int) == 0) = true := by rw [beq_iff_eq]; omega
    clear e0
    go_wp2_with fail
    refine (among_any B b (k + 2 + 2 + 2 + 2 + 2) w6.heap.size 5 5 [0, 1, 2, 60, 59] _ (C6.out.alloc _) (by omega) rfl (by omega) (by omega) (by omega) (num_cells w6 3 [0, 1, 2, 60, 59] _ rfl)).mono ?_
    rintro e w7 ⟨y, hx7, rfl, hc, hg⟩
    have K7 := Lib.hid ((hg.block w.heap.size (by simp; omega) (fun e => by have := Option.some.inj e; omega)).trans (old_allocD (o' := .cells #[.int .i64 0, .int .i64 1, .int .i64 2, .int .i64 60, .int .i64 59] 3) K6.out))
    have M7 := Lib.hid ((hg.block P (by simp; omega) (fun e => by have := Option.some.inj e; omega)).trans (old_allocD (o' := .cells #[.int .i64 0, .int .i64 1, .int .i64 2, .int .i64 60, .int .i64 59] 3) M6.out))
    have G7 := Lib.hid (grown_trans (grown_trans G6.out (World.grownBy_alloc _ (.cells #[.int .i64 0, .int .i64 1, .int .i64 2, .int .i64 60, .int .i64 59] 3) (some b))) hg)
    have C7 := Lib.hid hc
    have hz7 := hg.size
    simp at hz7
    clear hc hg hx7
    clear K6 M6 C6 G6
    have mm := M7.out
    have m0 := cell_of_row w7 P 0 _ _ _ mm
    have m1 := frozen_of_row w7 P 0 _ _ mm
    clear mm
    have M8 := Lib.hid (blk_setD (i := 0) (v := .int .i64 y) M7.out)
    have K8 : Hid ((w7.setCell ⟨P, 0, none⟩ (.int .i64 y)).heap[w.heap.size]? = some (.cells #[.int .i64 0, .int .i64 0, .int .i64 0, .int .i64 0] 25 (0, 0))) := Lib.hid (by simp only [World.setCell, Array.getElem?_modify]; rw [if_neg (by show ¬ P = w.heap.size; omega)]; exact K7.out)
    have G8 := Lib.hid (grown_past G7.out (grown_setCell w7 P 0 (.int .i64 y)) (by omega))
    have C8 := Lib.hid (C7.out.grown (grown_setCell w7 P 0 (.int .i64 y)) (fun j hj => by cases hj; omega))
    go_upto_region 11 with fail
    generalize hw8 : w7.setCell ⟨P, 0, none⟩ (.int .i64 y) = w8 at *
    clear hw8 m0 m1 K7 M7 C7 G7
    have kk := K8.out
    have mm := M8.out
    have a0 := cell_of_row w8 P 0 _ _ _ mm
    have a1 := cell_of_row w8 P 1 _ _ _ mm
    have a2 := cell_of_row w8 P 2 _ _ _ mm
    have a3 := cell_of_row w8 P 3 _ _ _ mm
    have c0 := cell_of_row w8 w.heap.size 0 _ _ _ kk
    have c1 := cell_of_row w8 w.heap.size 1 _ _ _ kk
    have c2 := cell_of_row w8 w.heap.size 2 _ _ _ kk
    have c3 := cell_of_row w8 w.heap.size 3 _ _ _ kk
    have d0 := frozen_of_row w8 w.heap.size 0 _ _ kk
    have d1 := frozen_of_row w8 w.heap.size 1 _ _ kk
    have d2 := frozen_of_row w8 w.heap.size 2 _ _ kk
    have d3 := frozen_of_row w8 w.heap.size 3 _ _ kk
    have s0 := blk_setD (i := 0) (v := .int .i64 y) kk
    have z0 := cell_of_row _ w.heap.size 0 _ _ _ s0
    have s1 := blk_setD (i := 1) (v := .int .i64 xb) s0
    have z1 := cell_of_row _ w.heap.size 1 _ _ _ s1
    have s2 := blk_setD (i := 2) (v := .int .i64 xc) s1
    have z2 := cell_of_row _ w.heap.size 2 _ _ _ s2
    have s3 := blk_setD (i := 3) (v := .int .i64 xd) s2
    have z3 := cell_of_row _ w.heap.size 3 _ _ _ s3
    simp at a0 a1 a2 a3 c0 c1 c2 c3 z0 z1 z2 z3
    have Z0 := Lib.hid z0
    have Z1 := Lib.hid z1
    have Z2 := Lib.hid z2
    have Z3 := Lib.hid z3
    clear kk mm s0 s1 s2 s3 z0 z1 z2 z3
    have GG := Lib.hid (grown_trans (grown_trans (grown_trans (grown_setCell w8 w.heap.size 0 (.int .i64 y)) (grown_setCell _ w.heap.size 1 (.int .i64 xb))) (grown_setCell _ w.heap.size 2 (.int .i64 xc))) (grown_setCell _ w.heap.size 3 (.int .i64 xd)))
    go_wp2
    refine bodyPost_ret (v := .agg #[.int .i64 y, .int .i64 xb, .int .i64 xc, .int .i64 xd]) (by simp [results, Try.results51, go_sem, Z0.out, Z1.out, Z2.out, Z3.out]) rfl ⟨⟨y, xb, xc, xd⟩, BDxd.out, rfl, (C8.out.grown GG.out (fun j hj => by cases hj; exact hb)).mono (by omega), grown_past G8.out GG.out (Nat.le_refl _)⟩
  · have t0 : ((r : Int) == 0) = false := by rw [beq_eq_false_iff_ne]; omega
    by_cases e1 : r = 1
    · have t1 : ((r : Int) == 1) = true := by rw [beq_iff_eq]; omega
      clear e1
      go_wp2_with fail
      refine (among_any B b (k + 2 + 2 + 2 + 2 + 2) w6.heap.size 3 3 [5, 60, 61] _ (C6.out.alloc _) (by omega) rfl (by omega) (by omega) (by omega) (num_cells w6 3 [5, 60, 61] _ rfl)).mono ?_
      rintro e w7 ⟨y, hx7, rfl, hc, hg⟩
      have K7 := Lib.hid ((hg.block w.heap.size (by simp; omega) (fun e => by have := Option.some.inj e; omega)).trans (old_allocD (o' := .cells #[.int .i64 5, .int .i64 60, .int .i64 61] 3) K6.out))
      have M7 := Lib.hid ((hg.block P (by simp; omega) (fun e => by have := Option.some.inj e; omega)).trans (old_allocD (o' := .cells #[.int .i64 5, .int .i64 60, .int .i64 61] 3) M6.out))
      have G7 := Lib.hid (grown_trans (grown_trans G6.out (World.grownBy_alloc _ (.cells #[.int .i64 5, .int .i64 60, .int .i64 61] 3) (some b))) hg)
      have C7 := Lib.hid hc
      have hz7 := hg.size
      simp at hz7
      clear hc hg hx7
      clear K6 M6 C6 G6
      have mm := M7.out
      have m0 := cell_of_row w7 P 1 _ _ _ mm
      have m1 := frozen_of_row w7 P 1 _ _ mm
      clear mm
      have M8 := Lib.hid (blk_setD (i := 1) (v := .int .i64 y) M7.out)
      have K8 : Hid ((w7.setCell ⟨P, 1, none⟩ (.int .i64 y)).heap[w.heap.size]? = some (.cells #[.int .i64 0, .int .i64 0, .int .i64 0, .int .i64 0] 25 (0, 0))) := Lib.hid (by simp only [World.setCell, Array.getElem?_modify]; rw [if_neg (by show ¬ P = w.heap.size; omega)]; exact K7.out)
      have G8 := Lib.hid (grown_past G7.out (grown_setCell w7 P 1 (.int .i64 y)) (by omega))
      have C8 := Lib.hid (C7.out.grown (grown_setCell w7 P 1 (.int .i64 y)) (fun j hj => by cases hj; omega))
      go_upto_region 11 with fail
      generalize hw8 : w7.setCell ⟨P, 1, none⟩ (.int .i64 y) = w8 at *
      clear hw8 m0 m1 K7 M7 C7 G7
      have kk := K8.out
      have mm := M8.out
      have a0 := cell_of_row w8 P 0 _ _ _ mm
      have a1 := cell_of_row w8 P 1 _ _ _ mm
      have a2 := cell_of_row w8 P 2 _ _ _ mm
      have a3 := cell_of_row w8 P 3 _ _ _ mm
      have c0 := cell_of_row w8 w.heap.size 0 _ _ _ kk
      have c1 := cell_of_row w8 w.heap.size 1 _ _ _ kk
      have c2 := cell_of_row w8 w.heap.size 2 _ _ _ kk
      have c3 := cell_of_row w8 w.heap.size 3 _ _ _ kk
      have d0 := frozen_of_row w8 w.heap.size 0 _ _ kk
      have d1 := frozen_of_row w8 w.heap.size 1 _ _ kk
      have d2 := frozen_of_row w8 w.heap.size 2 _ _ kk
      have d3 := frozen_of_row w8 w.heap.size 3 _ _ kk
      have s0 := blk_setD (i := 0) (v := .int .i64 xa) kk
      have z0 := cell_of_row _ w.heap.size 0 _ _ _ s0
      have s1 := blk_setD (i := 1) (v := .int .i64 y) s0
      have z1 := cell_of_row _ w.heap.size 1 _ _ _ s1
      have s2 := blk_setD (i := 2) (v := .int .i64 xc) s1
      have z2 := cell_of_row _ w.heap.size 2 _ _ _ s2
      have s3 := blk_setD (i := 3) (v := .int .i64 xd) s2
      have z3 := cell_of_row _ w.heap.size 3 _ _ _ s3
      simp at a0 a1 a2 a3 c0 c1 c2 c3 z0 z1 z2 z3
      have Z0 := Lib.hid z0
      have Z1 := Lib.hid z1
      have Z2 := Lib.hid z2
      have Z3 := Lib.hid z3
      clear kk mm s0 s1 s2 s3 z0 z1 z2 z3
      have GG := Lib.hid (grown_trans (grown_trans (grown_trans (grown_setCell w8 w.heap.size 0 (.int .i64 xa)) (grown_setCell _ w.heap.size 1 (.int .i64 y))) (grown_setCell _ w.heap.size 2 (.int .i64 xc))) (grown_setCell _ w.heap.size 3 (.int .i64 xd)))
      go_wp2
      refine bodyPost_ret (v := .agg #[.int .i64 xa, .int .i64 y, .int .i64 xc, .int .i64 xd]) (by simp [results, Try.results51, go_sem, Z0.out, Z1.out, Z2.out, Z3.out]) rfl ⟨⟨xa, y, xc, xd⟩, BDxd.out, rfl, (C8.out.grown GG.out (fun j hj => by cases hj; exact hb)).mono (by omega), grown_past G8.out GG.out (Nat.le_refl _)⟩
    · have t1 : ((r : Int) == 1) = false := by rw [beq_eq_false_iff_ne]; omega
      by_cases e2 : r = 2
      · have t2 : ((r : Int) == 2) = true := by rw [beq_iff_eq]; omega
        clear e2
        go_wp2_with fail
        refine (among_any B b (k + 2 + 2 + 2 + 2 + 2) w6.heap.size 3 3 [0, 6, 16] _ (C6.out.alloc _) (by omega) rfl (by omega) (by omega) (by omega) (num_cells w6 3 [0, 6, 16] _ rfl)).mono ?_
        rintro e w7 ⟨y, hx7, rfl, hc, hg⟩
        have K7 := Lib.hid ((hg.block w.heap.size (by simp; omega) (fun e => by have := Option.some.inj e; omega)).trans (old_allocD (o' := .cells #[.int .i64 0, .int .i64 6, .int .i64 16] 3) K6.out))
        have M7 := Lib.hid ((hg.block P (by simp; omega) (fun e => by have := Option.some.inj e; omega)).trans (old_allocD (o' := .cells #[.int .i64 0, .int .i64 6, .int .i64 16] 3) M6.out))
        have G7 := Lib.hid (grown_trans (grown_trans G6.out (World.grownBy_alloc _ (.cells #[.int .i64 0, .int .i64 6, .int .i64 16] 3) (some b))) hg)
        have C7 := Lib.hid hc
        have hz7 := hg.size
        simp at hz7
        clear hc hg hx7
        clear K6 M6 C6 G6
        have mm := M7.out
        have m0 := cell_of_row w7 P 2 _ _ _ mm
        have m1 := frozen_of_row w7 P 2 _ _ mm
        clear mm
        have M8 := Lib.hid (blk_setD (i := 2) (v := .int .i64 y) M7.out)
        have K8 : Hid ((w7.setCell ⟨P, 2, none⟩ (.int .i64 y)).heap[w.heap.size]? = some (.cells #[.int .i64 0, .int .i64 0, .int .i64 0, .int .i64 0] 25 (0, 0))) := Lib.hid (by simp only [World.setCell, Array.getElem?_modify]; rw [if_neg (by show ¬ P = w.heap.size; omega)]; exact K7.out)
        have G8 := Lib.hid (grown_past G7.out (grown_setCell w7 P 2 (.int .i64 y)) (by omega))
        have C8 := Lib.hid (C7.out.grown (grown_setCell w7 P 2 (.int .i64 y)) (fun j hj => by cases hj; omega))
        go_upto_region 11 with fail
        generalize hw8 : w7.setCell ⟨P, 2, none⟩ (.int .i64 y) = w8 at *
        clear hw8 m0 m1 K7 M7 C7 G7
        have kk := K8.out
        have mm := M8.out
        have a0 := cell_of_row w8 P 0 _ _ _ mm
        have a1 := cell_of_row w8 P 1 _ _ _ mm
        have a2 := cell_of_row w8 P 2 _ _ _ mm
        have a3 := cell_of_row w8 P 3 _ _ _ mm
        have c0 := cell_of_row w8 w.heap.size 0 _ _ _ kk
        have c1 := cell_of_row w8 w.heap.size 1 _ _ _ kk
        have c2 := cell_of_row w8 w.heap.size 2 _ _ _ kk
        have c3 := cell_of_row w8 w.heap.size 3 _ _ _ kk
        have d0 := frozen_of_row w8 w.heap.size 0 _ _ kk
        have d1 := frozen_of_row w8 w.heap.size 1 _ _ kk
        have d2 := frozen_of_row w8 w.heap.size 2 _ _ kk
        have d3 := frozen_of_row w8 w.heap.size 3 _ _ kk
        have s0 := blk_setD (i := 0) (v := .int .i64 xa) kk
        have z0 := cell_of_row _ w.heap.size 0 _ _ _ s0
        have s1 := blk_setD (i := 1) (v := .int .i64 xb) s0
        have z1 := cell_of_row _ w.heap.size 1 _ _ _ s1
        have s2 := blk_setD (i := 2) (v := .int .i64 y) s1
        have z2 := cell_of_row _ w.heap.size 2 _ _ _ s2
        have s3 := blk_setD (i := 3) (v := .int .i64 xd) s2
        have z3 := cell_of_row _ w.heap.size 3 _ _ _ s3
        simp at a0 a1 a2 a3 c0 c1 c2 c3 z0 z1 z2 z3
        have Z0 := Lib.hid z0
        have Z1 := Lib.hid z1
        have Z2 := Lib.hid z2
        have Z3 := Lib.hid z3
        clear kk mm s0 s1 s2 s3 z0 z1 z2 z3
        have GG := Lib.hid (grown_trans (grown_trans (grown_trans (grown_setCell w8 w.heap.size 0 (.int .i64 xa)) (grown_setCell _ w.heap.size 1 (.int .i64 xb))) (grown_setCell _ w.heap.size 2 (.int .i64 y))) (grown_setCell _ w.heap.size 3 (.int .i64 xd)))
        go_wp2
        refine bodyPost_ret (v := .agg #[.int .i64 xa, .int .i64 xb, .int .i64 y, .int .i64 xd]) (by simp [results, Try.results51, go_sem, Z0.out, Z1.out, Z2.out, Z3.out]) rfl ⟨⟨xa, xb, y, xd⟩, BDxd.out, rfl, (C8.out.grown GG.out (fun j hj => by cases hj; exact hb)).mono (by omega), grown_past G8.out GG.out (Nat.le_refl _)⟩
      · have t2 : ((r : Int) == 2) = false := by rw [beq_eq_false_iff_ne]; omega
        by_cases e3 : r = 3
        · have t3 : ((r : Int) == 3) = true := by rw [beq_iff_eq]; omega
          clear e3
          go_wp2_with fail
          refine (among_any B b (k + 2 + 2 + 2 + 2 + 2) w6.heap.size 2 2 [0, 11] _ (C6.out.alloc _) (by omega) rfl (by omega) (by omega) (by omega) (num_cells w6 3 [0, 11] _ rfl)).mono ?_
          rintro e w7 ⟨y, hx7, rfl, hc, hg⟩
          have K7 := Lib.hid ((hg.block w.heap.size (by simp; omega) (fun e => by have := Option.some.inj e; omega)).trans (old_allocD (o' := .cells #[.int .i64 0, .int .i64 11] 3) K6.out))
          have M7 := Lib.hid ((hg.block P (by simp; omega) (fun e => by have := Option.some.inj e; omega)).trans (old_allocD (o' := .cells #[.int .i64 0, .int .i64 11] 3) M6.out))
          have G7 := Lib.hid (grown_trans (grown_trans G6.out (World.grownBy_alloc _ (.cells #[.int .i64 0, .int .i64 11] 3) (some b))) hg)
          have BDy : Hid (0 ≤ y ∧ y ≤ 11) := Lib.hid (by simp at hx7; omega)
          have C7 := Lib.hid hc
          have hz7 := hg.size
          simp at hz7
          clear hc hg hx7
          clear K6 M6 C6 G6
          have mm := M7.out
          have m0 := cell_of_row w7 P 3 _ _ _ mm
          have m1 := frozen_of_row w7 P 3 _ _ mm
          clear mm
          have M8 := Lib.hid (blk_setD (i := 3) (v := .int .i64 y) M7.out)
          have K8 : Hid ((w7.setCell ⟨P, 3, none⟩ (.int .i64 y)).heap[w.heap.size]? = some (.cells #[.int .i64 0, .int .i64 0, .int .i64 0, .int .i64 0] 25 (0, 0))) := Lib.hid (by simp only [World.setCell, Array.getElem?_modify]; rw [if_neg (by show ¬ P = w.heap.size; omega)]; exact K7.out)
          have G8 := Lib.hid (grown_past G7.out (grown_setCell w7 P 3 (.int .i64 y)) (by omega))
          have C8 := Lib.hid (C7.out.grown (grown_setCell w7 P 3 (.int .i64 y)) (fun j hj => by cases hj; omega))
          go_upto_region 11 with fail
          generalize hw8 : w7.setCell ⟨P, 3, none⟩ (.int .i64 y) = w8 at *
          clear hw8 m0 m1 K7 M7 C7 G7
          have kk := K8.out
          have mm := M8.out
          have a0 := cell_of_row w8 P 0 _ _ _ mm
          have a1 := cell_of_row w8 P 1 _ _ _ mm
          have a2 := cell_of_row w8 P 2 _ _ _ mm
          have a3 := cell_of_row w8 P 3 _ _ _ mm
          have c0 := cell_of_row w8 w.heap.size 0 _ _ _ kk
          have c1 := cell_of_row w8 w.heap.size 1 _ _ _ kk
          have c2 := cell_of_row w8 w.heap.size 2 _ _ _ kk
          have c3 := cell_of_row w8 w.heap.size 3 _ _ _ kk
          have d0 := frozen_of_row w8 w.heap.size 0 _ _ kk
          have d1 := frozen_of_row w8 w.heap.size 1 _ _ kk
          have d2 := frozen_of_row w8 w.heap.size 2 _ _ kk
          have d3 := frozen_of_row w8 w.heap.size 3 _ _ kk
          have s0 := blk_setD (i := 0) (v := .int .i64 xa) kk
          have z0 := cell_of_row _ w.heap.size 0 _ _ _ s0
          have s1 := blk_setD (i := 1) (v := .int .i64 xb) s0
          have z1 := cell_of_row _ w.heap.size 1 _ _ _ s1
          have s2 := blk_setD (i := 2) (v := .int .i64 xc) s1
          have z2 := cell_of_row _ w.heap.size 2 _ _ _ s2
          have s3 := blk_setD (i := 3) (v := .int .i64 y) s2
          have z3 := cell_of_row _ w.heap.size 3 _ _ _ s3
          simp at a0 a1 a2 a3 c0 c1 c2 c3 z0 z1 z2 z3
          have Z0 := Lib.hid z0
          have Z1 := Lib.hid z1
          have Z2 := Lib.hid z2
          have Z3 := Lib.hid z3
          clear kk mm s0 s1 s2 s3 z0 z1 z2 z3
          have GG := Lib.hid (grown_trans (grown_trans (grown_trans (grown_setCell w8 w.heap.size 0 (.int .i64 xa)) (grown_setCell _ w.heap.size 1 (.int .i64 xb))) (grown_setCell _ w.heap.size 2 (.int .i64 xc))) (grown_setCell _ w.heap.size 3 (.int .i64 y)))
          go_wp2
          refine bodyPost_ret (v := .agg #[.int .i64 xa, .int .i64 xb, .int .i64 xc, .int .i64 y]) (by simp [results, Try.results51, go_sem, Z0.out, Z1.out, Z2.out, Z3.out]) rfl ⟨⟨xa, xb, xc, y⟩, BDy.out, rfl, (C8.out.grown GG.out (fun j hj => by cases hj; exact hb)).mono (by omega), grown_past G8.out GG.out (Nat.le_refl _)⟩
        · have t3 : ((r : Int) == 3) = false := by rw [beq_eq_false_iff_ne]; omega
          have kk := K6.out
          have mm := M6.out
          have a0 := cell_of_row w6 P 0 _ _ _ mm
          have a1 := cell_of_row w6 P 1 _ _ _ mm
          have a2 := cell_of_row w6 P 2 _ _ _ mm
          have a3 := cell_of_row w6 P 3 _ _ _ mm
          have c0 := cell_of_row w6 w.heap.size 0 _ _ _ kk
          have c1 := cell_of_row w6 w.heap.size 1 _ _ _ kk
          have c2 := cell_of_row w6 w.heap.size 2 _ _ _ kk
          have c3 := cell_of_row w6 w.heap.size 3 _ _ _ kk
          have d0 := frozen_of_row w6 w.heap.size 0 _ _ kk
          have d1 := frozen_of_row w6 w.heap.size 1 _ _ kk
          have d2 := frozen_of_row w6 w.heap.size 2 _ _ kk
          have d3 := frozen_of_row w6 w.heap.size 3 _ _ kk
          have s0 := blk_setD (i := 0) (v := .int .i64 xa) kk
          have z0 := cell_of_row _ w.heap.size 0 _ _ _ s0
          have s1 := blk_setD (i := 1) (v := .int .i64 xb) s0
          have z1 := cell_of_row _ w.heap.size 1 _ _ _ s1
          have s2 := blk_setD (i := 2) (v := .int .i64 xc) s1
          have z2 := cell_of_row _ w.heap.size 2 _ _ _ s2
          have s3 := blk_setD (i := 3) (v := .int .i64 xd) s2
          have z3 := cell_of_row _ w.heap.size 3 _ _ _ s3
          simp at a0 a1 a2 a3 c0 c1 c2 c3 z0 z1 z2 z3
          have Z0 := Lib.hid z0
          have Z1 := Lib.hid z1
          have Z2 := Lib.hid z2
          have Z3 := Lib.hid z3
          clear kk mm s0 s1 s2 s3 z0 z1 z2 z3
          have GG := Lib.hid (grown_trans (grown_trans (grown_trans (grown_setCell w6 w.heap.size 0 (.int .i64 xa)) (grown_setCell _ w.heap.size 1 (.int .i64 xb))) (grown_setCell _ w.heap.size 2 (.int .i64 xc))) (grown_setCell _ w.heap.size 3 (.int .i64 xd)))
          go_wp2
          refine bodyPost_ret (v := .agg #[.int .i64 xa, .int .i64 xb, .int .i64 xc, .int .i64 xd]) (by simp [results, Try.results51, go_sem, Z0.out, Z1.out, Z2.out, Z3.out]) rfl ⟨⟨xa, xb, xc, xd⟩, BDxd.out, rfl, (C6.out.grown GG.out (fun j hj => by cases hj; exact hb)).mono (by omega), grown_past G6.out GG.out (Nat.le_refl _)⟩
end Go.Proofs.Ytoamhbobcpljpaa
