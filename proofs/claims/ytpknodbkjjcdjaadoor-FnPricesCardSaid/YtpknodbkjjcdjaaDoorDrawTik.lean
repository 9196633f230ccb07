/- The drawn ticket. Condition: sizes. -/
import Derived.Test.YtpknodbkjjcdjaaDoorDrawBase
import Derived.Test.YtpknodbkjjcdjaaDoorTikS
import Derived.Deep.DeepCutAuto
import Derived.Deep.CutRange
import Derived.Deep.CutBlock
namespace Go.Proofs.YtpknodbkjjcdjaaDoor
open Go.RowKit
set_option linter.unusedVariables false
/-- What drawing a ticket leaves. -/
def TkPost (B b k : Nat) (w : World) (e : Ending) (w' : World) : Prop := ∃ x : Tik, e = .returned x.agg ∧ Cur B b (k + 20) w' ∧ w.grownBy w' (some b)
set_option maxRecDepth 100000 in
set_option maxHeartbeats 8000000 in
theorem ticket_any (B b k : Nat) (id : Int) (w : World) (h : Cur B b k w) (hk : k ≤ 800000000) :
    Calls Tryd.prog 72 #[.pointer (some ⟨b, 0, none⟩), .int .i64 id] w (TkPost B b k w) := by
  have HH := Lib.hid h
  have hb := h.2.1
  clear h
  go_enter Tryd.func72, Tryd.ntmps72
  go_wp2_with fail
  have K0 := Lib.hid (heap_alloc_new w (.cells #[.int .i64 0, .int .i64 0, .int .i64 0, .int .i64 0, .int .i64 0] 31))
  have G0 := Lib.hid (World.grownBy_alloc w (.cells #[.int .i64 0, .int .i64 0, .int .i64 0, .int .i64 0, .int .i64 0] 31) (some b))
  have C0 := Lib.hid (HH.out.alloc (.cells #[.int .i64 0, .int .i64 0, .int .i64 0, .int .i64 0, .int .i64 0] 31))
  have hz0 : (w.alloc (.cells #[.int .i64 0, .int .i64 0, .int .i64 0, .int .i64 0, .int .i64 0] 31)).heap.size = w.heap.size + 1 := by simp
  generalize hw0 : w.alloc (.cells #[.int .i64 0, .int .i64 0, .int .i64 0, .int .i64 0, .int .i64 0] 31) = w0 at *
  clear hw0
  skip
  refine (pick_any B b (k) 4 w0 C0.out (by omega) (by omega) (by omega)).mono ?_
  rintro e w1 ⟨kd, rfl, hr1, hc, hg⟩
  have K1 := Lib.hid ((hg.block w.heap.size (by omega) (fun e => by have := Option.some.inj e; omega)).trans K0.out)
  have G1 := Lib.hid (grown_trans G0.out hg)
  have C1 := Lib.hid hc
  have hz1 := hg.size
  clear hc hg K0 C0 G0
  go_wp2_with fail
  refine (among_any B b (k + 2) w1.heap.size 6 6 [0, 10, 10, 11, 400, 999] _ (C1.out.alloc _) (by omega) rfl (by omega) (by omega) (by omega) (num_cells w1 3 [0, 10, 10, 11, 400, 999] _ rfl)).mono ?_
  rintro e w2 ⟨dy, hx2, rfl, hc, hg⟩
  have K2 := Lib.hid ((hg.block w.heap.size (by simp; omega) (fun e => by have := Option.some.inj e; omega)).trans (old_allocD (o' := .cells #[.int .i64 0, .int .i64 10, .int .i64 10, .int .i64 11, .int .i64 400, .int .i64 999] 3) K1.out))
  have G2 := Lib.hid (grown_trans (grown_trans G1.out (World.grownBy_alloc _ (.cells #[.int .i64 0, .int .i64 10, .int .i64 10, .int .i64 11, .int .i64 400, .int .i64 999] 3) (some b))) hg)
  have C2 := Lib.hid hc
  have hz2 := hg.size
  simp at hz2
  clear hc hg hx2
  clear K1 C1 G1
  have M3 := Lib.hid (heap_alloc_new w2 (.cells #[.int .i64 id, .int .i64 kd, .int .i64 dy, .int .i64 0, .int .i64 0] 31))
  have K3 := Lib.hid (old_allocD (o' := .cells #[.int .i64 id, .int .i64 kd, .int .i64 dy, .int .i64 0, .int .i64 0] 31) K2.out)
  have G3 := Lib.hid (grown_trans G2.out (World.grownBy_alloc w2 (.cells #[.int .i64 id, .int .i64 kd, .int .i64 dy, .int .i64 0, .int .i64 0] 31) (some b)))
  have C3 := Lib.hid (C2.out.alloc (.cells #[.int .i64 id, .int .i64 kd, .int .i64 dy, .int .i64 0, .int .i64 0] 31))
  have hz3 : (w2.alloc (.cells #[.int .i64 id, .int .i64 kd, .int .i64 dy, .int .i64 0, .int .i64 0] 31)).heap.size = w2.heap.size + 1 := by simp
  go_upto_region 2 with fail
  generalize hw3 : w2.alloc (.cells #[.int .i64 id, .int .i64 kd, .int .i64 dy, .int .i64 0, .int .i64 0] 31) = w3 at *
  clear hw3 K2 C2 G2
  obtain ⟨P, hP⟩ : ∃ P, P = w2.heap.size := ⟨_, rfl⟩
  rw [← hP] at M3 hz3 ⊢
  have hPw : w.heap.size < P := by omega
  have hPb : b < P := by omega
  clear hP hz0 hz1 hz2
  have HW3 : Hid (P < w3.heap.size) := Lib.hid (by omega)
  have hw3P := HW3.out
  clear hz3
  have p1 : w3.cell? ⟨P, 1, none⟩ = some (.int .i64 (kd : Int)) := cell_of_row _ P 1 _ _ _ M3.out
  go_upto_block 0 with fail
  go_cut [] from 13 to 51 (fun wx => ∃ u v : Int, Hid (wx.heap[w.heap.size]? = some (.cells #[.int .i64 0, .int .i64 0, .int .i64 0, .int .i64 0, .int .i64 0] 31 (0, 0))) ∧ Hid (wx.heap[P]? = some (.cells #[.int .i64 id, .int .i64 kd, .int .i64 dy, .int .i64 u, .int .i64 v] 31 (0, 0))) ∧ Hid (Cur B b (k + 10) wx) ∧ Hid (w.grownBy wx (some b)) ∧ Hid (w3.heap.size ≤ wx.heap.size))
  case first =>
    as_aux_lemma =>
    have HK3 := Lib.hid K3.out
    rcases (by omega : kd = 0 ∨ kd = 1 ∨ kd = 2 ∨ kd = 3) with rfl | rfl | rfl | rfl
    · skip
      go_wp2_with fail
      refine (pick_any B b (k + 2 + 2) 2 w3 C3.out (by omega) (by omega) (by omega)).mono ?_
      rintro e w4 ⟨x, rfl, hr4, hc, hg⟩
      have K4 := Lib.hid ((hg.block w.heap.size (by omega) (fun e => by have := Option.some.inj e; omega)).trans K3.out)
      have M4 := Lib.hid ((hg.block P (by omega) (fun e => by have := Option.some.inj e; omega)).trans M3.out)
      have G4 := Lib.hid (grown_trans G3.out hg)
      have C4 := Lib.hid hc
      have hz4 := hg.size
      clear hc hg
      clear K3 M3 C3 G3
      have mm := M4.out
      have m0 := cell_of_row w4 P 3 _ _ _ mm
      have m1 := frozen_of_row w4 P 3 _ _ mm
      clear mm
      have M5 := Lib.hid (blk_setD (i := 3) (v := .int .i64 (x : Int)) M4.out)
      have K5 : Hid ((w4.setCell ⟨P, 3, none⟩ (.int .i64 (x : Int))).heap[w.heap.size]? = some (.cells #[.int .i64 0, .int .i64 0, .int .i64 0, .int .i64 0, .int .i64 0] 31 (0, 0))) := Lib.hid (by simp only [World.setCell, Array.getElem?_modify]; rw [if_neg (by show ¬ P = w.heap.size; omega)]; exact K4.out)
      have G5 := Lib.hid (grown_past G4.out (grown_setCell w4 P 3 (.int .i64 (x : Int))) (by omega))
      have C5 := Lib.hid (C4.out.grown (grown_setCell w4 P 3 (.int .i64 (x : Int))) (fun j hj => by cases hj; omega))
      have hz5 : (w4.setCell ⟨P, 3, none⟩ (.int .i64 (x : Int))).heap.size = w4.heap.size := Go.Deep.nblk_setCell _ _ _
      have HZ5 := Lib.hid hz5
      clear hz5
      go_upto_region 6 with fail
      generalize hw5 : w4.setCell ⟨P, 3, none⟩ (.int .i64 (x : Int)) = w5 at *
      clear hw5 m0 m1 K4 M4 C4 G4
      have hz5 := Nat.le_of_eq HZ5.out.symm
      have p3 : w5.cell? ⟨P, 3, none⟩ = some (.int .i64 (x : Int)) := by have h := cell_of_row _ P 3 _ _ _ M5.out; simpa using h
      have p1 : w5.cell? ⟨P, 1, none⟩ = some (.int .i64 ((0 : Nat) : Int)) := by have h := cell_of_row _ P 1 _ _ _ M5.out; simpa using h
      by_cases hx0 : x = 0
      · subst hx0
        go_wp2_with fail
        refine (pick_any B b (k + 2 + 2 + 2) 2 w5 C5.out (by omega) (by omega) (by omega)).mono ?_
        rintro e w6 ⟨y, rfl, hr6, hc, hg⟩
        have K6 := Lib.hid ((hg.block w.heap.size (by omega) (fun e => by have := Option.some.inj e; omega)).trans K5.out)
        have M6 := Lib.hid ((hg.block P (by omega) (fun e => by have := Option.some.inj e; omega)).trans M5.out)
        have G6 := Lib.hid (grown_trans G5.out hg)
        have C6 := Lib.hid hc
        have hz6 := hg.size
        clear hc hg
        clear K5 M5 C5 G5
        have mm := M6.out
        have m0 := cell_of_row w6 P 4 _ _ _ mm
        have m1 := frozen_of_row w6 P 4 _ _ mm
        clear mm
        have M7 := Lib.hid (blk_setD (i := 4) (v := .int .i64 (y : Int)) M6.out)
        have K7 : Hid ((w6.setCell ⟨P, 4, none⟩ (.int .i64 (y : Int))).heap[w.heap.size]? = some (.cells #[.int .i64 0, .int .i64 0, .int .i64 0, .int .i64 0, .int .i64 0] 31 (0, 0))) := Lib.hid (by simp only [World.setCell, Array.getElem?_modify]; rw [if_neg (by show ¬ P = w.heap.size; omega)]; exact K6.out)
        have G7 := Lib.hid (grown_past G6.out (grown_setCell w6 P 4 (.int .i64 (y : Int))) (by omega))
        have C7 := Lib.hid (C6.out.grown (grown_setCell w6 P 4 (.int .i64 (y : Int))) (fun j hj => by cases hj; omega))
        have hz7 : (w6.setCell ⟨P, 4, none⟩ (.int .i64 (y : Int))).heap.size = w6.heap.size := Go.Deep.nblk_setCell _ _ _
        have HZ7 := Lib.hid hz7
        clear hz7
        go_wp2
        generalize hw7 : w6.setCell ⟨P, 4, none⟩ (.int .i64 (y : Int)) = w7 at *
        clear hw7 m0 m1 K6 M6 C6 G6
        have hz7 := Nat.le_of_eq HZ7.out.symm
        go_meet
        case rel => exact ⟨0, (y : Int), K7, M7, Lib.hid (C7.out.mono (by omega)), G7, Lib.hid (by omega)⟩
      · have t3 : ((x : Int) == 0) = false := by rw [beq_eq_false_iff_ne]; omega
        go_wp2
        go_meet
        case rel => exact ⟨(x : Int), 0, K5, M5, Lib.hid (C5.out.mono (by omega)), G5, Lib.hid (by omega)⟩
    · skip
      go_wp2_with fail
      refine (pick_any B b (k + 2 + 2) 2 w3 C3.out (by omega) (by omega) (by omega)).mono ?_
      rintro e w4 ⟨x, rfl, hr4, hc, hg⟩
      have K4 := Lib.hid ((hg.block w.heap.size (by omega) (fun e => by have := Option.some.inj e; omega)).trans K3.out)
      have M4 := Lib.hid ((hg.block P (by omega) (fun e => by have := Option.some.inj e; omega)).trans M3.out)
      have G4 := Lib.hid (grown_trans G3.out hg)
      have C4 := Lib.hid hc
      have hz4 := hg.size
      clear hc hg
      clear K3 M3 C3 G3
      have mm := M4.out
      have m0 := cell_of_row w4 P 3 _ _ _ mm
      have m1 := frozen_of_row w4 P 3 _ _ mm
      clear mm
      have M5 := Lib.hid (blk_setD (i := 3) (v := .int .i64 (x : Int)) M4.out)
      have K5 : Hid ((w4.setCell ⟨P, 3, none⟩ (.int .i64 (x : Int))).heap[w.heap.size]? = some (.cells #[.int .i64 0, .int .i64 0, .int .i64 0, .int .i64 0, .int .i64 0] 31 (0, 0))) := Lib.hid (by simp only [World.setCell, Array.getElem?_modify]; rw [if_neg (by show ¬ P = w.heap.size; omega)]; exact K4.out)
      have G5 := Lib.hid (grown_past G4.out (grown_setCell w4 P 3 (.int .i64 (x : Int))) (by omega))
      have C5 := Lib.hid (C4.out.grown (grown_setCell w4 P 3 (.int .i64 (x : Int))) (fun j hj => by cases hj; omega))
      have hz5 : (w4.setCell ⟨P, 3, none⟩ (.int .i64 (x : Int))).heap.size = w4.heap.size := Go.Deep.nblk_setCell _ _ _
      have HZ5 := Lib.hid hz5
      clear hz5
      go_upto_region 6 with fail
      generalize hw5 : w4.setCell ⟨P, 3, none⟩ (.int .i64 (x : Int)) = w5 at *
      clear hw5 m0 m1 K4 M4 C4 G4
      have hz5 := Nat.le_of_eq HZ5.out.symm
      have p1 : w5.cell? ⟨P, 1, none⟩ = some (.int .i64 ((1 : Nat) : Int)) := by have h := cell_of_row _ P 1 _ _ _ M5.out; simpa using h
      go_wp2_with fail
      refine (pick_any B b (k + 2 + 2 + 2) 2 w5 C5.out (by omega) (by omega) (by omega)).mono ?_
      rintro e w6 ⟨y, rfl, hr6, hc, hg⟩
      have K6 := Lib.hid ((hg.block w.heap.size (by omega) (fun e => by have := Option.some.inj e; omega)).trans K5.out)
      have M6 := Lib.hid ((hg.block P (by omega) (fun e => by have := Option.some.inj e; omega)).trans M5.out)
      have G6 := Lib.hid (grown_trans G5.out hg)
      have C6 := Lib.hid hc
      have hz6 := hg.size
      clear hc hg
      clear K5 M5 C5 G5
      have mm := M6.out
      have m0 := cell_of_row w6 P 4 _ _ _ mm
      have m1 := frozen_of_row w6 P 4 _ _ mm
      clear mm
      have M7 := Lib.hid (blk_setD (i := 4) (v := .int .i64 (y : Int)) M6.out)
      have K7 : Hid ((w6.setCell ⟨P, 4, none⟩ (.int .i64 (y : Int))).heap[w.heap.size]? = some (.cells #[.int .i64 0, .int .i64 0, .int .i64 0, .int .i64 0, .int .i64 0] 31 (0, 0))) := Lib.hid (by simp only [World.setCell, Array.getElem?_modify]; rw [if_neg (by show ¬ P = w.heap.size; omega)]; exact K6.out)
      have G7 := Lib.hid (grown_past G6.out (grown_setCell w6 P 4 (.int .i64 (y : Int))) (by omega))
      have C7 := Lib.hid (C6.out.grown (grown_setCell w6 P 4 (.int .i64 (y : Int))) (fun j hj => by cases hj; omega))
      have hz7 : (w6.setCell ⟨P, 4, none⟩ (.int .i64 (y : Int))).heap.size = w6.heap.size := Go.Deep.nblk_setCell _ _ _
      have HZ7 := Lib.hid hz7
      clear hz7
      go_wp2
      generalize hw7 : w6.setCell ⟨P, 4, none⟩ (.int .i64 (y : Int)) = w7 at *
      clear hw7 m0 m1 K6 M6 C6 G6
      have hz7 := Nat.le_of_eq HZ7.out.symm
      go_meet
      case rel => exact ⟨(x : Int), (y : Int), K7, M7, Lib.hid (C7.out.mono (by omega)), G7, Lib.hid (by omega)⟩
    · skip
      go_wp2_with fail
      refine (among_any B b (k + 2 + 2) w3.heap.size 3 3 [0, 3, 50] _ (C3.out.alloc _) (by omega) rfl (by omega) (by omega) (by omega) (num_cells w3 3 [0, 3, 50] _ rfl)).mono ?_
      rintro e w4 ⟨x, hx4, rfl, hc, hg⟩
      have K4 := Lib.hid ((hg.block w.heap.size (by simp; omega) (fun e => by have := Option.some.inj e; omega)).trans (old_allocD (o' := .cells #[.int .i64 0, .int .i64 3, .int .i64 50] 3) K3.out))
      have M4 := Lib.hid ((hg.block P (by simp; omega) (fun e => by have := Option.some.inj e; omega)).trans (old_allocD (o' := .cells #[.int .i64 0, .int .i64 3, .int .i64 50] 3) M3.out))
      have G4 := Lib.hid (grown_trans (grown_trans G3.out (World.grownBy_alloc _ (.cells #[.int .i64 0, .int .i64 3, .int .i64 50] 3) (some b))) hg)
      have C4 := Lib.hid hc
      have hz4 := hg.size
      simp at hz4
      clear hc hg hx4
      clear K3 M3 C3 G3
      have mm := M4.out
      have m0 := cell_of_row w4 P 3 _ _ _ mm
      have m1 := frozen_of_row w4 P 3 _ _ mm
      clear mm
      have M5 := Lib.hid (blk_setD (i := 3) (v := .int .i64 x) M4.out)
      have K5 : Hid ((w4.setCell ⟨P, 3, none⟩ (.int .i64 x)).heap[w.heap.size]? = some (.cells #[.int .i64 0, .int .i64 0, .int .i64 0, .int .i64 0, .int .i64 0] 31 (0, 0))) := Lib.hid (by simp only [World.setCell, Array.getElem?_modify]; rw [if_neg (by show ¬ P = w.heap.size; omega)]; exact K4.out)
      have G5 := Lib.hid (grown_past G4.out (grown_setCell w4 P 3 (.int .i64 x)) (by omega))
      have C5 := Lib.hid (C4.out.grown (grown_setCell w4 P 3 (.int .i64 x)) (fun j hj => by cases hj; omega))
      have hz5 : (w4.setCell ⟨P, 3, none⟩ (.int .i64 x)).heap.size = w4.heap.size := Go.Deep.nblk_setCell _ _ _
      have HZ5 := Lib.hid hz5
      clear hz5
      go_upto_region 10 with fail
      generalize hw5 : w4.setCell ⟨P, 3, none⟩ (.int .i64 x) = w5 at *
      clear hw5 m0 m1 K4 M4 C4 G4
      have hz5 := Nat.le_of_eq HZ5.out.symm
      go_wp2_with fail
      refine (among_any B b (k + 2 + 2 + 2) w5.heap.size 3 3 [0, 2, 50] _ (C5.out.alloc _) (by omega) rfl (by omega) (by omega) (by omega) (num_cells w5 3 [0, 2, 50] _ rfl)).mono ?_
      rintro e w6 ⟨y, hx6, rfl, hc, hg⟩
      have K6 := Lib.hid ((hg.block w.heap.size (by simp; omega) (fun e => by have := Option.some.inj e; omega)).trans (old_allocD (o' := .cells #[.int .i64 0, .int .i64 2, .int .i64 50] 3) K5.out))
      have M6 := Lib.hid ((hg.block P (by simp; omega) (fun e => by have := Option.some.inj e; omega)).trans (old_allocD (o' := .cells #[.int .i64 0, .int .i64 2, .int .i64 50] 3) M5.out))
      have G6 := Lib.hid (grown_trans (grown_trans G5.out (World.grownBy_alloc _ (.cells #[.int .i64 0, .int .i64 2, .int .i64 50] 3) (some b))) hg)
      have C6 := Lib.hid hc
      have hz6 := hg.size
      simp at hz6
      clear hc hg hx6
      clear K5 M5 C5 G5
      have mm := M6.out
      have m0 := cell_of_row w6 P 4 _ _ _ mm
      have m1 := frozen_of_row w6 P 4 _ _ mm
      clear mm
      have M7 := Lib.hid (blk_setD (i := 4) (v := .int .i64 y) M6.out)
      have K7 : Hid ((w6.setCell ⟨P, 4, none⟩ (.int .i64 y)).heap[w.heap.size]? = some (.cells #[.int .i64 0, .int .i64 0, .int .i64 0, .int .i64 0, .int .i64 0] 31 (0, 0))) := Lib.hid (by simp only [World.setCell, Array.getElem?_modify]; rw [if_neg (by show ¬ P = w.heap.size; omega)]; exact K6.out)
      have G7 := Lib.hid (grown_past G6.out (grown_setCell w6 P 4 (.int .i64 y)) (by omega))
      have C7 := Lib.hid (C6.out.grown (grown_setCell w6 P 4 (.int .i64 y)) (fun j hj => by cases hj; omega))
      have hz7 : (w6.setCell ⟨P, 4, none⟩ (.int .i64 y)).heap.size = w6.heap.size := Go.Deep.nblk_setCell _ _ _
      have HZ7 := Lib.hid hz7
      clear hz7
      go_wp2
      generalize hw7 : w6.setCell ⟨P, 4, none⟩ (.int .i64 y) = w7 at *
      clear hw7 m0 m1 K6 M6 C6 G6
      have hz7 := Nat.le_of_eq HZ7.out.symm
      go_meet
      case rel => exact ⟨x, y, K7, M7, Lib.hid (C7.out.mono (by omega)), G7, Lib.hid (by omega)⟩
    · skip
      go_wp2_with fail
      refine (among_any B b (k + 2 + 2) w3.heap.size 3 3 [0, 4, 5] _ (C3.out.alloc _) (by omega) rfl (by omega) (by omega) (by omega) (num_cells w3 3 [0, 4, 5] _ rfl)).mono ?_
      rintro e w4 ⟨x, hx4, rfl, hc, hg⟩
      have K4 := Lib.hid ((hg.block w.heap.size (by simp; omega) (fun e => by have := Option.some.inj e; omega)).trans (old_allocD (o' := .cells #[.int .i64 0, .int .i64 4, .int .i64 5] 3) K3.out))
      have M4 := Lib.hid ((hg.block P (by simp; omega) (fun e => by have := Option.some.inj e; omega)).trans (old_allocD (o' := .cells #[.int .i64 0, .int .i64 4, .int .i64 5] 3) M3.out))
      have G4 := Lib.hid (grown_trans (grown_trans G3.out (World.grownBy_alloc _ (.cells #[.int .i64 0, .int .i64 4, .int .i64 5] 3) (some b))) hg)
      have C4 := Lib.hid hc
      have hz4 := hg.size
      simp at hz4
      clear hc hg hx4
      clear K3 M3 C3 G3
      have mm := M4.out
      have m0 := cell_of_row w4 P 3 _ _ _ mm
      have m1 := frozen_of_row w4 P 3 _ _ mm
      clear mm
      have M5 := Lib.hid (blk_setD (i := 3) (v := .int .i64 x) M4.out)
      have K5 : Hid ((w4.setCell ⟨P, 3, none⟩ (.int .i64 x)).heap[w.heap.size]? = some (.cells #[.int .i64 0, .int .i64 0, .int .i64 0, .int .i64 0, .int .i64 0] 31 (0, 0))) := Lib.hid (by simp only [World.setCell, Array.getElem?_modify]; rw [if_neg (by show ¬ P = w.heap.size; omega)]; exact K4.out)
      have G5 := Lib.hid (grown_past G4.out (grown_setCell w4 P 3 (.int .i64 x)) (by omega))
      have C5 := Lib.hid (C4.out.grown (grown_setCell w4 P 3 (.int .i64 x)) (fun j hj => by cases hj; omega))
      have hz5 : (w4.setCell ⟨P, 3, none⟩ (.int .i64 x)).heap.size = w4.heap.size := Go.Deep.nblk_setCell _ _ _
      have HZ5 := Lib.hid hz5
      clear hz5
      go_upto_region 13 with fail
      generalize hw5 : w4.setCell ⟨P, 3, none⟩ (.int .i64 x) = w5 at *
      clear hw5 m0 m1 K4 M4 C4 G4
      have hz5 := Nat.le_of_eq HZ5.out.symm
      go_wp2_with fail
      refine (among_any B b (k + 2 + 2 + 2) w5.heap.size 3 3 [0, 4, 5] _ (C5.out.alloc _) (by omega) rfl (by omega) (by omega) (by omega) (num_cells w5 3 [0, 4, 5] _ rfl)).mono ?_
      rintro e w6 ⟨y, hx6, rfl, hc, hg⟩
      have K6 := Lib.hid ((hg.block w.heap.size (by simp; omega) (fun e => by have := Option.some.inj e; omega)).trans (old_allocD (o' := .cells #[.int .i64 0, .int .i64 4, .int .i64 5] 3) K5.out))
      have M6 := Lib.hid ((hg.block P (by simp; omega) (fun e => by have := Option.some.inj e; omega)).trans (old_allocD (o' := .cells #[.int .i64 0, .int .i64 4, .int .i64 5] 3) M5.out))
      have G6 := Lib.hid (grown_trans (grown_trans G5.out (World.grownBy_alloc _ (.cells #[.int .i64 0, .int .i64 4, .int .i64 5] 3) (some b))) hg)
      have C6 := Lib.hid hc
      have hz6 := hg.size
      simp at hz6
      clear hc hg hx6
      clear K5 M5 C5 G5
      have mm := M6.out
      have m0 := cell_of_row w6 P 4 _ _ _ mm
      have m1 := frozen_of_row w6 P 4 _ _ mm
      clear mm
      have M7 := Lib.hid (blk_setD (i := 4) (v := .int .i64 y) M6.out)
      have K7 : Hid ((w6.setCell ⟨P, 4, none⟩ (.int .i64 y)).heap[w.heap.size]? = some (.cells #[.int .i64 0, .int .i64 0, .int .i64 0, .int .i64 0, .int .i64 0] 31 (0, 0))) := Lib.hid (by simp only [World.setCell, Array.getElem?_modify]; rw [if_neg (by show ¬ P = w.heap.size; omega)]; exact K6.out)
      have G7 := Lib.hid (grown_past G6.out (grown_setCell w6 P 4 (.int .i64 y)) (by omega))
      have C7 := Lib.hid (C6.out.grown (grown_setCell w6 P 4 (.int .i64 y)) (fun j hj => by cases hj; omega))
      have hz7 : (w6.setCell ⟨P, 4, none⟩ (.int .i64 y)).heap.size = w6.heap.size := Go.Deep.nblk_setCell _ _ _
      have HZ7 := Lib.hid hz7
      clear hz7
      go_wp2
      generalize hw7 : w6.setCell ⟨P, 4, none⟩ (.int .i64 y) = w7 at *
      clear hw7 m0 m1 K6 M6 C6 G6
      have hz7 := Nat.le_of_eq HZ7.out.symm
      go_meet
      case rel => exact ⟨x, y, K7, M7, Lib.hid (C7.out.mono (by omega)), G7, Lib.hid (by omega)⟩
  case rest =>
    obtain ⟨u, v, K9, M9, C9, G9, HS9⟩ := hcut
    have hs9 : P < wc.heap.size := by have := HS9.out; have := HW3.out; omega
    generalize wc = w9 at *
    clear K3 M3 C3 G3 HS9 HW3 hw3P p1
    go_wp2_with fail
    refine (pick_any B b (k + 10) 60 w9 C9.out (by omega) (by omega) (by omega)).mono ?_
    rintro e w10 ⟨r, rfl, hr10, hc, hg⟩
    have K10 := Lib.hid ((hg.block w.heap.size (by omega) (fun e => by have := Option.some.inj e; omega)).trans K9.out)
    have M10 := Lib.hid ((hg.block P (by omega) (fun e => by have := Option.some.inj e; omega)).trans M9.out)
    have G10 := Lib.hid (grown_trans G9.out hg)
    have C10 := Lib.hid hc
    have hz10 := hg.size
    clear hc hg
    clear K9 M9 C9 G9
    by_cases e0 : r = 0
    · have t0 : ((r : Int) == 0) = true := by rw [beq_iff_eq]; omega
      clear e0
      go_wp2_with fail
      refine (among_any B b (k + 10 + 2) w10.heap.size 3 3 [0, 9999, 10000] _ (C10.out.alloc _) (by omega) rfl (by omega) (by omega) (by omega) (num_cells w10 3 [0, 9999, 10000] _ rfl)).mono ?_
      rintro e w11 ⟨y, hx11, rfl, hc, hg⟩
      have K11 := Lib.hid ((hg.block w.heap.size (by simp; omega) (fun e => by have := Option.some.inj e; omega)).trans (old_allocD (o' := .cells #[.int .i64 0, .int .i64 9999, .int .i64 10000] 3) K10.out))
      have M11 := Lib.hid ((hg.block P (by simp; omega) (fun e => by have := Option.some.inj e; omega)).trans (old_allocD (o' := .cells #[.int .i64 0, .int .i64 9999, .int .i64 10000] 3) M10.out))
      have G11 := Lib.hid (grown_trans (grown_trans G10.out (World.grownBy_alloc _ (.cells #[.int .i64 0, .int .i64 9999, .int .i64 10000] 3) (some b))) hg)
      have C11 := Lib.hid hc
      have hz11 := hg.size
      simp at hz11
      clear hc hg hx11
      clear K10 M10 C10 G10
      have mm := M11.out
      have m0 := cell_of_row w11 P 0 _ _ _ mm
      have m1 := frozen_of_row w11 P 0 _ _ mm
      clear mm
      have M12 := Lib.hid (blk_setD (i := 0) (v := .int .i64 y) M11.out)
      have K12 : Hid ((w11.setCell ⟨P, 0, none⟩ (.int .i64 y)).heap[w.heap.size]? = some (.cells #[.int .i64 0, .int .i64 0, .int .i64 0, .int .i64 0, .int .i64 0] 31 (0, 0))) := Lib.hid (by simp only [World.setCell, Array.getElem?_modify]; rw [if_neg (by show ¬ P = w.heap.size; omega)]; exact K11.out)
      have G12 := Lib.hid (grown_past G11.out (grown_setCell w11 P 0 (.int .i64 y)) (by omega))
      have C12 := Lib.hid (C11.out.grown (grown_setCell w11 P 0 (.int .i64 y)) (fun j hj => by cases hj; omega))
      have hz12 : (w11.setCell ⟨P, 0, none⟩ (.int .i64 y)).heap.size = w11.heap.size := Go.Deep.nblk_setCell _ _ _
      have HZ12 := Lib.hid hz12
      clear hz12
      go_upto_region 25 with fail
      generalize hw12 : w11.setCell ⟨P, 0, none⟩ (.int .i64 y) = w12 at *
      clear hw12 m0 m1 K11 M11 C11 G11
      have hz12 := Nat.le_of_eq HZ12.out.symm
      have kk := K12.out
      have mm := M12.out
      have a0 := cell_of_row w12 P 0 _ _ _ mm
      have a1 := cell_of_row w12 P 1 _ _ _ mm
      have a2 := cell_of_row w12 P 2 _ _ _ mm
      have a3 := cell_of_row w12 P 3 _ _ _ mm
      have a4 := cell_of_row w12 P 4 _ _ _ mm
      have c0 := cell_of_row w12 w.heap.size 0 _ _ _ kk
      have c1 := cell_of_row w12 w.heap.size 1 _ _ _ kk
      have c2 := cell_of_row w12 w.heap.size 2 _ _ _ kk
      have c3 := cell_of_row w12 w.heap.size 3 _ _ _ kk
      have c4 := cell_of_row w12 w.heap.size 4 _ _ _ kk
      have d0 := frozen_of_row w12 w.heap.size 0 _ _ kk
      have d1 := frozen_of_row w12 w.heap.size 1 _ _ kk
      have d2 := frozen_of_row w12 w.heap.size 2 _ _ kk
      have d3 := frozen_of_row w12 w.heap.size 3 _ _ kk
      have d4 := frozen_of_row w12 w.heap.size 4 _ _ kk
      have s0 := blk_setD (i := 0) (v := .int .i64 y) kk
      have z0 := cell_of_row _ w.heap.size 0 _ _ _ s0
      have s1 := blk_setD (i := 1) (v := .int .i64 (kd : Int)) s0
      have z1 := cell_of_row _ w.heap.size 1 _ _ _ s1
      have s2 := blk_setD (i := 2) (v := .int .i64 dy) s1
      have z2 := cell_of_row _ w.heap.size 2 _ _ _ s2
      have s3 := blk_setD (i := 3) (v := .int .i64 u) s2
      have z3 := cell_of_row _ w.heap.size 3 _ _ _ s3
      have s4 := blk_setD (i := 4) (v := .int .i64 v) s3
      have z4 := cell_of_row _ w.heap.size 4 _ _ _ s4
      simp at a0 a1 a2 a3 a4 c0 c1 c2 c3 c4 z0 z1 z2 z3 z4
      have Z0 := Lib.hid z0
      have Z1 := Lib.hid z1
      have Z2 := Lib.hid z2
      have Z3 := Lib.hid z3
      have Z4 := Lib.hid z4
      clear kk mm s0 s1 s2 s3 s4 z0 z1 z2 z3 z4
      have GG := Lib.hid (grown_trans (grown_trans (grown_trans (grown_trans (grown_setCell w12 w.heap.size 0 (.int .i64 y)) (grown_setCell _ w.heap.size 1 (.int .i64 (kd : Int)))) (grown_setCell _ w.heap.size 2 (.int .i64 dy))) (grown_setCell _ w.heap.size 3 (.int .i64 u))) (grown_setCell _ w.heap.size 4 (.int .i64 v)))
      go_wp2
      refine bodyPost_ret (v := .agg #[.int .i64 y, .int .i64 (kd : Int), .int .i64 dy, .int .i64 u, .int .i64 v]) (by simp [results, Tryd.results72, go_sem, Z0.out, Z1.out, Z2.out, Z3.out, Z4.out]) rfl ⟨⟨y, (kd : Int), dy, u, v⟩, rfl, (C12.out.grown GG.out (fun j hj => by cases hj; exact hb)).mono (by omega), grown_past G12.out GG.out (Nat.le_refl _)⟩
    · have t0 : ((r : Int) == 0) = false := by rw [beq_eq_false_iff_ne]; omega
      by_cases e1 : r = 1
      · have t1 : ((r : Int) == 1) = true := by rw [beq_iff_eq]; omega
        clear e1
        go_wp2_with fail
        refine (among_any B b (k + 10 + 2) w10.heap.size 2 2 [-1, 4] _ (C10.out.alloc _) (by omega) rfl (by omega) (by omega) (by omega) (num_cells w10 3 [-1, 4] _ rfl)).mono ?_
        rintro e w11 ⟨y, hx11, rfl, hc, hg⟩
        have K11 := Lib.hid ((hg.block w.heap.size (by simp; omega) (fun e => by have := Option.some.inj e; omega)).trans (old_allocD (o' := .cells #[.int .i64 (-1), .int .i64 4] 3) K10.out))
        have M11 := Lib.hid ((hg.block P (by simp; omega) (fun e => by have := Option.some.inj e; omega)).trans (old_allocD (o' := .cells #[.int .i64 (-1), .int .i64 4] 3) M10.out))
        have G11 := Lib.hid (grown_trans (grown_trans G10.out (World.grownBy_alloc _ (.cells #[.int .i64 (-1), .int .i64 4] 3) (some b))) hg)
        have C11 := Lib.hid hc
        have hz11 := hg.size
        simp at hz11
        clear hc hg hx11
        clear K10 M10 C10 G10
        have mm := M11.out
        have m0 := cell_of_row w11 P 1 _ _ _ mm
        have m1 := frozen_of_row w11 P 1 _ _ mm
        clear mm
        have M12 := Lib.hid (blk_setD (i := 1) (v := .int .i64 y) M11.out)
        have K12 : Hid ((w11.setCell ⟨P, 1, none⟩ (.int .i64 y)).heap[w.heap.size]? = some (.cells #[.int .i64 0, .int .i64 0, .int .i64 0, .int .i64 0, .int .i64 0] 31 (0, 0))) := Lib.hid (by simp only [World.setCell, Array.getElem?_modify]; rw [if_neg (by show ¬ P = w.heap.size; omega)]; exact K11.out)
        have G12 := Lib.hid (grown_past G11.out (grown_setCell w11 P 1 (.int .i64 y)) (by omega))
        have C12 := Lib.hid (C11.out.grown (grown_setCell w11 P 1 (.int .i64 y)) (fun j hj => by cases hj; omega))
        have hz12 : (w11.setCell ⟨P, 1, none⟩ (.int .i64 y)).heap.size = w11.heap.size := Go.Deep.nblk_setCell _ _ _
        have HZ12 := Lib.hid hz12
        clear hz12
        go_upto_region 25 with fail
        generalize hw12 : w11.setCell ⟨P, 1, none⟩ (.int .i64 y) = w12 at *
        clear hw12 m0 m1 K11 M11 C11 G11
        have hz12 := Nat.le_of_eq HZ12.out.symm
        have kk := K12.out
        have mm := M12.out
        have a0 := cell_of_row w12 P 0 _ _ _ mm
        have a1 := cell_of_row w12 P 1 _ _ _ mm
        have a2 := cell_of_row w12 P 2 _ _ _ mm
        have a3 := cell_of_row w12 P 3 _ _ _ mm
        have a4 := cell_of_row w12 P 4 _ _ _ mm
        have c0 := cell_of_row w12 w.heap.size 0 _ _ _ kk
        have c1 := cell_of_row w12 w.heap.size 1 _ _ _ kk
        have c2 := cell_of_row w12 w.heap.size 2 _ _ _ kk
        have c3 := cell_of_row w12 w.heap.size 3 _ _ _ kk
        have c4 := cell_of_row w12 w.heap.size 4 _ _ _ kk
        have d0 := frozen_of_row w12 w.heap.size 0 _ _ kk
        have d1 := frozen_of_row w12 w.heap.size 1 _ _ kk
        have d2 := frozen_of_row w12 w.heap.size 2 _ _ kk
        have d3 := frozen_of_row w12 w.heap.size 3 _ _ kk
        have d4 := frozen_of_row w12 w.heap.size 4 _ _ kk
        have s0 := blk_setD (i := 0) (v := .int .i64 id) kk
        have z0 := cell_of_row _ w.heap.size 0 _ _ _ s0
        have s1 := blk_setD (i := 1) (v := .int .i64 y) s0
        have z1 := cell_of_row _ w.heap.size 1 _ _ _ s1
        have s2 := blk_setD (i := 2) (v := .int .i64 dy) s1
        have z2 := cell_of_row _ w.heap.size 2 _ _ _ s2
        have s3 := blk_setD (i := 3) (v := .int .i64 u) s2
        have z3 := cell_of_row _ w.heap.size 3 _ _ _ s3
        have s4 := blk_setD (i := 4) (v := .int .i64 v) s3
        have z4 := cell_of_row _ w.heap.size 4 _ _ _ s4
        simp at a0 a1 a2 a3 a4 c0 c1 c2 c3 c4 z0 z1 z2 z3 z4
        have Z0 := Lib.hid z0
        have Z1 := Lib.hid z1
        have Z2 := Lib.hid z2
        have Z3 := Lib.hid z3
        have Z4 := Lib.hid z4
        clear kk mm s0 s1 s2 s3 s4 z0 z1 z2 z3 z4
        have GG := Lib.hid (grown_trans (grown_trans (grown_trans (grown_trans (grown_setCell w12 w.heap.size 0 (.int .i64 id)) (grown_setCell _ w.heap.size 1 (.int .i64 y))) (grown_setCell _ w.heap.size 2 (.int .i64 dy))) (grown_setCell _ w.heap.size 3 (.int .i64 u))) (grown_setCell _ w.heap.size 4 (.int .i64 v)))
        go_wp2
        refine bodyPost_ret (v := .agg #[.int .i64 id, .int .i64 y, .int .i64 dy, .int .i64 u, .int .i64 v]) (by simp [results, Tryd.results72, go_sem, Z0.out, Z1.out, Z2.out, Z3.out, Z4.out]) rfl ⟨⟨id, y, dy, u, v⟩, rfl, (C12.out.grown GG.out (fun j hj => by cases hj; exact hb)).mono (by omega), grown_past G12.out GG.out (Nat.le_refl _)⟩
      · have t1 : ((r : Int) == 1) = false := by rw [beq_eq_false_iff_ne]; omega
        by_cases e2 : r = 2
        · have t2 : ((r : Int) == 2) = true := by rw [beq_iff_eq]; omega
          clear e2
          go_wp2_with fail
          refine (among_any B b (k + 10 + 2) w10.heap.size 2 2 [-1, 1000] _ (C10.out.alloc _) (by omega) rfl (by omega) (by omega) (by omega) (num_cells w10 3 [-1, 1000] _ rfl)).mono ?_
          rintro e w11 ⟨y, hx11, rfl, hc, hg⟩
          have K11 := Lib.hid ((hg.block w.heap.size (by simp; omega) (fun e => by have := Option.some.inj e; omega)).trans (old_allocD (o' := .cells #[.int .i64 (-1), .int .i64 1000] 3) K10.out))
          have M11 := Lib.hid ((hg.block P (by simp; omega) (fun e => by have := Option.some.inj e; omega)).trans (old_allocD (o' := .cells #[.int .i64 (-1), .int .i64 1000] 3) M10.out))
          have G11 := Lib.hid (grown_trans (grown_trans G10.out (World.grownBy_alloc _ (.cells #[.int .i64 (-1), .int .i64 1000] 3) (some b))) hg)
          have C11 := Lib.hid hc
          have hz11 := hg.size
          simp at hz11
          clear hc hg hx11
          clear K10 M10 C10 G10
          have mm := M11.out
          have m0 := cell_of_row w11 P 2 _ _ _ mm
          have m1 := frozen_of_row w11 P 2 _ _ mm
          clear mm
          have M12 := Lib.hid (blk_setD (i := 2) (v := .int .i64 y) M11.out)
          have K12 : Hid ((w11.setCell ⟨P, 2, none⟩ (.int .i64 y)).heap[w.heap.size]? = some (.cells #[.int .i64 0, .int .i64 0, .int .i64 0, .int .i64 0, .int .i64 0] 31 (0, 0))) := Lib.hid (by simp only [World.setCell, Array.getElem?_modify]; rw [if_neg (by show ¬ P = w.heap.size; omega)]; exact K11.out)
          have G12 := Lib.hid (grown_past G11.out (grown_setCell w11 P 2 (.int .i64 y)) (by omega))
          have C12 := Lib.hid (C11.out.grown (grown_setCell w11 P 2 (.int .i64 y)) (fun j hj => by cases hj; omega))
          have hz12 : (w11.setCell ⟨P, 2, none⟩ (.int .i64 y)).heap.size = w11.heap.size := Go.Deep.nblk_setCell _ _ _
          have HZ12 := Lib.hid hz12
          clear hz12
          go_upto_region 25 with fail
          generalize hw12 : w11.setCell ⟨P, 2, none⟩ (.int .i64 y) = w12 at *
          clear hw12 m0 m1 K11 M11 C11 G11
          have hz12 := Nat.le_of_eq HZ12.out.symm
          have kk := K12.out
          have mm := M12.out
          have a0 := cell_of_row w12 P 0 _ _ _ mm
          have a1 := cell_of_row w12 P 1 _ _ _ mm
          have a2 := cell_of_row w12 P 2 _ _ _ mm
          have a3 := cell_of_row w12 P 3 _ _ _ mm
          have a4 := cell_of_row w12 P 4 _ _ _ mm
          have c0 := cell_of_row w12 w.heap.size 0 _ _ _ kk
          have c1 := cell_of_row w12 w.heap.size 1 _ _ _ kk
          have c2 := cell_of_row w12 w.heap.size 2 _ _ _ kk
          have c3 := cell_of_row w12 w.heap.size 3 _ _ _ kk
          have c4 := cell_of_row w12 w.heap.size 4 _ _ _ kk
          have d0 := frozen_of_row w12 w.heap.size 0 _ _ kk
          have d1 := frozen_of_row w12 w.heap.size 1 _ _ kk
          have d2 := frozen_of_row w12 w.heap.size 2 _ _ kk
          have d3 := frozen_of_row w12 w.heap.size 3 _ _ kk
          have d4 := frozen_of_row w12 w.heap.size 4 _ _ kk
          have s0 := blk_setD (i := 0) (v := .int .i64 id) kk
          have z0 := cell_of_row _ w.heap.size 0 _ _ _ s0
          have s1 := blk_setD (i := 1) (v := .int .i64 (kd : Int)) s0
          have z1 := cell_of_row _ w.heap.size 1 _ _ _ s1
          have s2 := blk_setD (i := 2) (v := .int .i64 y) s1
          have z2 := cell_of_row _ w.heap.size 2 _ _ _ s2
          have s3 := blk_setD (i := 3) (v := .int .i64 u) s2
          have z3 := cell_of_row _ w.heap.size 3 _ _ _ s3
          have s4 := blk_setD (i := 4) (v := .int .i64 v) s3
          have z4 := cell_of_row _ w.heap.size 4 _ _ _ s4
          simp at a0 a1 a2 a3 a4 c0 c1 c2 c3 c4 z0 z1 z2 z3 z4
          have Z0 := Lib.hid z0
          have Z1 := Lib.hid z1
          have Z2 := Lib.hid z2
          have Z3 := Lib.hid z3
          have Z4 := Lib.hid z4
          clear kk mm s0 s1 s2 s3 s4 z0 z1 z2 z3 z4
          have GG := Lib.hid (grown_trans (grown_trans (grown_trans (grown_trans (grown_setCell w12 w.heap.size 0 (.int .i64 id)) (grown_setCell _ w.heap.size 1 (.int .i64 (kd : Int)))) (grown_setCell _ w.heap.size 2 (.int .i64 y))) (grown_setCell _ w.heap.size 3 (.int .i64 u))) (grown_setCell _ w.heap.size 4 (.int .i64 v)))
          go_wp2
          refine bodyPost_ret (v := .agg #[.int .i64 id, .int .i64 (kd : Int), .int .i64 y, .int .i64 u, .int .i64 v]) (by simp [results, Tryd.results72, go_sem, Z0.out, Z1.out, Z2.out, Z3.out, Z4.out]) rfl ⟨⟨id, (kd : Int), y, u, v⟩, rfl, (C12.out.grown GG.out (fun j hj => by cases hj; exact hb)).mono (by omega), grown_past G12.out GG.out (Nat.le_refl _)⟩
        · have t2 : ((r : Int) == 2) = false := by rw [beq_eq_false_iff_ne]; omega
          by_cases e3 : r = 3
          · have t3 : ((r : Int) == 3) = true := by rw [beq_iff_eq]; omega
            clear e3
            go_wp2_with fail
            refine (among_any B b (k + 10 + 2) w10.heap.size 4 4 [-1, 2, 6, 51] _ (C10.out.alloc _) (by omega) rfl (by omega) (by omega) (by omega) (num_cells w10 3 [-1, 2, 6, 51] _ rfl)).mono ?_
            rintro e w11 ⟨y, hx11, rfl, hc, hg⟩
            have K11 := Lib.hid ((hg.block w.heap.size (by simp; omega) (fun e => by have := Option.some.inj e; omega)).trans (old_allocD (o' := .cells #[.int .i64 (-1), .int .i64 2, .int .i64 6, .int .i64 51] 3) K10.out))
            have M11 := Lib.hid ((hg.block P (by simp; omega) (fun e => by have := Option.some.inj e; omega)).trans (old_allocD (o' := .cells #[.int .i64 (-1), .int .i64 2, .int .i64 6, .int .i64 51] 3) M10.out))
            have G11 := Lib.hid (grown_trans (grown_trans G10.out (World.grownBy_alloc _ (.cells #[.int .i64 (-1), .int .i64 2, .int .i64 6, .int .i64 51] 3) (some b))) hg)
            have C11 := Lib.hid hc
            have hz11 := hg.size
            simp at hz11
            clear hc hg hx11
            clear K10 M10 C10 G10
            have mm := M11.out
            have m0 := cell_of_row w11 P 3 _ _ _ mm
            have m1 := frozen_of_row w11 P 3 _ _ mm
            clear mm
            have M12 := Lib.hid (blk_setD (i := 3) (v := .int .i64 y) M11.out)
            have K12 : Hid ((w11.setCell ⟨P, 3, none⟩ (.int .i64 y)).heap[w.heap.size]? = some (.cells #[.int .i64 0, .int .i64 0, .int .i64 0, .int .i64 0, .int .i64 0] 31 (0, 0))) := Lib.hid (by simp only [World.setCell, Array.getElem?_modify]; rw [if_neg (by show ¬ P = w.heap.size; omega)]; exact K11.out)
            have G12 := Lib.hid (grown_past G11.out (grown_setCell w11 P 3 (.int .i64 y)) (by omega))
            have C12 := Lib.hid (C11.out.grown (grown_setCell w11 P 3 (.int .i64 y)) (fun j hj => by cases hj; omega))
            have hz12 : (w11.setCell ⟨P, 3, none⟩ (.int .i64 y)).heap.size = w11.heap.size := Go.Deep.nblk_setCell _ _ _
            have HZ12 := Lib.hid hz12
            clear hz12
            go_upto_region 25 with fail
            generalize hw12 : w11.setCell ⟨P, 3, none⟩ (.int .i64 y) = w12 at *
            clear hw12 m0 m1 K11 M11 C11 G11
            have hz12 := Nat.le_of_eq HZ12.out.symm
            have kk := K12.out
            have mm := M12.out
            have a0 := cell_of_row w12 P 0 _ _ _ mm
            have a1 := cell_of_row w12 P 1 _ _ _ mm
            have a2 := cell_of_row w12 P 2 _ _ _ mm
            have a3 := cell_of_row w12 P 3 _ _ _ mm
            have a4 := cell_of_row w12 P 4 _ _ _ mm
            have c0 := cell_of_row w12 w.heap.size 0 _ _ _ kk
            have c1 := cell_of_row w12 w.heap.size 1 _ _ _ kk
            have c2 := cell_of_row w12 w.heap.size 2 _ _ _ kk
            have c3 := cell_of_row w12 w.heap.size 3 _ _ _ kk
            have c4 := cell_of_row w12 w.heap.size 4 _ _ _ kk
            have d0 := frozen_of_row w12 w.heap.size 0 _ _ kk
            have d1 := frozen_of_row w12 w.heap.size 1 _ _ kk
            have d2 := frozen_of_row w12 w.heap.size 2 _ _ kk
            have d3 := frozen_of_row w12 w.heap.size 3 _ _ kk
            have d4 := frozen_of_row w12 w.heap.size 4 _ _ kk
            have s0 := blk_setD (i := 0) (v := .int .i64 id) kk
            have z0 := cell_of_row _ w.heap.size 0 _ _ _ s0
            have s1 := blk_setD (i := 1) (v := .int .i64 (kd : Int)) s0
            have z1 := cell_of_row _ w.heap.size 1 _ _ _ s1
            have s2 := blk_setD (i := 2) (v := .int .i64 dy) s1
            have z2 := cell_of_row _ w.heap.size 2 _ _ _ s2
            have s3 := blk_setD (i := 3) (v := .int .i64 y) s2
            have z3 := cell_of_row _ w.heap.size 3 _ _ _ s3
            have s4 := blk_setD (i := 4) (v := .int .i64 v) s3
            have z4 := cell_of_row _ w.heap.size 4 _ _ _ s4
            simp at a0 a1 a2 a3 a4 c0 c1 c2 c3 c4 z0 z1 z2 z3 z4
            have Z0 := Lib.hid z0
            have Z1 := Lib.hid z1
            have Z2 := Lib.hid z2
            have Z3 := Lib.hid z3
            have Z4 := Lib.hid z4
            clear kk mm s0 s1 s2 s3 s4 z0 z1 z2 z3 z4
            have GG := Lib.hid (grown_trans (grown_trans (grown_trans (grown_trans (grown_setCell w12 w.heap.size 0 (.int .i64 id)) (grown_setCell _ w.heap.size 1 (.int .i64 (kd : Int)))) (grown_setCell _ w.heap.size 2 (.int .i64 dy))) (grown_setCell _ w.heap.size 3 (.int .i64 y))) (grown_setCell _ w.heap.size 4 (.int .i64 v)))
            go_wp2
            refine bodyPost_ret (v := .agg #[.int .i64 id, .int .i64 (kd : Int), .int .i64 dy, .int .i64 y, .int .i64 v]) (by simp [results, Tryd.results72, go_sem, Z0.out, Z1.out, Z2.out, Z3.out, Z4.out]) rfl ⟨⟨id, (kd : Int), dy, y, v⟩, rfl, (C12.out.grown GG.out (fun j hj => by cases hj; exact hb)).mono (by omega), grown_past G12.out GG.out (Nat.le_refl _)⟩
          · have t3 : ((r : Int) == 3) = false := by rw [beq_eq_false_iff_ne]; omega
            by_cases e4 : r = 4
            · have t4 : ((r : Int) == 4) = true := by rw [beq_iff_eq]; omega
              clear e4
              go_wp2_with fail
              refine (among_any B b (k + 10 + 2) w10.heap.size 4 4 [-1, 2, 6, 51] _ (C10.out.alloc _) (by omega) rfl (by omega) (by omega) (by omega) (num_cells w10 3 [-1, 2, 6, 51] _ rfl)).mono ?_
              rintro e w11 ⟨y, hx11, rfl, hc, hg⟩
              have K11 := Lib.hid ((hg.block w.heap.size (by simp; omega) (fun e => by have := Option.some.inj e; omega)).trans (old_allocD (o' := .cells #[.int .i64 (-1), .int .i64 2, .int .i64 6, .int .i64 51] 3) K10.out))
              have M11 := Lib.hid ((hg.block P (by simp; omega) (fun e => by have := Option.some.inj e; omega)).trans (old_allocD (o' := .cells #[.int .i64 (-1), .int .i64 2, .int .i64 6, .int .i64 51] 3) M10.out))
              have G11 := Lib.hid (grown_trans (grown_trans G10.out (World.grownBy_alloc _ (.cells #[.int .i64 (-1), .int .i64 2, .int .i64 6, .int .i64 51] 3) (some b))) hg)
              have C11 := Lib.hid hc
              have hz11 := hg.size
              simp at hz11
              clear hc hg hx11
              clear K10 M10 C10 G10
              have mm := M11.out
              have m0 := cell_of_row w11 P 4 _ _ _ mm
              have m1 := frozen_of_row w11 P 4 _ _ mm
              clear mm
              have M12 := Lib.hid (blk_setD (i := 4) (v := .int .i64 y) M11.out)
              have K12 : Hid ((w11.setCell ⟨P, 4, none⟩ (.int .i64 y)).heap[w.heap.size]? = some (.cells #[.int .i64 0, .int .i64 0, .int .i64 0, .int .i64 0, .int .i64 0] 31 (0, 0))) := Lib.hid (by simp only [World.setCell, Array.getElem?_modify]; rw [if_neg (by show ¬ P = w.heap.size; omega)]; exact K11.out)
              have G12 := Lib.hid (grown_past G11.out (grown_setCell w11 P 4 (.int .i64 y)) (by omega))
              have C12 := Lib.hid (C11.out.grown (grown_setCell w11 P 4 (.int .i64 y)) (fun j hj => by cases hj; omega))
              have hz12 : (w11.setCell ⟨P, 4, none⟩ (.int .i64 y)).heap.size = w11.heap.size := Go.Deep.nblk_setCell _ _ _
              have HZ12 := Lib.hid hz12
              clear hz12
              go_upto_region 25 with fail
              generalize hw12 : w11.setCell ⟨P, 4, none⟩ (.int .i64 y) = w12 at *
              clear hw12 m0 m1 K11 M11 C11 G11
              have hz12 := Nat.le_of_eq HZ12.out.symm
              have kk := K12.out
              have mm := M12.out
              have a0 := cell_of_row w12 P 0 _ _ _ mm
              have a1 := cell_of_row w12 P 1 _ _ _ mm
              have a2 := cell_of_row w12 P 2 _ _ _ mm
              have a3 := cell_of_row w12 P 3 _ _ _ mm
              have a4 := cell_of_row w12 P 4 _ _ _ mm
              have c0 := cell_of_row w12 w.heap.size 0 _ _ _ kk
              have c1 := cell_of_row w12 w.heap.size 1 _ _ _ kk
              have c2 := cell_of_row w12 w.heap.size 2 _ _ _ kk
              have c3 := cell_of_row w12 w.heap.size 3 _ _ _ kk
              have c4 := cell_of_row w12 w.heap.size 4 _ _ _ kk
              have d0 := frozen_of_row w12 w.heap.size 0 _ _ kk
              have d1 := frozen_of_row w12 w.heap.size 1 _ _ kk
              have d2 := frozen_of_row w12 w.heap.size 2 _ _ kk
              have d3 := frozen_of_row w12 w.heap.size 3 _ _ kk
              have d4 := frozen_of_row w12 w.heap.size 4 _ _ kk
              have s0 := blk_setD (i := 0) (v := .int .i64 id) kk
              have z0 := cell_of_row _ w.heap.size 0 _ _ _ s0
              have s1 := blk_setD (i := 1) (v := .int .i64 (kd : Int)) s0
              have z1 := cell_of_row _ w.heap.size 1 _ _ _ s1
              have s2 := blk_setD (i := 2) (v := .int .i64 dy) s1
              have z2 := cell_of_row _ w.heap.size 2 _ _ _ s2
              have s3 := blk_setD (i := 3) (v := .int .i64 u) s2
              have z3 := cell_of_row _ w.heap.size 3 _ _ _ s3
              have s4 := blk_setD (i := 4) (v := .int .i64 y) s3
              have z4 := cell_of_row _ w.heap.size 4 _ _ _ s4
              simp at a0 a1 a2 a3 a4 c0 c1 c2 c3 c4 z0 z1 z2 z3 z4
              have Z0 := Lib.hid z0
              have Z1 := Lib.hid z1
              have Z2 := Lib.hid z2
              have Z3 := Lib.hid z3
              have Z4 := Lib.hid z4
              clear kk mm s0 s1 s2 s3 s4 z0 z1 z2 z3 z4
              have GG := Lib.hid (grown_trans (grown_trans (grown_trans (grown_trans (grown_setCell w12 w.heap.size 0 (.int .i64 id)) (grown_setCell _ w.heap.size 1 (.int .i64 (kd : Int)))) (grown_setCell _ w.heap.size 2 (.int .i64 dy))) (grown_setCell _ w.heap.size 3 (.int .i64 u))) (grown_setCell _ w.heap.size 4 (.int .i64 y)))
              go_wp2
              refine bodyPost_ret (v := .agg #[.int .i64 id, .int .i64 (kd : Int), .int .i64 dy, .int .i64 u, .int .i64 y]) (by simp [results, Tryd.results72, go_sem, Z0.out, Z1.out, Z2.out, Z3.out, Z4.out]) rfl ⟨⟨id, (kd : Int), dy, u, y⟩, rfl, (C12.out.grown GG.out (fun j hj => by cases hj; exact hb)).mono (by omega), grown_past G12.out GG.out (Nat.le_refl _)⟩
            · have t4 : ((r : Int) == 4) = false := by rw [beq_eq_false_iff_ne]; omega
              have kk := K10.out
              have mm := M10.out
              have a0 := cell_of_row w10 P 0 _ _ _ mm
              have a1 := cell_of_row w10 P 1 _ _ _ mm
              have a2 := cell_of_row w10 P 2 _ _ _ mm
              have a3 := cell_of_row w10 P 3 _ _ _ mm
              have a4 := cell_of_row w10 P 4 _ _ _ mm
              have c0 := cell_of_row w10 w.heap.size 0 _ _ _ kk
              have c1 := cell_of_row w10 w.heap.size 1 _ _ _ kk
              have c2 := cell_of_row w10 w.heap.size 2 _ _ _ kk
              have c3 := cell_of_row w10 w.heap.size 3 _ _ _ kk
              have c4 := cell_of_row w10 w.heap.size 4 _ _ _ kk
              have d0 := frozen_of_row w10 w.heap.size 0 _ _ kk
              have d1 := frozen_of_row w10 w.heap.size 1 _ _ kk
              have d2 := frozen_of_row w10 w.heap.size 2 _ _ kk
              have d3 := frozen_of_row w10 w.heap.size 3 _ _ kk
              have d4 := frozen_of_row w10 w.heap.size 4 _ _ kk
              have s0 := blk_setD (i := 0) (v := .int .i64 id) kk
              have z0 := cell_of_row _ w.heap.size 0 _ _ _ s0
              have s1 := blk_setD (i := 1) (v := .int .i64 (kd : Int)) s0
              have z1 := cell_of_row _ w.heap.size 1 _ _ _ s1
              have s2 := blk_setD (i := 2) (v := .int .i64 dy) s1
              have z2 := cell_of_row _ w.heap.size 2 _ _ _ s2
              have s3 := blk_setD (i := 3) (v := .int .i64 u) s2
              have z3 := cell_of_row _ w.heap.size 3 _ _ _ s3
              have s4 := blk_setD (i := 4) (v := .int .i64 v) s3
              have z4 := cell_of_row _ w.heap.size 4 _ _ _ s4
              simp at a0 a1 a2 a3 a4 c0 c1 c2 c3 c4 z0 z1 z2 z3 z4
              have Z0 := Lib.hid z0
              have Z1 := Lib.hid z1
              have Z2 := Lib.hid z2
              have Z3 := Lib.hid z3
              have Z4 := Lib.hid z4
              clear kk mm s0 s1 s2 s3 s4 z0 z1 z2 z3 z4
              have GG := Lib.hid (grown_trans (grown_trans (grown_trans (grown_trans (grown_setCell w10 w.heap.size 0 (.int .i64 id)) (grown_setCell _ w.heap.size 1 (.int .i64 (kd : Int)))) (grown_setCell _ w.heap.size 2 (.int .i64 dy))) (grown_setCell _ w.heap.size 3 (.int .i64 u))) (grown_setCell _ w.heap.size 4 (.int .i64 v)))
              go_wp2
              refine bodyPost_ret (v := .agg #[.int .i64 id, .int .i64 (kd : Int), .int .i64 dy, .int .i64 u, .int .i64 v]) (by simp [results, Tryd.results72, go_sem, Z0.out, Z1.out, Z2.out, Z3.out, Z4.out]) rfl ⟨⟨id, (kd : Int), dy, u, v⟩, rfl, (C10.out.grown GG.out (fun j hj => by cases hj; exact hb)).mono (by omega), grown_past G10.out GG.out (Nat.le_refl _)⟩
end Go.Proofs.YtpknodbkjjcdjaaDoor
