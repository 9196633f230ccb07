/- The drawn event. Condition: sizes. -/
import Derived.Test.YtinlcbljpclccaaDrawBase
import Derived.Test.YtinlcbljpclccaaBoC
import Derived.Test.YtinlcbljpclccaaBlk2
import Derived.Deep.DeepCutAuto
namespace Go.Proofs.Ytinlcbljpclccaa
open Go.RowKit
set_option linter.unusedVariables false
theorem list_cellsB (w : World) (t : TypeId) (l : List ByteArray) (cs : Array Value) (hcs : cs = (l.map Value.string).toArray) (g : Nat) (hg : g = w.heap.size) :
    ∀ (i : Nat) (h : i < l.length), (w.alloc (.cells cs t)).cell? ⟨g, i, none⟩ = some (.string l[i]) := by subst hg; exact list_cells w t l cs hcs
def bevK10 : List ByteArray := [⟨#[99, 111, 109, 101]⟩, ⟨#[111, 112, 101, 110]⟩, ⟨#[111, 112, 101, 110]⟩, ⟨#[115, 104, 117, 116]⟩, ⟨#[101, 110, 116, 101, 114]⟩, ⟨#[101, 110, 116, 101, 114]⟩, ⟨#[108, 101, 97, 118, 101]⟩, ⟨#[97, 114, 114, 105, 118, 101]⟩, ⟨#[108, 101, 118, 101, 108]⟩, ⟨#[103, 111]⟩]
def bevK3 : List ByteArray := [⟨#[]⟩, ⟨#[115, 116, 111, 112]⟩, ⟨#[71, 111]⟩]
theorem bevK10_size : ∀ s ∈ bevK10, s.size ≤ 10 := by decide
theorem bevK3_size : ∀ s ∈ bevK3, s.size ≤ 10 := by decide
/-- What drawing an event leaves. -/
def BePost (B b k : Nat) (w : World) (e : Ending) (w' : World) : Prop := ∃ x : Bev, x.k.size ≤ 10 ∧ (-1 ≤ x.c ∧ x.c ≤ 101) ∧ e = .returned x.agg ∧ Cur B b (k + 12) w' ∧ w.grownBy w' (some b)
set_option maxRecDepth 100000 in
set_option maxHeartbeats 8000000 in
theorem boardEvent_any (B b k : Nat) (w : World) (h : Cur B b k w) (hk : k ≤ 800000000) :
    Calls Try.prog 54 #[.pointer (some ⟨b, 0, none⟩)] w (BePost B b k w) := by
  have HH := Lib.hid h
  have hb := h.2.1
  clear h
  go_enter Try.func54, Try.ntmps54
  go_wp2_with fail
  refine (of_any B b k (w.heap.size + 1) 10 10 bevK10 _ ((HH.out.alloc _).alloc _) (by omega) rfl (by omega) (by omega) (by omega) (list_cellsB _ 9 bevK10 _ rfl _ (aszD _ _))).mono ?_
  rintro e w1 ⟨s, hx1, rfl, hc, hg⟩
  have K1 := Lib.hid ((hg.block w.heap.size (by simp; omega) (fun e => by have := Option.some.inj e; omega)).trans (old_allocD (o' := .cells #[.string ⟨#[99, 111, 109, 101]⟩, .string ⟨#[111, 112, 101, 110]⟩, .string ⟨#[111, 112, 101, 110]⟩, .string ⟨#[115, 104, 117, 116]⟩, .string ⟨#[101, 110, 116, 101, 114]⟩, .string ⟨#[101, 110, 116, 101, 114]⟩, .string ⟨#[108, 101, 97, 118, 101]⟩, .string ⟨#[97, 114, 114, 105, 118, 101]⟩, .string ⟨#[108, 101, 118, 101, 108]⟩, .string ⟨#[103, 111]⟩] 9) (heap_alloc_new w (.cells #[.string ⟨#[]⟩, .int .i64 0] 35))))
  have G1 := Lib.hid (grown_trans (grown_trans (World.grownBy_alloc w (.cells #[.string ⟨#[]⟩, .int .i64 0] 35) (some b)) (World.grownBy_alloc _ (.cells #[.string ⟨#[99, 111, 109, 101]⟩, .string ⟨#[111, 112, 101, 110]⟩, .string ⟨#[111, 112, 101, 110]⟩, .string ⟨#[115, 104, 117, 116]⟩, .string ⟨#[101, 110, 116, 101, 114]⟩, .string ⟨#[101, 110, 116, 101, 114]⟩, .string ⟨#[108, 101, 97, 118, 101]⟩, .string ⟨#[97, 114, 114, 105, 118, 101]⟩, .string ⟨#[108, 101, 118, 101, 108]⟩, .string ⟨#[103, 111]⟩] 9) (some b))) hg)
  have BD_s := Lib.hid (bevK10_size _ hx1)
  have C1 := Lib.hid hc
  have hz1 := hg.size
  simp at hz1
  clear hc hg hx1
  have M2 := Lib.hid (heap_alloc_new w1 (.cells #[.string s, .int .i64 0] 35))
  have K2 := Lib.hid (old_allocD (o' := .cells #[.string s, .int .i64 0] 35) K1.out)
  have G2 := Lib.hid (grown_trans G1.out (World.grownBy_alloc w1 (.cells #[.string s, .int .i64 0] 35) (some b)))
  have C2 := Lib.hid (C1.out.alloc (.cells #[.string s, .int .i64 0] 35))
  have hz2 : (w1.alloc (.cells #[.string s, .int .i64 0] 35)).heap.size = w1.heap.size + 1 := by simp
  go_upto_region 2 with fail
  generalize hw2 : w1.alloc (.cells #[.string s, .int .i64 0] 35) = w2 at *
  clear hw2 K1 C1 G1
  obtain ⟨P, hP⟩ : ∃ P, P = w1.heap.size := ⟨_, rfl⟩
  rw [← hP] at M2 hz2 ⊢
  have hPw : w.heap.size < P := by omega
  have hPb : b < P := by omega
  have hP2 : P < w2.heap.size := by omega
  clear hP hz1 hz2
  have E0 := Lib.hid (fun W => l14Most_c s W)
  generalize mostK s = mk at *
  obtain ⟨y0, y1⟩ := blk_cell2 M2.out
  go_wp2_with fail
  refine (E0.out _).mono ?_
  rintro e wx ⟨rfl, hwx⟩
  rw [hwx]
  clear hwx E0 y1
  by_cases hm : 0 < mk
  · clear y0
    go_wp2_with fail
    refine (among_any B b (k + 2) w2.heap.size 6 6 [1, 1, 2, 4, 8, 16] _ (C2.out.alloc _) (by omega) rfl (by omega) (by omega) (by omega) (num_cells w2 3 [1, 1, 2, 4, 8, 16] _ rfl)).mono ?_
    rintro e w3 ⟨y1, hx3, rfl, hc, hg⟩
    have K3 := Lib.hid ((hg.block w.heap.size (by simp; omega) (fun e => by have := Option.some.inj e; omega)).trans (old_allocD (o' := .cells #[.int .i64 1, .int .i64 1, .int .i64 2, .int .i64 4, .int .i64 8, .int .i64 16] 3) K2.out))
    have M3 := Lib.hid ((hg.block P (by simp; omega) (fun e => by have := Option.some.inj e; omega)).trans (old_allocD (o' := .cells #[.int .i64 1, .int .i64 1, .int .i64 2, .int .i64 4, .int .i64 8, .int .i64 16] 3) M2.out))
    have G3 := Lib.hid (grown_trans (grown_trans G2.out (World.grownBy_alloc _ (.cells #[.int .i64 1, .int .i64 1, .int .i64 2, .int .i64 4, .int .i64 8, .int .i64 16] 3) (some b))) hg)
    have BD_y1 : Hid (-1 ≤ y1 ∧ y1 ≤ 101) := Lib.hid (by simp at hx3; omega)
    have C3 := Lib.hid hc
    have hz3 := hg.size
    simp at hz3
    clear hc hg hx3
    clear K2 M2 C2 G2
    have mm := M3.out
    have m0 := cell_of_row w3 P 1 _ _ _ mm
    have m1 := frozen_of_row w3 P 1 _ _ mm
    clear mm
    have M4 := Lib.hid (blk_setD (i := 1) (v := .int .i64 y1) M3.out)
    have K4 : Hid ((w3.setCell ⟨P, 1, none⟩ (.int .i64 y1)).heap[w.heap.size]? = some (.cells #[.string ⟨#[]⟩, .int .i64 0] 35 (0, 0))) := Lib.hid (by simp only [World.setCell, Array.getElem?_modify]; rw [if_neg (by show ¬ P = w.heap.size; omega)]; exact K3.out)
    have G4 := Lib.hid (grown_past G3.out (grown_setCell w3 P 1 (.int .i64 y1)) (by omega))
    have C4 := Lib.hid (C3.out.grown (grown_setCell w3 P 1 (.int .i64 y1)) (fun j hj => by cases hj; omega))
    have hz4 : w3.heap.size ≤ (w3.setCell ⟨P, 1, none⟩ (.int .i64 y1)).heap.size := by simp [World.setCell]
    go_upto_region 4 with fail
    generalize hw4 : w3.setCell ⟨P, 1, none⟩ (.int .i64 y1) = w4 at *
    clear hw4 m0 m1 K3 M3 C3 G3
    obtain ⟨x0, x1⟩ := blk_cell2 M4.out
    by_cases ha : s = kArrive
    · have z5 : (s.toList == [97, 114, 114, 105, 118, 101]) = true := by have := str_eq ha; rw [show kArrive.toList = [97, 114, 114, 105, 118, 101] from ByteArray.toList_mk _] at this; exact this
      clear ha x1
      go_wp2_with fail
      refine (among_any B b (k + 2 + 2) w4.heap.size 3 3 [1, 5, 100] _ (C4.out.alloc _) (by omega) rfl (by omega) (by omega) (by omega) (num_cells w4 3 [1, 5, 100] _ rfl)).mono ?_
      rintro e w5 ⟨y2, hx5, rfl, hc, hg⟩
      have K5 := Lib.hid ((hg.block w.heap.size (by simp; omega) (fun e => by have := Option.some.inj e; omega)).trans (old_allocD (o' := .cells #[.int .i64 1, .int .i64 5, .int .i64 100] 3) K4.out))
      have M5 := Lib.hid ((hg.block P (by simp; omega) (fun e => by have := Option.some.inj e; omega)).trans (old_allocD (o' := .cells #[.int .i64 1, .int .i64 5, .int .i64 100] 3) M4.out))
      have G5 := Lib.hid (grown_trans (grown_trans G4.out (World.grownBy_alloc _ (.cells #[.int .i64 1, .int .i64 5, .int .i64 100] 3) (some b))) hg)
      have BD_y2 : Hid (-1 ≤ y2 ∧ y2 ≤ 101) := Lib.hid (by simp at hx5; omega)
      have C5 := Lib.hid hc
      have hz5 := hg.size
      simp at hz5
      clear hc hg hx5
      clear K4 M4 C4 G4
      clear x0
      have mm := M5.out
      have m0 := cell_of_row w5 P 1 _ _ _ mm
      have m1 := frozen_of_row w5 P 1 _ _ mm
      clear mm
      have M6 := Lib.hid (blk_setD (i := 1) (v := .int .i64 y2) M5.out)
      have K6 : Hid ((w5.setCell ⟨P, 1, none⟩ (.int .i64 y2)).heap[w.heap.size]? = some (.cells #[.string ⟨#[]⟩, .int .i64 0] 35 (0, 0))) := Lib.hid (by simp only [World.setCell, Array.getElem?_modify]; rw [if_neg (by show ¬ P = w.heap.size; omega)]; exact K5.out)
      have G6 := Lib.hid (grown_past G5.out (grown_setCell w5 P 1 (.int .i64 y2)) (by omega))
      have C6 := Lib.hid (C5.out.grown (grown_setCell w5 P 1 (.int .i64 y2)) (fun j hj => by cases hj; omega))
      have hz6 : w5.heap.size ≤ (w5.setCell ⟨P, 1, none⟩ (.int .i64 y2)).heap.size := by simp [World.setCell]
      go_upto_region 6 with fail
      generalize hw6 : w5.setCell ⟨P, 1, none⟩ (.int .i64 y2) = w6 at *
      clear hw6 m0 m1 K5 M5 C5 G5
      go_wp2_with fail
      refine (pick_any B b (k + 2 + 2 + 2) (40) w6 C6.out (by omega) (by omega) (by omega)).mono ?_
      rintro e w7 ⟨r, rfl, hr7, hc, hg⟩
      have K7 := Lib.hid ((hg.block w.heap.size (by omega) (fun e => by have := Option.some.inj e; omega)).trans K6.out)
      have M7 := Lib.hid ((hg.block P (by omega) (fun e => by have := Option.some.inj e; omega)).trans M6.out)
      have G7 := Lib.hid (grown_trans G6.out hg)
      have C7 := Lib.hid hc
      have hz7 := hg.size
      clear hc hg
      clear K6 M6 C6 G6
      by_cases e0 : r = 0
      · have t0 : ((r : Int) == 0) = true := by rw [beq_iff_eq]; omega
        clear e0
        go_wp2_with fail
        refine (of_any B b (k + 2 + 2 + 2 + 2) w7.heap.size 3 3 bevK3 _ (C7.out.alloc _) (by omega) rfl (by omega) (by omega) (by omega) (list_cells w7 9 bevK3 _ rfl)).mono ?_
        rintro e w8 ⟨s2, hx8, rfl, hc, hg⟩
        have K8 := Lib.hid ((hg.block w.heap.size (by simp; omega) (fun e => by have := Option.some.inj e; omega)).trans (old_allocD (o' := .cells #[.string ⟨#[]⟩, .string ⟨#[115, 116, 111, 112]⟩, .string ⟨#[71, 111]⟩] 9) K7.out))
        have M8 := Lib.hid ((hg.block P (by simp; omega) (fun e => by have := Option.some.inj e; omega)).trans (old_allocD (o' := .cells #[.string ⟨#[]⟩, .string ⟨#[115, 116, 111, 112]⟩, .string ⟨#[71, 111]⟩] 9) M7.out))
        have G8 := Lib.hid (grown_trans (grown_trans G7.out (World.grownBy_alloc _ (.cells #[.string ⟨#[]⟩, .string ⟨#[115, 116, 111, 112]⟩, .string ⟨#[71, 111]⟩] 9) (some b))) hg)
        have BD_s2 := Lib.hid (bevK3_size _ hx8)
        have C8 := Lib.hid hc
        have hz8 := hg.size
        simp at hz8
        clear hc hg hx8
        clear K7 M7 C7 G7
        have mm := M8.out
        have m0 := cell_of_row w8 P 0 _ _ _ mm
        have m1 := frozen_of_row w8 P 0 _ _ mm
        clear mm
        have M9 := Lib.hid (blk_setD (i := 0) (v := .string s2) M8.out)
        have K9 : Hid ((w8.setCell ⟨P, 0, none⟩ (.string s2)).heap[w.heap.size]? = some (.cells #[.string ⟨#[]⟩, .int .i64 0] 35 (0, 0))) := Lib.hid (by simp only [World.setCell, Array.getElem?_modify]; rw [if_neg (by show ¬ P = w.heap.size; omega)]; exact K8.out)
        have G9 := Lib.hid (grown_past G8.out (grown_setCell w8 P 0 (.string s2)) (by omega))
        have C9 := Lib.hid (C8.out.grown (grown_setCell w8 P 0 (.string s2)) (fun j hj => by cases hj; omega))
        have hz9 : w8.heap.size ≤ (w8.setCell ⟨P, 0, none⟩ (.string s2)).heap.size := by simp [World.setCell]
        go_upto_region 11 with fail
        generalize hw9 : w8.setCell ⟨P, 0, none⟩ (.string s2) = w9 at *
        clear hw9 m0 m1 K8 M8 C8 G8
        have kk := K9.out
        have mm := M9.out
        have a0 := cell_of_row w9 P 0 _ _ _ mm
        have c0 := cell_of_row w9 w.heap.size 0 _ _ _ kk
        have d0 := frozen_of_row w9 w.heap.size 0 _ _ kk
        have a1 := cell_of_row w9 P 1 _ _ _ mm
        have c1 := cell_of_row w9 w.heap.size 1 _ _ _ kk
        have d1 := frozen_of_row w9 w.heap.size 1 _ _ kk
        have s0 := blk_setD (i := 0) (v := .string s2) kk
        have z0 := cell_of_row _ w.heap.size 0 _ _ _ s0
        have s1 := blk_setD (i := 1) (v := .int .i64 y2) s0
        have z1 := cell_of_row _ w.heap.size 1 _ _ _ s1
        simp at a0 c0 z0 a1 c1 z1
        have Z0 := Lib.hid z0
        have Z1 := Lib.hid z1
        clear kk mm s0 z0 s1 z1
        have GG := Lib.hid (grown_trans (grown_setCell w9 w.heap.size 0 (.string s2)) (grown_setCell _ w.heap.size 1 (.int .i64 y2)))
        go_wp2
        refine bodyPost_ret (v := .agg #[.string s2, .int .i64 y2]) (by simp [results, Try.results54, go_sem, Z0.out, Z1.out]) rfl ⟨⟨s2, y2⟩, BD_s2.out, BD_y2.out, rfl, (C9.out.grown GG.out (fun j hj => by cases hj; exact hb)).mono (by omega), grown_past G9.out GG.out (Nat.le_refl _)⟩
      · have t0 : ((r : Int) == 0) = false := by rw [beq_eq_false_iff_ne]; omega
        by_cases e1 : r = 1
        · have t1 : ((r : Int) == 1) = true := by rw [beq_iff_eq]; omega
          clear e1
          go_wp2_with fail
          refine (among_any B b (k + 2 + 2 + 2 + 2) w7.heap.size 5 5 [-1, 0, 1, 17, 101] _ (C7.out.alloc _) (by omega) rfl (by omega) (by omega) (by omega) (num_cells w7 3 [-1, 0, 1, 17, 101] _ rfl)).mono ?_
          rintro e w8 ⟨y3, hx8, rfl, hc, hg⟩
          have K8 := Lib.hid ((hg.block w.heap.size (by simp; omega) (fun e => by have := Option.some.inj e; omega)).trans (old_allocD (o' := .cells #[.int .i64 (-1), .int .i64 0, .int .i64 1, .int .i64 17, .int .i64 101] 3) K7.out))
          have M8 := Lib.hid ((hg.block P (by simp; omega) (fun e => by have := Option.some.inj e; omega)).trans (old_allocD (o' := .cells #[.int .i64 (-1), .int .i64 0, .int .i64 1, .int .i64 17, .int .i64 101] 3) M7.out))
          have G8 := Lib.hid (grown_trans (grown_trans G7.out (World.grownBy_alloc _ (.cells #[.int .i64 (-1), .int .i64 0, .int .i64 1, .int .i64 17, .int .i64 101] 3) (some b))) hg)
          have BD_y3 : Hid (-1 ≤ y3 ∧ y3 ≤ 101) := Lib.hid (by simp at hx8; omega)
          have C8 := Lib.hid hc
          have hz8 := hg.size
          simp at hz8
          clear hc hg hx8
          clear K7 M7 C7 G7
          have mm := M8.out
          have m0 := cell_of_row w8 P 1 _ _ _ mm
          have m1 := frozen_of_row w8 P 1 _ _ mm
          clear mm
          have M9 := Lib.hid (blk_setD (i := 1) (v := .int .i64 y3) M8.out)
          have K9 : Hid ((w8.setCell ⟨P, 1, none⟩ (.int .i64 y3)).heap[w.heap.size]? = some (.cells #[.string ⟨#[]⟩, .int .i64 0] 35 (0, 0))) := Lib.hid (by simp only [World.setCell, Array.getElem?_modify]; rw [if_neg (by show ¬ P = w.heap.size; omega)]; exact K8.out)
          have G9 := Lib.hid (grown_past G8.out (grown_setCell w8 P 1 (.int .i64 y3)) (by omega))
          have C9 := Lib.hid (C8.out.grown (grown_setCell w8 P 1 (.int .i64 y3)) (fun j hj => by cases hj; omega))
          have hz9 : w8.heap.size ≤ (w8.setCell ⟨P, 1, none⟩ (.int .i64 y3)).heap.size := by simp [World.setCell]
          go_upto_region 11 with fail
          generalize hw9 : w8.setCell ⟨P, 1, none⟩ (.int .i64 y3) = w9 at *
          clear hw9 m0 m1 K8 M8 C8 G8
          have kk := K9.out
          have mm := M9.out
          have a0 := cell_of_row w9 P 0 _ _ _ mm
          have c0 := cell_of_row w9 w.heap.size 0 _ _ _ kk
          have d0 := frozen_of_row w9 w.heap.size 0 _ _ kk
          have a1 := cell_of_row w9 P 1 _ _ _ mm
          have c1 := cell_of_row w9 w.heap.size 1 _ _ _ kk
          have d1 := frozen_of_row w9 w.heap.size 1 _ _ kk
          have s0 := blk_setD (i := 0) (v := .string s) kk
          have z0 := cell_of_row _ w.heap.size 0 _ _ _ s0
          have s1 := blk_setD (i := 1) (v := .int .i64 y3) s0
          have z1 := cell_of_row _ w.heap.size 1 _ _ _ s1
          simp at a0 c0 z0 a1 c1 z1
          have Z0 := Lib.hid z0
          have Z1 := Lib.hid z1
          clear kk mm s0 z0 s1 z1
          have GG := Lib.hid (grown_trans (grown_setCell w9 w.heap.size 0 (.string s)) (grown_setCell _ w.heap.size 1 (.int .i64 y3)))
          go_wp2
          refine bodyPost_ret (v := .agg #[.string s, .int .i64 y3]) (by simp [results, Try.results54, go_sem, Z0.out, Z1.out]) rfl ⟨⟨s, y3⟩, BD_s.out, BD_y3.out, rfl, (C9.out.grown GG.out (fun j hj => by cases hj; exact hb)).mono (by omega), grown_past G9.out GG.out (Nat.le_refl _)⟩
        · have t1 : ((r : Int) == 1) = false := by rw [beq_eq_false_iff_ne]; omega
          have kk := K7.out
          have mm := M7.out
          have a0 := cell_of_row w7 P 0 _ _ _ mm
          have c0 := cell_of_row w7 w.heap.size 0 _ _ _ kk
          have d0 := frozen_of_row w7 w.heap.size 0 _ _ kk
          have a1 := cell_of_row w7 P 1 _ _ _ mm
          have c1 := cell_of_row w7 w.heap.size 1 _ _ _ kk
          have d1 := frozen_of_row w7 w.heap.size 1 _ _ kk
          have s0 := blk_setD (i := 0) (v := .string s) kk
          have z0 := cell_of_row _ w.heap.size 0 _ _ _ s0
          have s1 := blk_setD (i := 1) (v := .int .i64 y2) s0
          have z1 := cell_of_row _ w.heap.size 1 _ _ _ s1
          simp at a0 c0 z0 a1 c1 z1
          have Z0 := Lib.hid z0
          have Z1 := Lib.hid z1
          clear kk mm s0 z0 s1 z1
          have GG := Lib.hid (grown_trans (grown_setCell w7 w.heap.size 0 (.string s)) (grown_setCell _ w.heap.size 1 (.int .i64 y2)))
          go_wp2
          refine bodyPost_ret (v := .agg #[.string s, .int .i64 y2]) (by simp [results, Try.results54, go_sem, Z0.out, Z1.out]) rfl ⟨⟨s, y2⟩, BD_s.out, BD_y2.out, rfl, (C7.out.grown GG.out (fun j hj => by cases hj; exact hb)).mono (by omega), grown_past G7.out GG.out (Nat.le_refl _)⟩
    · have z5 := ks_ne (l := [97, 114, 114, 105, 118, 101]) ha
      clear ha x1
      go_wp2_with fail
      refine (pick_any B b (k + 2 + 2) (40) w4 C4.out (by omega) (by omega) (by omega)).mono ?_
      rintro e w5 ⟨r, rfl, hr5, hc, hg⟩
      have K5 := Lib.hid ((hg.block w.heap.size (by omega) (fun e => by have := Option.some.inj e; omega)).trans K4.out)
      have M5 := Lib.hid ((hg.block P (by omega) (fun e => by have := Option.some.inj e; omega)).trans M4.out)
      have G5 := Lib.hid (grown_trans G4.out hg)
      have C5 := Lib.hid hc
      have hz5 := hg.size
      clear hc hg
      clear K4 M4 C4 G4
      by_cases e0 : r = 0
      · have t0 : ((r : Int) == 0) = true := by rw [beq_iff_eq]; omega
        clear e0
        go_wp2_with fail
        refine (of_any B b (k + 2 + 2 + 2) w5.heap.size 3 3 bevK3 _ (C5.out.alloc _) (by omega) rfl (by omega) (by omega) (by omega) (list_cells w5 9 bevK3 _ rfl)).mono ?_
        rintro e w6 ⟨s2, hx6, rfl, hc, hg⟩
        have K6 := Lib.hid ((hg.block w.heap.size (by simp; omega) (fun e => by have := Option.some.inj e; omega)).trans (old_allocD (o' := .cells #[.string ⟨#[]⟩, .string ⟨#[115, 116, 111, 112]⟩, .string ⟨#[71, 111]⟩] 9) K5.out))
        have M6 := Lib.hid ((hg.block P (by simp; omega) (fun e => by have := Option.some.inj e; omega)).trans (old_allocD (o' := .cells #[.string ⟨#[]⟩, .string ⟨#[115, 116, 111, 112]⟩, .string ⟨#[71, 111]⟩] 9) M5.out))
        have G6 := Lib.hid (grown_trans (grown_trans G5.out (World.grownBy_alloc _ (.cells #[.string ⟨#[]⟩, .string ⟨#[115, 116, 111, 112]⟩, .string ⟨#[71, 111]⟩] 9) (some b))) hg)
        have BD_s2 := Lib.hid (bevK3_size _ hx6)
        have C6 := Lib.hid hc
        have hz6 := hg.size
        simp at hz6
        clear hc hg hx6
        clear K5 M5 C5 G5
        have mm := M6.out
        have m0 := cell_of_row w6 P 0 _ _ _ mm
        have m1 := frozen_of_row w6 P 0 _ _ mm
        clear mm
        have M7 := Lib.hid (blk_setD (i := 0) (v := .string s2) M6.out)
        have K7 : Hid ((w6.setCell ⟨P, 0, none⟩ (.string s2)).heap[w.heap.size]? = some (.cells #[.string ⟨#[]⟩, .int .i64 0] 35 (0, 0))) := Lib.hid (by simp only [World.setCell, Array.getElem?_modify]; rw [if_neg (by show ¬ P = w.heap.size; omega)]; exact K6.out)
        have G7 := Lib.hid (grown_past G6.out (grown_setCell w6 P 0 (.string s2)) (by omega))
        have C7 := Lib.hid (C6.out.grown (grown_setCell w6 P 0 (.string s2)) (fun j hj => by cases hj; omega))
        have hz7 : w6.heap.size ≤ (w6.setCell ⟨P, 0, none⟩ (.string s2)).heap.size := by simp [World.setCell]
        go_upto_region 11 with fail
        generalize hw7 : w6.setCell ⟨P, 0, none⟩ (.string s2) = w7 at *
        clear hw7 m0 m1 K6 M6 C6 G6
        have kk := K7.out
        have mm := M7.out
        have a0 := cell_of_row w7 P 0 _ _ _ mm
        have c0 := cell_of_row w7 w.heap.size 0 _ _ _ kk
        have d0 := frozen_of_row w7 w.heap.size 0 _ _ kk
        have a1 := cell_of_row w7 P 1 _ _ _ mm
        have c1 := cell_of_row w7 w.heap.size 1 _ _ _ kk
        have d1 := frozen_of_row w7 w.heap.size 1 _ _ kk
        have s0 := blk_setD (i := 0) (v := .string s2) kk
        have z0 := cell_of_row _ w.heap.size 0 _ _ _ s0
        have s1 := blk_setD (i := 1) (v := .int .i64 y1) s0
        have z1 := cell_of_row _ w.heap.size 1 _ _ _ s1
        simp at a0 c0 z0 a1 c1 z1
        have Z0 := Lib.hid z0
        have Z1 := Lib.hid z1
        clear kk mm s0 z0 s1 z1
        have GG := Lib.hid (grown_trans (grown_setCell w7 w.heap.size 0 (.string s2)) (grown_setCell _ w.heap.size 1 (.int .i64 y1)))
        go_wp2
        refine bodyPost_ret (v := .agg #[.string s2, .int .i64 y1]) (by simp [results, Try.results54, go_sem, Z0.out, Z1.out]) rfl ⟨⟨s2, y1⟩, BD_s2.out, BD_y1.out, rfl, (C7.out.grown GG.out (fun j hj => by cases hj; exact hb)).mono (by omega), grown_past G7.out GG.out (Nat.le_refl _)⟩
      · have t0 : ((r : Int) == 0) = false := by rw [beq_eq_false_iff_ne]; omega
        by_cases e1 : r = 1
        · have t1 : ((r : Int) == 1) = true := by rw [beq_iff_eq]; omega
          clear e1
          go_wp2_with fail
          refine (among_any B b (k + 2 + 2 + 2) w5.heap.size 5 5 [-1, 0, 1, 17, 101] _ (C5.out.alloc _) (by omega) rfl (by omega) (by omega) (by omega) (num_cells w5 3 [-1, 0, 1, 17, 101] _ rfl)).mono ?_
          rintro e w6 ⟨y3, hx6, rfl, hc, hg⟩
          have K6 := Lib.hid ((hg.block w.heap.size (by simp; omega) (fun e => by have := Option.some.inj e; omega)).trans (old_allocD (o' := .cells #[.int .i64 (-1), .int .i64 0, .int .i64 1, .int .i64 17, .int .i64 101] 3) K5.out))
          have M6 := Lib.hid ((hg.block P (by simp; omega) (fun e => by have := Option.some.inj e; omega)).trans (old_allocD (o' := .cells #[.int .i64 (-1), .int .i64 0, .int .i64 1, .int .i64 17, .int .i64 101] 3) M5.out))
          have G6 := Lib.hid (grown_trans (grown_trans G5.out (World.grownBy_alloc _ (.cells #[.int .i64 (-1), .int .i64 0, .int .i64 1, .int .i64 17, .int .i64 101] 3) (some b))) hg)
          have BD_y3 : Hid (-1 ≤ y3 ∧ y3 ≤ 101) := Lib.hid (by simp at hx6; omega)
          have C6 := Lib.hid hc
          have hz6 := hg.size
          simp at hz6
          clear hc hg hx6
          clear K5 M5 C5 G5
          have mm := M6.out
          have m0 := cell_of_row w6 P 1 _ _ _ mm
          have m1 := frozen_of_row w6 P 1 _ _ mm
          clear mm
          have M7 := Lib.hid (blk_setD (i := 1) (v := .int .i64 y3) M6.out)
          have K7 : Hid ((w6.setCell ⟨P, 1, none⟩ (.int .i64 y3)).heap[w.heap.size]? = some (.cells #[.string ⟨#[]⟩, .int .i64 0] 35 (0, 0))) := Lib.hid (by simp only [World.setCell, Array.getElem?_modify]; rw [if_neg (by show ¬ P = w.heap.size; omega)]; exact K6.out)
          have G7 := Lib.hid (grown_past G6.out (grown_setCell w6 P 1 (.int .i64 y3)) (by omega))
          have C7 := Lib.hid (C6.out.grown (grown_setCell w6 P 1 (.int .i64 y3)) (fun j hj => by cases hj; omega))
          have hz7 : w6.heap.size ≤ (w6.setCell ⟨P, 1, none⟩ (.int .i64 y3)).heap.size := by simp [World.setCell]
          go_upto_region 11 with fail
          generalize hw7 : w6.setCell ⟨P, 1, none⟩ (.int .i64 y3) = w7 at *
          clear hw7 m0 m1 K6 M6 C6 G6
          have kk := K7.out
          have mm := M7.out
          have a0 := cell_of_row w7 P 0 _ _ _ mm
          have c0 := cell_of_row w7 w.heap.size 0 _ _ _ kk
          have d0 := frozen_of_row w7 w.heap.size 0 _ _ kk
          have a1 := cell_of_row w7 P 1 _ _ _ mm
          have c1 := cell_of_row w7 w.heap.size 1 _ _ _ kk
          have d1 := frozen_of_row w7 w.heap.size 1 _ _ kk
          have s0 := blk_setD (i := 0) (v := .string s) kk
          have z0 := cell_of_row _ w.heap.size 0 _ _ _ s0
          have s1 := blk_setD (i := 1) (v := .int .i64 y3) s0
          have z1 := cell_of_row _ w.heap.size 1 _ _ _ s1
          simp at a0 c0 z0 a1 c1 z1
          have Z0 := Lib.hid z0
          have Z1 := Lib.hid z1
          clear kk mm s0 z0 s1 z1
          have GG := Lib.hid (grown_trans (grown_setCell w7 w.heap.size 0 (.string s)) (grown_setCell _ w.heap.size 1 (.int .i64 y3)))
          go_wp2
          refine bodyPost_ret (v := .agg #[.string s, .int .i64 y3]) (by simp [results, Try.results54, go_sem, Z0.out, Z1.out]) rfl ⟨⟨s, y3⟩, BD_s.out, BD_y3.out, rfl, (C7.out.grown GG.out (fun j hj => by cases hj; exact hb)).mono (by omega), grown_past G7.out GG.out (Nat.le_refl _)⟩
        · have t1 : ((r : Int) == 1) = false := by rw [beq_eq_false_iff_ne]; omega
          have kk := K5.out
          have mm := M5.out
          have a0 := cell_of_row w5 P 0 _ _ _ mm
          have c0 := cell_of_row w5 w.heap.size 0 _ _ _ kk
          have d0 := frozen_of_row w5 w.heap.size 0 _ _ kk
          have a1 := cell_of_row w5 P 1 _ _ _ mm
          have c1 := cell_of_row w5 w.heap.size 1 _ _ _ kk
          have d1 := frozen_of_row w5 w.heap.size 1 _ _ kk
          have s0 := blk_setD (i := 0) (v := .string s) kk
          have z0 := cell_of_row _ w.heap.size 0 _ _ _ s0
          have s1 := blk_setD (i := 1) (v := .int .i64 y1) s0
          have z1 := cell_of_row _ w.heap.size 1 _ _ _ s1
          simp at a0 c0 z0 a1 c1 z1
          have Z0 := Lib.hid z0
          have Z1 := Lib.hid z1
          clear kk mm s0 z0 s1 z1
          have GG := Lib.hid (grown_trans (grown_setCell w5 w.heap.size 0 (.string s)) (grown_setCell _ w.heap.size 1 (.int .i64 y1)))
          go_wp2
          refine bodyPost_ret (v := .agg #[.string s, .int .i64 y1]) (by simp [results, Try.results54, go_sem, Z0.out, Z1.out]) rfl ⟨⟨s, y1⟩, BD_s.out, BD_y1.out, rfl, (C5.out.grown GG.out (fun j hj => by cases hj; exact hb)).mono (by omega), grown_past G5.out GG.out (Nat.le_refl _)⟩
  · clear y0
    go_wp2_with fail
    refine (pick_any B b (k + 2) (40) w2 C2.out (by omega) (by omega) (by omega)).mono ?_
    rintro e w3 ⟨r, rfl, hr3, hc, hg⟩
    have K3 := Lib.hid ((hg.block w.heap.size (by omega) (fun e => by have := Option.some.inj e; omega)).trans K2.out)
    have M3 := Lib.hid ((hg.block P (by omega) (fun e => by have := Option.some.inj e; omega)).trans M2.out)
    have G3 := Lib.hid (grown_trans G2.out hg)
    have C3 := Lib.hid hc
    have hz3 := hg.size
    clear hc hg
    clear K2 M2 C2 G2
    by_cases e0 : r = 0
    · have t0 : ((r : Int) == 0) = true := by rw [beq_iff_eq]; omega
      clear e0
      go_wp2_with fail
      refine (of_any B b (k + 2 + 2) w3.heap.size 3 3 bevK3 _ (C3.out.alloc _) (by omega) rfl (by omega) (by omega) (by omega) (list_cells w3 9 bevK3 _ rfl)).mono ?_
      rintro e w4 ⟨s2, hx4, rfl, hc, hg⟩
      have K4 := Lib.hid ((hg.block w.heap.size (by simp; omega) (fun e => by have := Option.some.inj e; omega)).trans (old_allocD (o' := .cells #[.string ⟨#[]⟩, .string ⟨#[115, 116, 111, 112]⟩, .string ⟨#[71, 111]⟩] 9) K3.out))
      have M4 := Lib.hid ((hg.block P (by simp; omega) (fun e => by have := Option.some.inj e; omega)).trans (old_allocD (o' := .cells #[.string ⟨#[]⟩, .string ⟨#[115, 116, 111, 112]⟩, .string ⟨#[71, 111]⟩] 9) M3.out))
      have G4 := Lib.hid (grown_trans (grown_trans G3.out (World.grownBy_alloc _ (.cells #[.string ⟨#[]⟩, .string ⟨#[115, 116, 111, 112]⟩, .string ⟨#[71, 111]⟩] 9) (some b))) hg)
      have BD_s2 := Lib.hid (bevK3_size _ hx4)
      have C4 := Lib.hid hc
      have hz4 := hg.size
      simp at hz4
      clear hc hg hx4
      clear K3 M3 C3 G3
      have mm := M4.out
      have m0 := cell_of_row w4 P 0 _ _ _ mm
      have m1 := frozen_of_row w4 P 0 _ _ mm
      clear mm
      have M5 := Lib.hid (blk_setD (i := 0) (v := .string s2) M4.out)
      have K5 : Hid ((w4.setCell ⟨P, 0, none⟩ (.string s2)).heap[w.heap.size]? = some (.cells #[.string ⟨#[]⟩, .int .i64 0] 35 (0, 0))) := Lib.hid (by simp only [World.setCell, Array.getElem?_modify]; rw [if_neg (by show ¬ P = w.heap.size; omega)]; exact K4.out)
      have G5 := Lib.hid (grown_past G4.out (grown_setCell w4 P 0 (.string s2)) (by omega))
      have C5 := Lib.hid (C4.out.grown (grown_setCell w4 P 0 (.string s2)) (fun j hj => by cases hj; omega))
      have hz5 : w4.heap.size ≤ (w4.setCell ⟨P, 0, none⟩ (.string s2)).heap.size := by simp [World.setCell]
      go_upto_region 11 with fail
      generalize hw5 : w4.setCell ⟨P, 0, none⟩ (.string s2) = w5 at *
      clear hw5 m0 m1 K4 M4 C4 G4
      have kk := K5.out
      have mm := M5.out
      have a0 := cell_of_row w5 P 0 _ _ _ mm
      have c0 := cell_of_row w5 w.heap.size 0 _ _ _ kk
      have d0 := frozen_of_row w5 w.heap.size 0 _ _ kk
      have a1 := cell_of_row w5 P 1 _ _ _ mm
      have c1 := cell_of_row w5 w.heap.size 1 _ _ _ kk
      have d1 := frozen_of_row w5 w.heap.size 1 _ _ kk
      have s0 := blk_setD (i := 0) (v := .string s2) kk
      have z0 := cell_of_row _ w.heap.size 0 _ _ _ s0
      have s1 := blk_setD (i := 1) (v := .int .i64 0) s0
      have z1 := cell_of_row _ w.heap.size 1 _ _ _ s1
      simp at a0 c0 z0 a1 c1 z1
      have Z0 := Lib.hid z0
      have Z1 := Lib.hid z1
      clear kk mm s0 z0 s1 z1
      have GG := Lib.hid (grown_trans (grown_setCell w5 w.heap.size 0 (.string s2)) (grown_setCell _ w.heap.size 1 (.int .i64 0)))
      go_wp2
      refine bodyPost_ret (v := .agg #[.string s2, .int .i64 0]) (by simp [results, Try.results54, go_sem, Z0.out, Z1.out]) rfl ⟨⟨s2, 0⟩, BD_s2.out, ⟨by simp, by simp⟩, rfl, (C5.out.grown GG.out (fun j hj => by cases hj; exact hb)).mono (by omega), grown_past G5.out GG.out (Nat.le_refl _)⟩
    · have t0 : ((r : Int) == 0) = false := by rw [beq_eq_false_iff_ne]; omega
      by_cases e1 : r = 1
      · have t1 : ((r : Int) == 1) = true := by rw [beq_iff_eq]; omega
        clear e1
        go_wp2_with fail
        refine (among_any B b (k + 2 + 2) w3.heap.size 5 5 [-1, 0, 1, 17, 101] _ (C3.out.alloc _) (by omega) rfl (by omega) (by omega) (by omega) (num_cells w3 3 [-1, 0, 1, 17, 101] _ rfl)).mono ?_
        rintro e w4 ⟨y3, hx4, rfl, hc, hg⟩
        have K4 := Lib.hid ((hg.block w.heap.size (by simp; omega) (fun e => by have := Option.some.inj e; omega)).trans (old_allocD (o' := .cells #[.int .i64 (-1), .int .i64 0, .int .i64 1, .int .i64 17, .int .i64 101] 3) K3.out))
        have M4 := Lib.hid ((hg.block P (by simp; omega) (fun e => by have := Option.some.inj e; omega)).trans (old_allocD (o' := .cells #[.int .i64 (-1), .int .i64 0, .int .i64 1, .int .i64 17, .int .i64 101] 3) M3.out))
        have G4 := Lib.hid (grown_trans (grown_trans G3.out (World.grownBy_alloc _ (.cells #[.int .i64 (-1), .int .i64 0, .int .i64 1, .int .i64 17, .int .i64 101] 3) (some b))) hg)
        have BD_y3 : Hid (-1 ≤ y3 ∧ y3 ≤ 101) := Lib.hid (by simp at hx4; omega)
        have C4 := Lib.hid hc
        have hz4 := hg.size
        simp at hz4
        clear hc hg hx4
        clear K3 M3 C3 G3
        have mm := M4.out
        have m0 := cell_of_row w4 P 1 _ _ _ mm
        have m1 := frozen_of_row w4 P 1 _ _ mm
        clear mm
        have M5 := Lib.hid (blk_setD (i := 1) (v := .int .i64 y3) M4.out)
        have K5 : Hid ((w4.setCell ⟨P, 1, none⟩ (.int .i64 y3)).heap[w.heap.size]? = some (.cells #[.string ⟨#[]⟩, .int .i64 0] 35 (0, 0))) := Lib.hid (by simp only [World.setCell, Array.getElem?_modify]; rw [if_neg (by show ¬ P = w.heap.size; omega)]; exact K4.out)
        have G5 := Lib.hid (grown_past G4.out (grown_setCell w4 P 1 (.int .i64 y3)) (by omega))
        have C5 := Lib.hid (C4.out.grown (grown_setCell w4 P 1 (.int .i64 y3)) (fun j hj => by cases hj; omega))
        have hz5 : w4.heap.size ≤ (w4.setCell ⟨P, 1, none⟩ (.int .i64 y3)).heap.size := by simp [World.setCell]
        go_upto_region 11 with fail
        generalize hw5 : w4.setCell ⟨P, 1, none⟩ (.int .i64 y3) = w5 at *
        clear hw5 m0 m1 K4 M4 C4 G4
        have kk := K5.out
        have mm := M5.out
        have a0 := cell_of_row w5 P 0 _ _ _ mm
        have c0 := cell_of_row w5 w.heap.size 0 _ _ _ kk
        have d0 := frozen_of_row w5 w.heap.size 0 _ _ kk
        have a1 := cell_of_row w5 P 1 _ _ _ mm
        have c1 := cell_of_row w5 w.heap.size 1 _ _ _ kk
        have d1 := frozen_of_row w5 w.heap.size 1 _ _ kk
        have s0 := blk_setD (i := 0) (v := .string s) kk
        have z0 := cell_of_row _ w.heap.size 0 _ _ _ s0
        have s1 := blk_setD (i := 1) (v := .int .i64 y3) s0
        have z1 := cell_of_row _ w.heap.size 1 _ _ _ s1
        simp at a0 c0 z0 a1 c1 z1
        have Z0 := Lib.hid z0
        have Z1 := Lib.hid z1
        clear kk mm s0 z0 s1 z1
        have GG := Lib.hid (grown_trans (grown_setCell w5 w.heap.size 0 (.string s)) (grown_setCell _ w.heap.size 1 (.int .i64 y3)))
        go_wp2
        refine bodyPost_ret (v := .agg #[.string s, .int .i64 y3]) (by simp [results, Try.results54, go_sem, Z0.out, Z1.out]) rfl ⟨⟨s, y3⟩, BD_s.out, BD_y3.out, rfl, (C5.out.grown GG.out (fun j hj => by cases hj; exact hb)).mono (by omega), grown_past G5.out GG.out (Nat.le_refl _)⟩
      · have t1 : ((r : Int) == 1) = false := by rw [beq_eq_false_iff_ne]; omega
        have kk := K3.out
        have mm := M3.out
        have a0 := cell_of_row w3 P 0 _ _ _ mm
        have c0 := cell_of_row w3 w.heap.size 0 _ _ _ kk
        have d0 := frozen_of_row w3 w.heap.size 0 _ _ kk
        have a1 := cell_of_row w3 P 1 _ _ _ mm
        have c1 := cell_of_row w3 w.heap.size 1 _ _ _ kk
        have d1 := frozen_of_row w3 w.heap.size 1 _ _ kk
        have s0 := blk_setD (i := 0) (v := .string s) kk
        have z0 := cell_of_row _ w.heap.size 0 _ _ _ s0
        have s1 := blk_setD (i := 1) (v := .int .i64 0) s0
        have z1 := cell_of_row _ w.heap.size 1 _ _ _ s1
        simp at a0 c0 z0 a1 c1 z1
        have Z0 := Lib.hid z0
        have Z1 := Lib.hid z1
        clear kk mm s0 z0 s1 z1
        have GG := Lib.hid (grown_trans (grown_setCell w3 w.heap.size 0 (.string s)) (grown_setCell _ w.heap.size 1 (.int .i64 0)))
        go_wp2
        refine bodyPost_ret (v := .agg #[.string s, .int .i64 0]) (by simp [results, Try.results54, go_sem, Z0.out, Z1.out]) rfl ⟨⟨s, 0⟩, BD_s.out, ⟨by simp, by simp⟩, rfl, (C3.out.grown GG.out (fun j hj => by cases hj; exact hb)).mono (by omega), grown_past G3.out GG.out (Nat.le_refl _)⟩
end Go.Proofs.Ytinlcbljpclccaa
