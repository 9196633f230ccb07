/- The draw of prices and rides. Condition: sizes. -/
import Derived.Test.YtpknodbkjjcdjaaDoorDrawPk
namespace Go.Proofs.YtpknodbkjjcdjaaDoor
open Go.RowKit
set_option linter.unusedVariables false
def DchPost (w : World) (e : Ending) (w' : World) : Prop := ∃ (x : Prc) (m n : Int), e = .returned (.tuple #[x.agg, .int .i64 m, .int .i64 n]) ∧ Below w.heap.size w w'
set_option maxRecDepth 100000 in
set_option maxHeartbeats 4000000 in
theorem DrawCheapestFor_any (a : Option Addr) (len cap : Nat) (w : World) (h : ByteRow w a len) :
    Calls Tryd.prog 35 #[.slice a len cap] w (DchPost w) := by
  have h1 := h.below ((Below.refl _ _).alloc (Nat.le_refl _) (.cells #[.int .i64 0, .int .i64 0, .int .i64 0, .int .i64 0] 52))
  have C0 := Lib.hid (cur_at (cap := cap) h1 84 (n := w.heap.size + 1) (by simp))
  have R0 := Lib.hid (old_allocD (o' := .cells #[.slice a len cap, .int .i64 0, .int .u64 0] 84) (heap_alloc_new w (.cells #[.int .i64 0, .int .i64 0, .int .i64 0, .int .i64 0] 52)))
  have B0 := Lib.hid (((Below.refl w.heap.size w).alloc (Nat.le_refl _) (.cells #[.int .i64 0, .int .i64 0, .int .i64 0, .int .i64 0] 52)).alloc (by simp; try omega) (.cells #[.slice a len cap, .int .i64 0, .int .u64 0] 84))
  have hz : ((w.alloc (.cells #[.int .i64 0, .int .i64 0, .int .i64 0, .int .i64 0] 52)).alloc (.cells #[.slice a len cap, .int .i64 0, .int .u64 0] 84)).heap.size = w.heap.size + 2 := by simp
  clear h h1
  go_enter Tryd.func35, Tryd.ntmps35
  go_upto_region 2 with fail
  generalize hw0 : (w.alloc (.cells #[.int .i64 0, .int .i64 0, .int .i64 0, .int .i64 0] 52)).alloc (.cells #[.slice a len cap, .int .i64 0, .int .u64 0] 84) = w0 at *
  clear hw0
  have hb0 := B0.out.size
  go_wp2_with fail
  refine (prices_any (w.heap.size + 1) (w.heap.size + 1) 0 w0 C0.out (by omega)).mono ?_
  rintro e w1 ⟨x, rfl, hc, hg⟩
  have R1 := Lib.hid (keepD hg (show w.heap.size ≠ w.heap.size + 1 by omega) R0.out)
  have hs1 := hg.size
  have G1 := Lib.hid hg
  have C1 := Lib.hid hc
  clear hc hg
  unfold Prc.agg
  have K2 := Lib.hid (heap_alloc_new w1 (.cells #[.int .i64 x.a, .int .i64 x.b, .int .i64 x.c, .int .i64 x.d] 52))
  have R2 := Lib.hid (old_allocD (o' := .cells #[.int .i64 x.a, .int .i64 x.b, .int .i64 x.c, .int .i64 x.d] 52) R1.out)
  have G2 := Lib.hid (grown_trans G1.out (World.grownBy_alloc w1 (.cells #[.int .i64 x.a, .int .i64 x.b, .int .i64 x.c, .int .i64 x.d] 52) (some (w.heap.size + 1))))
  have C2 := Lib.hid (C1.out.alloc (.cells #[.int .i64 x.a, .int .i64 x.b, .int .i64 x.c, .int .i64 x.d] 52))
  have hz2 : (w1.alloc (.cells #[.int .i64 x.a, .int .i64 x.b, .int .i64 x.c, .int .i64 x.d] 52)).heap.size = w1.heap.size + 1 := by simp
  go_upto_region 3 with fail
  generalize hw2 : w1.alloc (.cells #[.int .i64 x.a, .int .i64 x.b, .int .i64 x.c, .int .i64 x.d] 52) = w2 at *
  clear hw2 R1 G1 C1 R0 C0
  obtain ⟨P, hPe⟩ : ∃ P, P = w1.heap.size := ⟨_, rfl⟩
  rw [← hPe] at K2 hz2 ⊢
  have hPw : w.heap.size + 1 < P := by omega
  have hP2 : P < w2.heap.size := by omega
  clear hPe hz2 hs1
  have KB := K2
  have R3 := R2
  have c2 := C2.out
  clear K2 C2 R2
  have HKS : Hid (∀ W : World, w2.grownBy W (some (w.heap.size + 1)) → W.cell? ⟨P, 0, none⟩ = some (.int .i64 x.a) ∧ W.cell? ⟨P, 1, none⟩ = some (.int .i64 x.b) ∧ W.cell? ⟨P, 2, none⟩ = some (.int .i64 x.c) ∧ W.cell? ⟨P, 3, none⟩ = some (.int .i64 x.d)) := Lib.hid (fun W h => by
    have hk := keepD h (show P ≠ w.heap.size + 1 by omega) KB.out
    exact ⟨cell_of_row _ P 0 _ _ _ hk, cell_of_row _ P 1 _ _ _ hk, cell_of_row _ P 2 _ _ _ hk, cell_of_row _ P 3 _ _ _ hk⟩)
  have HKR : Hid (∀ W : World, w2.grownBy W (some (w.heap.size + 1)) → ((((W.setCell ⟨w.heap.size, 0, none⟩ (.int .i64 x.a)).setCell ⟨w.heap.size, 1, none⟩ (.int .i64 x.b)).setCell ⟨w.heap.size, 2, none⟩ (.int .i64 x.c)).setCell ⟨w.heap.size, 3, none⟩ (.int .i64 x.d)).cell? ⟨P, 0, none⟩ = some (.int .i64 x.a) ∧ ((((W.setCell ⟨w.heap.size, 0, none⟩ (.int .i64 x.a)).setCell ⟨w.heap.size, 1, none⟩ (.int .i64 x.b)).setCell ⟨w.heap.size, 2, none⟩ (.int .i64 x.c)).setCell ⟨w.heap.size, 3, none⟩ (.int .i64 x.d)).cell? ⟨P, 1, none⟩ = some (.int .i64 x.b) ∧ ((((W.setCell ⟨w.heap.size, 0, none⟩ (.int .i64 x.a)).setCell ⟨w.heap.size, 1, none⟩ (.int .i64 x.b)).setCell ⟨w.heap.size, 2, none⟩ (.int .i64 x.c)).setCell ⟨w.heap.size, 3, none⟩ (.int .i64 x.d)).cell? ⟨P, 2, none⟩ = some (.int .i64 x.c) ∧ ((((W.setCell ⟨w.heap.size, 0, none⟩ (.int .i64 x.a)).setCell ⟨w.heap.size, 1, none⟩ (.int .i64 x.b)).setCell ⟨w.heap.size, 2, none⟩ (.int .i64 x.c)).setCell ⟨w.heap.size, 3, none⟩ (.int .i64 x.d)).cell? ⟨P, 3, none⟩ = some (.int .i64 x.d)) := Lib.hid (fun W h => by
    have hk := setO4 (v0 := .int .i64 x.a) (v1 := .int .i64 x.b) (v2 := .int .i64 x.c) (v3 := .int .i64 x.d) (show P ≠ w.heap.size by omega) (keepD h (show P ≠ w.heap.size + 1 by omega) KB.out)
    exact ⟨cell_of_row _ P 0 _ _ _ hk, cell_of_row _ P 1 _ _ _ hk, cell_of_row _ P 2 _ _ _ hk, cell_of_row _ P 3 _ _ _ hk⟩)
  have hkr := HKR.out
  have hk1 := HKS.out
  have g00 : w2.grownBy w2 (some (w.heap.size + 1)) := World.grownBy.refl _ _
  obtain ⟨k0, k1, k2, k3⟩ := hk1 w2 g00
  have hPR := Lib.hid hPw
  have hb2 : ∀ n : Nat, w2.heap.size ≤ n → n ≠ w.heap.size + 1 := fun n hn => by omega
  have A1 : Hid (∀ W g n, 6 ≤ n ∧ n ≤ 8 → Cur (w.heap.size + 1) (w.heap.size + 1) (0 + 20 + 2) W → g ≠ w.heap.size + 1 → W.heap[g]? = some (.cells #[.int .i64 0, .int .i64 1, .int .i64 2, .int .i64 5, .int .i64 11, .int .i64 20, .int .i64 (-1), .int .i64 21] 3 (0, 0)) → Calls Tryd.prog 59 #[.pointer (some ⟨w.heap.size + 1, 0, none⟩), .slice (some ⟨g, 0, none⟩) n 8] W (AmPost (w.heap.size + 1) (w.heap.size + 1) (0 + 20 + 2) ([0, 1, 2, 5, 11, 20, -1, 21].take n) W)) := Lib.hid (fun W g n hn hW hg hc => among_any (w.heap.size + 1) (w.heap.size + 1) (0 + 20 + 2) g n 8 ([0, 1, 2, 5, 11, 20, -1, 21].take n) W hW (by omega) (by rw [List.length_take]; simp; omega) (by omega) (by omega) hg (part_cells (n := n) (lit_cells (l := [0, 1, 2, 5, 11, 20, -1, 21]) rfl hc)))
  have A2 : Hid (∀ W g n, 6 ≤ n ∧ n ≤ 8 → Cur (w.heap.size + 1) (w.heap.size + 1) (0 + 20 + 2 + 2 + 2) W → g ≠ w.heap.size + 1 → W.heap[g]? = some (.cells #[.int .i64 0, .int .i64 1, .int .i64 2, .int .i64 4, .int .i64 10, .int .i64 20, .int .i64 (-1), .int .i64 21] 3 (0, 0)) → Calls Tryd.prog 59 #[.pointer (some ⟨w.heap.size + 1, 0, none⟩), .slice (some ⟨g, 0, none⟩) n 8] W (AmPost (w.heap.size + 1) (w.heap.size + 1) (0 + 20 + 2 + 2 + 2) ([0, 1, 2, 4, 10, 20, -1, 21].take n) W)) := Lib.hid (fun W g n hn hW hg hc => among_any (w.heap.size + 1) (w.heap.size + 1) (0 + 20 + 2 + 2 + 2) g n 8 ([0, 1, 2, 4, 10, 20, -1, 21].take n) W hW (by omega) (by rw [List.length_take]; simp; omega) (by omega) (by omega) hg (part_cells (n := n) (lit_cells (l := [0, 1, 2, 4, 10, 20, -1, 21]) rfl hc)))
  go_region_held3 (fun w' => w'.cell? ⟨P, 0, none⟩ = some (.int .i64 x.a) ∧ w'.cell? ⟨P, 1, none⟩ = some (.int .i64 x.b) ∧ w'.cell? ⟨P, 2, none⟩ = some (.int .i64 x.c) ∧ w'.cell? ⟨P, 3, none⟩ = some (.int .i64 x.d))
    (first | exact hk1 _ (by (repeat (first | with_reducible exact g6 | with_reducible exact g5 | with_reducible exact g4 | with_reducible exact g3 | with_reducible exact g00 | with_reducible refine grown_trans ?_ (World.grownBy_alloc _ _ _) | with_reducible refine grown_trans ?_ (grown_drew _ _ _) | with_reducible refine gr_drewT ?_)); first | done | fail) | exact hkr _ (by (repeat (first | with_reducible exact g6 | with_reducible exact g5 | with_reducible exact g4 | with_reducible exact g3 | with_reducible exact g00 | with_reducible refine grown_trans ?_ (World.grownBy_alloc _ _ _) | with_reducible refine grown_trans ?_ (grown_drew _ _ _) | with_reducible refine gr_drewT ?_)); first | done | fail))
    (first
      | (go_at_call 59; refine (A2.out _ _ m2 hn2 (by repeat (first | with_reducible exact hc5 | with_reducible refine Cur.alloc ?_ _ | with_reducible refine Cur.drewD ?_ _ | with_reducible refine Cur.drewT ?_)) (hb2 _ (by first | omega | (simp; done) | (simp; omega))) (by (repeat (first | with_reducible exact nalD (by first | (simp; done) | omega | fail) | with_reducible refine old_allocD ?_ | with_reducible refine odrewD ?_ | with_reducible refine odrewD1 ?_ | with_reducible refine keepD hg5 (hb2 _ (by first | omega | (simp; done) | (simp; omega))) ?_ | with_reducible refine keepD hg4 (hb2 _ (by first | omega | (simp; done) | (simp; omega))) ?_ | with_reducible refine keepD hg3 (hb2 _ (by first | omega | (simp; done) | (simp; omega))) ?_)); first | done | fail)).mono ?_; rintro e w6 ⟨nq, hx2, rfl, hc6, hg6⟩; have g6 : w2.grownBy w6 (some (w.heap.size + 1)) := grown_trans (by (repeat (first | with_reducible exact g5 | with_reducible refine grown_trans ?_ (World.grownBy_alloc _ _ _) | with_reducible refine grown_trans ?_ (grown_drew _ _ _) | with_reducible refine gr_drewT ?_)); first | done | fail) hg6; have KK := keepD g6 (show w.heap.size ≠ w.heap.size + 1 by omega) R3.out; have rq0 := cell_of_row w6 w.heap.size 0 _ _ _ KK; have nq0 := frozen_of_row w6 w.heap.size 0 _ _ KK; have rq1 := cell_of_row w6 w.heap.size 1 _ _ _ KK; have nq1 := frozen_of_row w6 w.heap.size 1 _ _ KK; have rq2 := cell_of_row w6 w.heap.size 2 _ _ _ KK; have nq2 := frozen_of_row w6 w.heap.size 2 _ _ KK; have rq3 := cell_of_row w6 w.heap.size 3 _ _ _ KK; have nq3 := frozen_of_row w6 w.heap.size 3 _ _ KK)
      | (go_at_call 58; refine (pick_any (w.heap.size + 1) (w.heap.size + 1) (0 + 20 + 2 + 2) 24 _ (by repeat (first | with_reducible exact hc4 | with_reducible refine Cur.alloc ?_ _ | with_reducible refine Cur.drewD ?_ _ | with_reducible refine Cur.drewT ?_)) (by omega) (by omega) (by omega)).mono ?_; rintro e w5 ⟨r2, rfl, hr2, hc5, hg5⟩; have g5 : w2.grownBy w5 (some (w.heap.size + 1)) := grown_trans (by (repeat (first | with_reducible exact g4 | with_reducible refine grown_trans ?_ (World.grownBy_alloc _ _ _) | with_reducible refine grown_trans ?_ (grown_drew _ _ _) | with_reducible refine gr_drewT ?_)); first | done | fail) hg5; have z5 := g5.size; obtain ⟨c2, m2, hn2, ta2, tb2, tc2⟩ := sel6 r2 hr2; have qa2 : (0 : Int) ≤ (m2 : Int) := (by omega); have qb2 : (m2 : Int) ≤ 8 := (by omega); have qc2 : m2 ≤ 8 := (by omega))
      | (go_at_call 59; refine (A1.out _ _ m1 hn1 (by repeat (first | with_reducible exact hc3 | with_reducible refine Cur.alloc ?_ _ | with_reducible refine Cur.drewD ?_ _ | with_reducible refine Cur.drewT ?_)) (hb2 _ (by first | omega | (simp; done) | (simp; omega))) (by (repeat (first | with_reducible exact nalD (by first | (simp; done) | omega | fail) | with_reducible refine old_allocD ?_ | with_reducible refine odrewD ?_ | with_reducible refine odrewD1 ?_ | with_reducible refine keepD hg3 (hb2 _ (by first | omega | (simp; done) | (simp; omega))) ?_)); first | done | fail)).mono ?_; rintro e w4 ⟨mq, hx1, rfl, hc4, hg4⟩; have g4 : w2.grownBy w4 (some (w.heap.size + 1)) := grown_trans (by (repeat (first | with_reducible exact g3 | with_reducible refine grown_trans ?_ (World.grownBy_alloc _ _ _) | with_reducible refine grown_trans ?_ (grown_drew _ _ _) | with_reducible refine gr_drewT ?_)); first | done | fail) hg4; have z4 := g4.size)
      | (go_at_call 58; refine (pick_any (w.heap.size + 1) (w.heap.size + 1) (0 + 20) 24 _ (by repeat (first | with_reducible exact c2 | with_reducible refine Cur.alloc ?_ _ | with_reducible refine Cur.drewD ?_ _ | with_reducible refine Cur.drewT ?_)) (by omega) (by omega) (by omega)).mono ?_; rintro e w3 ⟨r1, rfl, hr1, hc3, hg3⟩; have g3 : w2.grownBy w3 (some (w.heap.size + 1)) := grown_trans (by (repeat (first | with_reducible exact g00 | with_reducible refine grown_trans ?_ (World.grownBy_alloc _ _ _) | with_reducible refine grown_trans ?_ (grown_drew _ _ _) | with_reducible refine gr_drewT ?_)); first | done | fail) hg3; have z3 := g3.size; obtain ⟨c1, m1, hn1, ta1, tb1, tc1⟩ := sel6 r1 hr1; have qa1 : (0 : Int) ≤ (m1 : Int) := (by omega); have qb1 : (m1 : Int) ≤ 8 := (by omega); have qc1 : m1 ≤ 8 := (by omega))
      | fail)
  all_goals (
    have s0 := blk_setD (i := 0) (v := .int .i64 x.a) KK
    have z0 := cell_of_row _ w.heap.size 0 _ _ _ s0
    have s1 := blk_setD (i := 1) (v := .int .i64 x.b) s0
    have z1 := cell_of_row _ w.heap.size 1 _ _ _ s1
    have s2 := blk_setD (i := 2) (v := .int .i64 x.c) s1
    have z2 := cell_of_row _ w.heap.size 2 _ _ _ s2
    have s3 := blk_setD (i := 3) (v := .int .i64 x.d) s2
    have z3 := cell_of_row _ w.heap.size 3 _ _ _ s3
    simp at z0 z1 z2 z3
    have Z0 := Lib.hid z0
    have Z1 := Lib.hid z1
    have Z2 := Lib.hid z2
    have Z3 := Lib.hid z3
    have GG := (grown_trans (grown_trans (grown_trans (grown_setCell w6 w.heap.size 0 (.int .i64 x.a)) (grown_setCell _ w.heap.size 1 (.int .i64 x.b))) (grown_setCell _ w.heap.size 2 (.int .i64 x.c))) (grown_setCell _ w.heap.size 3 (.int .i64 x.d)))
    have BBW := B0.out.trans (grown_below (grown_trans G2.out g6) (by omega) (fun k hk => by cases hk; omega))
    have BBX := Lib.hid ((((BBW.setCell (p := ⟨w.heap.size, 0, none⟩) (Nat.le_refl _) (.int .i64 x.a)).setCell (p := ⟨w.heap.size, 1, none⟩) (Nat.le_refl _) (.int .i64 x.b)).setCell (p := ⟨w.heap.size, 2, none⟩) (Nat.le_refl _) (.int .i64 x.c)).setCell (p := ⟨w.heap.size, 3, none⟩) (Nat.le_refl _) (.int .i64 x.d))
    clear z0 z1 z2 z3 s0 s1 s2 s3 KK GG BBW hk1 hkr g00 k0 k1 k2 k3
    go_wp2
    refine bodyPost_ret (v := .tuple #[.agg #[.int .i64 x.a, .int .i64 x.b, .int .i64 x.c, .int .i64 x.d], .int .i64 mq, .int .i64 nq]) (by simp [results, Tryd.results35, go_sem, Z0.out, Z1.out, Z2.out, Z3.out]) rfl (⟨x, mq, nq, rfl, BBX.out⟩))
end Go.Proofs.YtpknodbkjjcdjaaDoor
