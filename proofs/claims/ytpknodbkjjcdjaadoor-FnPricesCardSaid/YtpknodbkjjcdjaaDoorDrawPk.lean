/- The draws of prices and of one ticket. Condition: sizes. -/
import Derived.Test.YtpknodbkjjcdjaaDoorDrawTk
import Derived.Test.YtpknodbkjjcdjaaDoorDrawPrc
import Derived.Test.YtpknodbkjjcdjaaDoorBig
namespace Go.Proofs.YtpknodbkjjcdjaaDoor
open Go.RowKit
set_option linter.unusedVariables false
theorem setO4 {W : World} {S R : Nat} {v0 v1 v2 v3 : Value} {o : Obj} (hne : S ≠ R) (h : W.heap[S]? = some o) : ((((W.setCell ⟨R, 0, none⟩ v0).setCell ⟨R, 1, none⟩ v1).setCell ⟨R, 2, none⟩ v2).setCell ⟨R, 3, none⟩ v3).heap[S]? = some o := by
  have hn : ¬ R = S := fun e => hne e.symm
  simp [World.setCell, Array.getElem?_modify, h, hn]
theorem part_cells {W : World} {g n : Nat} {l : List Int} (h : ∀ (i : Nat) (hi : i < l.length), W.cell? ⟨g, i, none⟩ = some (.int .i64 l[i])) : ∀ (i : Nat) (hi : i < (l.take n).length), W.cell? ⟨g, i, none⟩ = some (.int .i64 (l.take n)[i]) := by
  intro i hi
  have h2 : i < l.length := by rw [List.length_take] at hi; omega
  rw [List.getElem_take]
  exact h i h2
def DcrPost (w : World) (e : Ending) (w' : World) : Prop := ∃ (x : Tik) (d : Int) (u : Bool), e = .returned (.tuple #[x.agg, .int .i64 d, .bool u]) ∧ Below w.heap.size w w'
set_option maxRecDepth 100000 in
set_option maxHeartbeats 4000000 in
theorem DrawCanRide_any (a : Option Addr) (len cap : Nat) (w : World) (h : ByteRow w a len) :
    Calls Tryd.prog 31 #[.slice a len cap] w (DcrPost w) := by
  have h1 := h.below ((Below.refl _ _).alloc (Nat.le_refl _) (.cells #[.int .i64 0, .int .i64 0, .int .i64 0, .int .i64 0, .int .i64 0] 31))
  have C0 := Lib.hid (cur_at (cap := cap) h1 84 (n := w.heap.size + 1) (by simp))
  have R0 := Lib.hid (old_allocD (o' := .cells #[.slice a len cap, .int .i64 0, .int .u64 0] 84) (heap_alloc_new w (.cells #[.int .i64 0, .int .i64 0, .int .i64 0, .int .i64 0, .int .i64 0] 31)))
  have B0 := Lib.hid (((Below.refl w.heap.size w).alloc (Nat.le_refl _) (.cells #[.int .i64 0, .int .i64 0, .int .i64 0, .int .i64 0, .int .i64 0] 31)).alloc (by simp; try omega) (.cells #[.slice a len cap, .int .i64 0, .int .u64 0] 84))
  have hz : ((w.alloc (.cells #[.int .i64 0, .int .i64 0, .int .i64 0, .int .i64 0, .int .i64 0] 31)).alloc (.cells #[.slice a len cap, .int .i64 0, .int .u64 0] 84)).heap.size = w.heap.size + 2 := by simp
  clear h h1
  go_enter Tryd.func31, Tryd.ntmps31
  go_upto_region 2 with fail
  generalize hw0 : (w.alloc (.cells #[.int .i64 0, .int .i64 0, .int .i64 0, .int .i64 0, .int .i64 0] 31)).alloc (.cells #[.slice a len cap, .int .i64 0, .int .u64 0] 84) = w0 at *
  clear hw0
  have hb0 := B0.out.size
  go_wp2_with fail
  refine (ticket_any (w.heap.size + 1) (w.heap.size + 1) 0 5 w0 C0.out (by omega)).mono ?_
  rintro e w1 ⟨x, rfl, hc, hg⟩
  have R1 := Lib.hid (keepD hg (show w.heap.size ≠ w.heap.size + 1 by omega) R0.out)
  have G1 := Lib.hid hg
  have C1 := Lib.hid hc
  clear hc hg
  unfold Tik.agg
  go_wp2_with fail
  refine (day11_any (w.heap.size + 1) (w.heap.size + 1) (0 + 20) w1 C1.out (by omega)).mono ?_
  rintro e w2 ⟨d, rfl, hc, hg⟩
  have R2 := Lib.hid (keepD hg (show w.heap.size ≠ w.heap.size + 1 by omega) R1.out)
  have G2 := Lib.hid (grown_trans G1.out hg)
  have C2 := Lib.hid hc
  clear hc hg
  go_wp2_with fail
  refine (one_any (w.heap.size + 1) (w.heap.size + 1) (0 + 20 + 4) 2 w2 C2.out (by omega) (by omega) (by omega)).mono ?_
  rintro e w3 ⟨u, rfl, hc, hg⟩
  have KK := keepD hg (show w.heap.size ≠ w.heap.size + 1 by omega) R2.out
  have BBW := Lib.hid (B0.out.trans (grown_below (grown_trans G2.out hg) (by omega) (fun k hk => by cases hk; omega)))
  clear hc hg
  have c0 := cell_of_row w3 w.heap.size 0 _ _ _ KK
  have c1 := cell_of_row w3 w.heap.size 1 _ _ _ KK
  have c2 := cell_of_row w3 w.heap.size 2 _ _ _ KK
  have c3 := cell_of_row w3 w.heap.size 3 _ _ _ KK
  have c4 := cell_of_row w3 w.heap.size 4 _ _ _ KK
  have d0 := frozen_of_row w3 w.heap.size 0 _ _ KK
  have d1 := frozen_of_row w3 w.heap.size 1 _ _ KK
  have d2 := frozen_of_row w3 w.heap.size 2 _ _ KK
  have d3 := frozen_of_row w3 w.heap.size 3 _ _ KK
  have d4 := frozen_of_row w3 w.heap.size 4 _ _ KK
  have s0 := blk_setD (i := 0) (v := .int .i64 x.i) KK
  have z0 := cell_of_row _ w.heap.size 0 _ _ _ s0
  have s1 := blk_setD (i := 1) (v := .int .i64 x.s) s0
  have z1 := cell_of_row _ w.heap.size 1 _ _ _ s1
  have s2 := blk_setD (i := 2) (v := .int .i64 x.w) s1
  have z2 := cell_of_row _ w.heap.size 2 _ _ _ s2
  have s3 := blk_setD (i := 3) (v := .int .i64 x.g) s2
  have z3 := cell_of_row _ w.heap.size 3 _ _ _ s3
  have s4 := blk_setD (i := 4) (v := .int .i64 x.p) s3
  have z4 := cell_of_row _ w.heap.size 4 _ _ _ s4
  simp at c0 c1 c2 c3 c4 z0 z1 z2 z3 z4
  have Z0 := Lib.hid z0
  have Z1 := Lib.hid z1
  have Z2 := Lib.hid z2
  have Z3 := Lib.hid z3
  have Z4 := Lib.hid z4
  clear z0 z1 z2 z3 z4 s0 s1 s2 s3 s4 KK
  go_wp2
  refine bodyPost_ret (v := .tuple #[.agg #[.int .i64 x.i, .int .i64 x.s, .int .i64 x.w, .int .i64 x.g, .int .i64 x.p], .int .i64 d, .bool u]) (by simp [results, Tryd.results31, go_sem, Z0.out, Z1.out, Z2.out, Z3.out, Z4.out]) rfl ⟨x, d, u, rfl, ?_⟩
  exact ((((BBW.out.setCell (Nat.le_refl _) _).setCell (Nat.le_refl _) _).setCell (Nat.le_refl _) _).setCell (Nat.le_refl _) _).setCell (Nat.le_refl _) _
def DsaPost (w : World) (e : Ending) (w' : World) : Prop := ∃ (x : Prc) (v : Value) (l : List Tik) (d : Int), e = .returned (.tuple #[x.agg, v, .int .i64 d]) ∧ Rs w' v l.length (tiks l) ∧ l.length ≤ 13 ∧ Below w.heap.size w w'
set_option maxRecDepth 100000 in
set_option maxHeartbeats 4000000 in
theorem DrawSalesOn_any (a : Option Addr) (len cap : Nat) (w : World) (h : ByteRow w a len) :
    Calls Tryd.prog 38 #[.slice a len cap] w (DsaPost w) := by
  have h1 := h.below ((Below.refl _ _).alloc (Nat.le_refl _) (.cells #[.int .i64 0, .int .i64 0, .int .i64 0, .int .i64 0] 52))
  have C0 := Lib.hid (cur_at (cap := cap) h1 84 (n := w.heap.size + 1) (by simp))
  have R0 := Lib.hid (old_allocD (o' := .cells #[.slice a len cap, .int .i64 0, .int .u64 0] 84) (heap_alloc_new w (.cells #[.int .i64 0, .int .i64 0, .int .i64 0, .int .i64 0] 52)))
  have B0 := Lib.hid (((Below.refl w.heap.size w).alloc (Nat.le_refl _) (.cells #[.int .i64 0, .int .i64 0, .int .i64 0, .int .i64 0] 52)).alloc (by simp; try omega) (.cells #[.slice a len cap, .int .i64 0, .int .u64 0] 84))
  have hz : ((w.alloc (.cells #[.int .i64 0, .int .i64 0, .int .i64 0, .int .i64 0] 52)).alloc (.cells #[.slice a len cap, .int .i64 0, .int .u64 0] 84)).heap.size = w.heap.size + 2 := by simp
  clear h h1
  go_enter Tryd.func38, Tryd.ntmps38
  go_upto_region 2 with fail
  generalize hw0 : (w.alloc (.cells #[.int .i64 0, .int .i64 0, .int .i64 0, .int .i64 0] 52)).alloc (.cells #[.slice a len cap, .int .i64 0, .int .u64 0] 84) = w0 at *
  clear hw0
  have hb0 := B0.out.size
  go_wp2_with fail
  refine (prices_any (w.heap.size + 1) (w.heap.size + 1) 0 w0 C0.out (by omega)).mono ?_
  rintro e w1 ⟨x, rfl, hc, hg⟩
  have R1 := Lib.hid (keepD hg (show w.heap.size ≠ w.heap.size + 1 by omega) R0.out)
  have hs1 := hg.size
  have G1 := Lib.hid hg
  have C1 := Lib.hid hc
  clear hc hg
  unfold Prc.agg
  have K2 := Lib.hid (heap_alloc_new w1 (.cells #[.int .i64 x.a, .int .i64 x.b, .int .i64 x.c, .int .i64 x.d] 52))
  have R2 := Lib.hid (old_allocD (o' := .cells #[.int .i64 x.a, .int .i64 x.b, .int .i64 x.c, .int .i64 x.d] 52) R1.out)
  have G2 := Lib.hid (grown_trans G1.out (World.grownBy_alloc w1 (.cells #[.int .i64 x.a, .int .i64 x.b, .int .i64 x.c, .int .i64 x.d] 52) (some (w.heap.size + 1))))
  have C2 := Lib.hid (C1.out.alloc (.cells #[.int .i64 x.a, .int .i64 x.b, .int .i64 x.c, .int .i64 x.d] 52))
  have hz2 : (w1.alloc (.cells #[.int .i64 x.a, .int .i64 x.b, .int .i64 x.c, .int .i64 x.d] 52)).heap.size = w1.heap.size + 1 := by simp
  go_upto_region 3 with fail
  generalize hw2 : w1.alloc (.cells #[.int .i64 x.a, .int .i64 x.b, .int .i64 x.c, .int .i64 x.d] 52) = w2 at *
  clear hw2 R1 G1 C1 R0 C0
  obtain ⟨P, hPe⟩ : ∃ P, P = w1.heap.size := ⟨_, rfl⟩
  rw [← hPe] at K2 hz2 ⊢
  have hPw : w.heap.size + 1 < P := by omega
  have hP2 : P < w2.heap.size := by omega
  clear hPe hz2 hs1
  go_wp2_with fail
  refine (tickets_any (w.heap.size + 1) (w.heap.size + 1) (0 + 20) w2 C2.out (by omega)).mono ?_
  rintro e w3 ⟨v, l, rfl, o3, hl, hc, _, hg, _⟩
  obtain ⟨va, vc, rfl⟩ := (Rs.of_own o3).shape
  have KB := Lib.hid (keepD hg (show P ≠ w.heap.size + 1 by omega) K2.out)
  have R3 := Lib.hid (keepD hg (show w.heap.size ≠ w.heap.size + 1 by omega) R2.out)
  have hs3 := hg.size
  have G3 := Lib.hid (grown_trans G2.out hg)
  have O3 := Lib.hid o3
  have c3 := hc
  clear hc hg o3 K2 R2 G2 C2
  go_upto_region 4 with fail
  have HKS : Hid (∀ W : World, w3.grownBy W (some (w.heap.size + 1)) → W.cell? ⟨P, 0, none⟩ = some (.int .i64 x.a) ∧ W.cell? ⟨P, 1, none⟩ = some (.int .i64 x.b) ∧ W.cell? ⟨P, 2, none⟩ = some (.int .i64 x.c) ∧ W.cell? ⟨P, 3, none⟩ = some (.int .i64 x.d)) := Lib.hid (fun W h => by
    have hk := keepD h (show P ≠ w.heap.size + 1 by omega) KB.out
    exact ⟨cell_of_row _ P 0 _ _ _ hk, cell_of_row _ P 1 _ _ _ hk, cell_of_row _ P 2 _ _ _ hk, cell_of_row _ P 3 _ _ _ hk⟩)
  have HKR : Hid (∀ W : World, w3.grownBy W (some (w.heap.size + 1)) → ((((W.setCell ⟨w.heap.size, 0, none⟩ (.int .i64 x.a)).setCell ⟨w.heap.size, 1, none⟩ (.int .i64 x.b)).setCell ⟨w.heap.size, 2, none⟩ (.int .i64 x.c)).setCell ⟨w.heap.size, 3, none⟩ (.int .i64 x.d)).cell? ⟨P, 0, none⟩ = some (.int .i64 x.a) ∧ ((((W.setCell ⟨w.heap.size, 0, none⟩ (.int .i64 x.a)).setCell ⟨w.heap.size, 1, none⟩ (.int .i64 x.b)).setCell ⟨w.heap.size, 2, none⟩ (.int .i64 x.c)).setCell ⟨w.heap.size, 3, none⟩ (.int .i64 x.d)).cell? ⟨P, 1, none⟩ = some (.int .i64 x.b) ∧ ((((W.setCell ⟨w.heap.size, 0, none⟩ (.int .i64 x.a)).setCell ⟨w.heap.size, 1, none⟩ (.int .i64 x.b)).setCell ⟨w.heap.size, 2, none⟩ (.int .i64 x.c)).setCell ⟨w.heap.size, 3, none⟩ (.int .i64 x.d)).cell? ⟨P, 2, none⟩ = some (.int .i64 x.c) ∧ ((((W.setCell ⟨w.heap.size, 0, none⟩ (.int .i64 x.a)).setCell ⟨w.heap.size, 1, none⟩ (.int .i64 x.b)).setCell ⟨w.heap.size, 2, none⟩ (.int .i64 x.c)).setCell ⟨w.heap.size, 3, none⟩ (.int .i64 x.d)).cell? ⟨P, 3, none⟩ = some (.int .i64 x.d)) := Lib.hid (fun W h => by
    have hk := setO4 (v0 := .int .i64 x.a) (v1 := .int .i64 x.b) (v2 := .int .i64 x.c) (v3 := .int .i64 x.d) (show P ≠ w.heap.size by omega) (keepD h (show P ≠ w.heap.size + 1 by omega) KB.out)
    exact ⟨cell_of_row _ P 0 _ _ _ hk, cell_of_row _ P 1 _ _ _ hk, cell_of_row _ P 2 _ _ _ hk, cell_of_row _ P 3 _ _ _ hk⟩)
  have hkr := HKR.out
  have hk1 := HKS.out
  have g00 : w3.grownBy w3 (some (w.heap.size + 1)) := World.grownBy.refl _ _
  obtain ⟨k0, k1, k2, k3⟩ := hk1 w3 g00
  have hPR := Lib.hid hPw
  go_region_held3 (fun w' => w'.cell? ⟨P, 0, none⟩ = some (.int .i64 x.a) ∧ w'.cell? ⟨P, 1, none⟩ = some (.int .i64 x.b) ∧ w'.cell? ⟨P, 2, none⟩ = some (.int .i64 x.c) ∧ w'.cell? ⟨P, 3, none⟩ = some (.int .i64 x.d))
    (first | exact hk1 _ (by (repeat (first | with_reducible exact g4 | with_reducible exact g00 | with_reducible refine grown_trans ?_ (World.grownBy_alloc _ _ _) | with_reducible refine grown_trans ?_ (grown_drew _ _ _) | with_reducible refine gr_drewT ?_)); first | done | fail) | exact hkr _ (by (repeat (first | with_reducible exact g4 | with_reducible exact g00 | with_reducible refine grown_trans ?_ (World.grownBy_alloc _ _ _) | with_reducible refine grown_trans ?_ (grown_drew _ _ _) | with_reducible refine gr_drewT ?_)); first | done | fail))
    (first | (go_at_call 60; refine (day11_any (w.heap.size + 1) (w.heap.size + 1) (0 + 20 + 500) _ (by repeat (first | with_reducible exact c3 | with_reducible refine Cur.alloc ?_ _ | with_reducible refine Cur.drewD ?_ _ | with_reducible refine Cur.drewT ?_)) (by omega)).mono ?_; rintro e w4 ⟨d, rfl, hc4, hg4⟩; have g4 : w3.grownBy w4 (some (w.heap.size + 1)) := grown_trans (by (repeat (first | with_reducible exact g00 | with_reducible refine grown_trans ?_ (World.grownBy_alloc _ _ _) | with_reducible refine grown_trans ?_ (grown_drew _ _ _) | with_reducible refine gr_drewT ?_)); first | done | fail) hg4; have KK := keepD g4 (show w.heap.size ≠ w.heap.size + 1 by omega) R3.out; have r0 := cell_of_row w4 w.heap.size 0 _ _ _ KK; have r1 := cell_of_row w4 w.heap.size 1 _ _ _ KK; have r2 := cell_of_row w4 w.heap.size 2 _ _ _ KK; have r3 := cell_of_row w4 w.heap.size 3 _ _ _ KK; have n0 := frozen_of_row w4 w.heap.size 0 _ _ KK; have n1 := frozen_of_row w4 w.heap.size 1 _ _ KK; have n2 := frozen_of_row w4 w.heap.size 2 _ _ KK; have n3 := frozen_of_row w4 w.heap.size 3 _ _ KK) | fail)
  
  have s0 := blk_setD (i := 0) (v := .int .i64 x.a) KK
  have z0 := cell_of_row _ w.heap.size 0 _ _ _ s0
  have s1 := blk_setD (i := 1) (v := .int .i64 x.b) s0
  have z1 := cell_of_row _ w.heap.size 1 _ _ _ s1
  have s2 := blk_setD (i := 2) (v := .int .i64 x.c) s1
  have z2 := cell_of_row _ w.heap.size 2 _ _ _ s2
  have s3 := blk_setD (i := 3) (v := .int .i64 x.d) s2
  have z3 := cell_of_row _ w.heap.size 3 _ _ _ s3
  simp at z0 z1 z2 z3
  have Z0 := Lib.hid z0
  have Z1 := Lib.hid z1
  have Z2 := Lib.hid z2
  have Z3 := Lib.hid z3
  have GG := (grown_trans (grown_trans (grown_trans (grown_setCell w4 w.heap.size 0 (.int .i64 x.a)) (grown_setCell _ w.heap.size 1 (.int .i64 x.b))) (grown_setCell _ w.heap.size 2 (.int .i64 x.c))) (grown_setCell _ w.heap.size 3 (.int .i64 x.d)))
  have BBW := B0.out.trans (grown_below (grown_trans G3.out g4) (by omega) (fun k hk => by cases hk; omega))
  have BBX := Lib.hid ((((BBW.setCell (p := ⟨w.heap.size, 0, none⟩) (Nat.le_refl _) (.int .i64 x.a)).setCell (p := ⟨w.heap.size, 1, none⟩) (Nat.le_refl _) (.int .i64 x.b)).setCell (p := ⟨w.heap.size, 2, none⟩) (Nat.le_refl _) (.int .i64 x.c)).setCell (p := ⟨w.heap.size, 3, none⟩) (Nat.le_refl _) (.int .i64 x.d))
  have O4 := O3.out.kept g4 (.inr (fun e => by have := (O3.out.lt _ e).1; omega))
  have HRX := Lib.hid (Rs.of_own (O4.kept GG (.inr (fun e => by have := (O4.lt _ e).1; omega))))
  clear O4
  clear z0 z1 z2 z3 s0 s1 s2 s3 KK GG BBW hk1 hkr g00 k0 k1 k2 k3
  go_wp2
  refine bodyPost_ret (v := .tuple #[.agg #[.int .i64 x.a, .int .i64 x.b, .int .i64 x.c, .int .i64 x.d], .slice va l.length vc, .int .i64 d]) (by simp [results, Tryd.results38, go_sem, Z0.out, Z1.out, Z2.out, Z3.out]) rfl (⟨x, _, l, d, rfl, HRX.out, hl, BBX.out⟩)
end Go.Proofs.YtpknodbkjjcdjaaDoor
