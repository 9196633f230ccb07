/- The drawn state. Condition: sizes. -/
import Derived.Test.YtoamhbobcpljpaaDrawBase
import Derived.Test.YtoamhbobcpljpaaDrawKit
import Derived.Test.YtoamhbobcpljpaaWruS
import Derived.Test.YtoamhbobcpljpaaWstS
import Derived.Test.YtoamhbobcpljpaaBlk2
import Derived.Deep.DeepCutAuto
namespace Go.Proofs.Ytoamhbobcpljpaa
open Go.RowKit
set_option linter.unusedVariables false
theorem grown_allD (w : World) (b : Nat) (x y : Value) : w.grownBy ((w.setCell ⟨b, 0, none⟩ x).setCell ⟨b, 1, none⟩ y) (some b) := (grown_put w ⟨b, 0, none⟩ x).trans (grown_put _ ⟨b, 1, none⟩ y)
/-- What drawing a state leaves. -/
def WsPost (B b k : Nat) (w : World) (e : Ending) (w' : World) : Prop := ∃ x : Wst, e = .returned (.agg #[.int .i64 x.l, .int .i64 x.c]) ∧ Cur B b (k + 12) w' ∧ w.grownBy w' (some b)
set_option maxRecDepth 100000 in
set_option maxHeartbeats 8000000 in
theorem windState_any (B b k : Nat) (r : Wru) (w : World) (h : Cur B b k w) (hk : k ≤ 800000000) (hd : 0 ≤ r.d ∧ r.d ≤ 11) :
    Calls Try.prog 52 #[.pointer (some ⟨b, 0, none⟩), .agg #[.int .i64 r.a, .int .i64 r.b, .int .i64 r.c, .int .i64 r.d]] w (WsPost B b k w) := by
  have hb := h.2.1
  have C0 := Lib.hid ((h.alloc (.cells #[.int .i64 r.a, .int .i64 r.b, .int .i64 r.c, .int .i64 r.d] 25)).alloc (.cells #[.int .i64 0, .int .i64 0] 27))
  have R0 := Lib.hid (old_allocD (o' := .cells #[.int .i64 0, .int .i64 0] 27) (heap_alloc_new w (.cells #[.int .i64 r.a, .int .i64 r.b, .int .i64 r.c, .int .i64 r.d] 25)))
  have K0 : Hid (((w.alloc (.cells #[.int .i64 r.a, .int .i64 r.b, .int .i64 r.c, .int .i64 r.d] 25)).alloc (.cells #[.int .i64 0, .int .i64 0] 27)).heap[w.heap.size + 1]? = some (.cells #[.int .i64 0, .int .i64 0] 27 (0, 0))) := Lib.hid (by
    have h := heap_alloc_new (w.alloc (.cells #[.int .i64 r.a, .int .i64 r.b, .int .i64 r.c, .int .i64 r.d] 25)) (.cells #[.int .i64 0, .int .i64 0] 27)
    rw [show (w.alloc (.cells #[.int .i64 r.a, .int .i64 r.b, .int .i64 r.c, .int .i64 r.d] 25)).heap.size = w.heap.size + 1 by simp] at h
    exact h)
  have G0 := Lib.hid (grown_trans (World.grownBy_alloc w (.cells #[.int .i64 r.a, .int .i64 r.b, .int .i64 r.c, .int .i64 r.d] 25) (some b)) (World.grownBy_alloc _ (.cells #[.int .i64 0, .int .i64 0] 27) (some b)))
  have hz0 : ((w.alloc (.cells #[.int .i64 r.a, .int .i64 r.b, .int .i64 r.c, .int .i64 r.d] 25)).alloc (.cells #[.int .i64 0, .int .i64 0] 27)).heap.size = w.heap.size + 2 := by simp
  clear h
  go_enter Try.func52, Try.ntmps52
  go_upto_region 1 with fail
  generalize (w.alloc (.cells #[.int .i64 r.a, .int .i64 r.b, .int .i64 r.c, .int .i64 r.d] 25)).alloc (.cells #[.int .i64 0, .int .i64 0] 27) = w0 at *
  go_wp2_with fail
  refine (pick_any B b k 3 w0 C0.out (by omega) (by omega) (by omega)).mono ?_
  rintro e w1 ⟨q, rfl, hq, hc, hg⟩
  have R1 := Lib.hid (keepD hg (show w.heap.size ≠ b by omega) R0.out)
  have K1 := Lib.hid (keepD hg (show w.heap.size + 1 ≠ b by omega) K0.out)
  have G1 := Lib.hid (grown_trans G0.out hg)
  have C1 := Lib.hid hc
  have hz1 := hg.size
  clear hc hg R0 K0 G0 C0
  have M2 := Lib.hid (blk_new2 w1 (.int .i64 (q : Int)) (.int .i64 0) 27)
  have R2 := Lib.hid (old_allocD (o' := .cells #[.int .i64 (q : Int), .int .i64 0] 27) R1.out)
  have K2 := Lib.hid (old_allocD (o' := .cells #[.int .i64 (q : Int), .int .i64 0] 27) K1.out)
  have G2 := Lib.hid (grown_trans G1.out (World.grownBy_alloc w1 (.cells #[.int .i64 (q : Int), .int .i64 0] 27) (some b)))
  have C2 := Lib.hid (C1.out.alloc (.cells #[.int .i64 (q : Int), .int .i64 0] 27))
  have hz2 : (w1.alloc (.cells #[.int .i64 (q : Int), .int .i64 0] 27)).heap.size = w1.heap.size + 1 := by simp
  go_upto_region 2 with fail
  generalize w1.alloc (.cells #[.int .i64 (q : Int), .int .i64 0] 27) = w2 at *
  obtain ⟨P, hP⟩ : ∃ P, P = w1.heap.size := ⟨_, rfl⟩
  rw [← hP] at M2 hz2 ⊢
  have hPw : w.heap.size + 1 < P := by omega
  have hPb : b < P := by omega
  have hP2 : P < w2.heap.size := by omega
  have hw2 : w.heap.size + 1 < w2.heap.size := by omega
  clear hP hz0 hz1 hz2 R1 K1 G1 C1
  by_cases hq0 : 0 < q
  · have t0 : decide ((0 : Int) < (q : Int)) = true := by simp; omega
    obtain ⟨m0, m1⟩ := blk_cell2 M2.out
    have rr := R2.out
    have r3 := cell_of_row w2 w.heap.size 3 _ _ _ rr
    simp at r3
    clear rr
    obtain ⟨mx, hmx, hm1⟩ : ∃ mx : Int, mx = imaxD 1 r.d ∧ 1 ≤ mx ∧ mx ≤ 11 := ⟨_, rfl, by unfold imaxD; split <;> omega, by unfold imaxD; split <;> omega⟩
    have HMX := Lib.hid (fun W => l1MostD 1 r.d W)
    rw [← hmx] at HMX
    clear hmx
    go_wp2_with fail
    refine (HMX.out _).mono ?_
    rintro e w3 ⟨rfl, hw3⟩
    subst hw3
    go_wp2_with fail
    refine (pick_any B b (k + 2) mx w2 C2.out (by omega) (by omega) (by omega)).mono ?_
    rintro e w3 ⟨c, rfl, hcc, hc, hg⟩
    have M3 := Lib.hid (keepD hg (show P ≠ b by omega) M2.out)
    have K3 := Lib.hid (keepD hg (show w.heap.size + 1 ≠ b by omega) K2.out)
    have G3 := Lib.hid (grown_trans G2.out hg)
    have C3 := Lib.hid hc
    have hz3 := hg.size
    clear hc hg m0 m1 r3 K2 G2 C2 R2
    have Mw4 : Hid ((w3.setCell ⟨P, 1, none⟩ (.int .i64 (c : Int))).heap[P]? = some (.cells #[.int .i64 (q : Int), .int .i64 (c : Int)] 27 (0, 0))) := Lib.hid (by simpa using blk_put (i := 1) (v := .int .i64 (c : Int)) M3.out)
    have Kw4 : Hid ((w3.setCell ⟨P, 1, none⟩ (.int .i64 (c : Int))).heap[w.heap.size + 1]? = some (.cells #[.int .i64 0, .int .i64 0] 27 (0, 0))) := Lib.hid ((blk_by (by omega)).trans K3.out)
    have Gw4 := Lib.hid (grown_past G3.out (grown_setCell w3 P 1 (.int .i64 (c : Int))) (by omega))
    have Cw4 := Lib.hid (C3.out.grown (grown_setCell w3 P 1 (.int .i64 (c : Int))) (fun j hj => by cases hj; omega))
    obtain ⟨m0, m1⟩ := blk_cell2 M3.out
    obtain ⟨n0, n1⟩ := blk_froz2 M3.out
    have hlP3 := blk_lt M3.out
    have hsz4 : w2.heap.size ≤ (w3.setCell ⟨P, 1, none⟩ (.int .i64 (c : Int))).heap.size := by simp; omega
    go_upto_region 4 with fail
    generalize w3.setCell ⟨P, 1, none⟩ (.int .i64 (c : Int)) = w4 at *
    clear m0 m1 n0 n1 M3 K3 G3 C3 M2
    go_wp2_with fail
    refine (one_any B b (k + 2 + 2) 24 w4 Cw4.out (by omega) (by omega) (by omega)).mono ?_
    rintro e w4o ⟨u, rfl, hc, hg⟩
    have Mw4o := Lib.hid (keepD hg (show P ≠ b by omega) Mw4.out)
    have Kw4o := Lib.hid (keepD hg (show w.heap.size + 1 ≠ b by omega) Kw4.out)
    have Gw4o := Lib.hid (grown_trans Gw4.out hg)
    have Cw4o := Lib.hid hc
    have hzw4o := hg.size
    clear hc hg
    cases u with
    | false =>
      obtain ⟨a0, a1⟩ := blk_cell2 Mw4o.out
      obtain ⟨c0, c1⟩ := blk_cell2 Kw4o.out
      obtain ⟨d0, d1⟩ := blk_froz2 Kw4o.out
      obtain ⟨z0, z1⟩ := blk_cell2 (blk_all2 (x := .int .i64 ((q : Int))) (y := .int .i64 ((c : Int))) Kw4o.out)
      have Z0 := Lib.hid z0
      have Z1 := Lib.hid z1
      clear z0 z1
      have GG := Lib.hid (grown_allD w4o (w.heap.size + 1) (.int .i64 ((q : Int))) (.int .i64 ((c : Int))))
      go_wp2
      refine bodyPost_ret (v := .agg #[.int .i64 ((q : Int)), .int .i64 ((c : Int))]) (by simp [results, Try.results52, go_sem, Z0.out, Z1.out]) rfl ⟨⟨(q : Int), (c : Int)⟩, rfl, (Cw4o.out.grown GG.out (fun j hj => by cases hj; omega)).mono (by omega), grown_past Gw4o.out GG.out (by omega)⟩
    | true =>
      go_wp2_with fail
      refine (among_any B b (k + 2 + 2 + 2) w4o.heap.size 3 3 [-1, 0, 3] _ (Cw4o.out.alloc _) (by omega) rfl (by omega) (by omega) (by omega) (num_cells w4o 3 [-1, 0, 3] _ rfl)).mono ?_
      rintro e w4oa ⟨x, hx, rfl, hc, hg⟩
      have Mw4oa := Lib.hid (keepD hg (show P ≠ b by omega) (old_allocD (o' := .cells #[.int .i64 (-1), .int .i64 0, .int .i64 3] 3) Mw4o.out))
      have Kw4oa := Lib.hid (keepD hg (show w.heap.size + 1 ≠ b by omega) (old_allocD (o' := .cells #[.int .i64 (-1), .int .i64 0, .int .i64 3] 3) Kw4o.out))
      have Gw4oa := Lib.hid (grown_trans (grown_trans Gw4o.out (World.grownBy_alloc _ (.cells #[.int .i64 (-1), .int .i64 0, .int .i64 3] 3) (some b))) hg)
      have Cw4oa := Lib.hid hc
      have hzw4oa := hg.size
      simp at hzw4oa
      clear hc hg hx
      go_wp2_with fail
      refine (among_any B b (k + 2 + 2 + 2 + 2) w4oa.heap.size 3 3 [-1, 1, 10] _ (Cw4oa.out.alloc _) (by omega) rfl (by omega) (by omega) (by omega) (num_cells w4oa 3 [-1, 1, 10] _ rfl)).mono ?_
      rintro e w4oaa ⟨y, hx, rfl, hc, hg⟩
      have Mw4oaa := Lib.hid (keepD hg (show P ≠ b by omega) (old_allocD (o' := .cells #[.int .i64 (-1), .int .i64 1, .int .i64 10] 3) Mw4oa.out))
      have Kw4oaa := Lib.hid (keepD hg (show w.heap.size + 1 ≠ b by omega) (old_allocD (o' := .cells #[.int .i64 (-1), .int .i64 1, .int .i64 10] 3) Kw4oa.out))
      have Gw4oaa := Lib.hid (grown_trans (grown_trans Gw4oa.out (World.grownBy_alloc _ (.cells #[.int .i64 (-1), .int .i64 1, .int .i64 10] 3) (some b))) hg)
      have Cw4oaa := Lib.hid hc
      have hzw4oaa := hg.size
      simp at hzw4oaa
      clear hc hg hx
      have M9 : Hid (((w4oaa.setCell ⟨P, 0, none⟩ (.int .i64 x)).setCell ⟨P, 1, none⟩ (.int .i64 y)).heap[P]? = some (.cells #[.int .i64 x, .int .i64 y] 27 (0, 0))) := Lib.hid (blk_all2 Mw4oaa.out)
      have K9 : Hid (((w4oaa.setCell ⟨P, 0, none⟩ (.int .i64 x)).setCell ⟨P, 1, none⟩ (.int .i64 y)).heap[w.heap.size + 1]? = some (.cells #[.int .i64 0, .int .i64 0] 27 (0, 0))) := Lib.hid ((blk_other2 (by omega)).trans Kw4oaa.out)
      have GP := Lib.hid (grown_allD w4oaa P (.int .i64 x) (.int .i64 y))
      have G9 := Lib.hid (grown_past Gw4oaa.out GP.out (by omega))
      have C9 := Lib.hid (Cw4oaa.out.grown GP.out (fun j hj => by cases hj; omega))
      obtain ⟨a0, a1⟩ := blk_cell2 Mw4oaa.out
      obtain ⟨c0, c1⟩ := blk_froz2 Mw4oaa.out
      have hlP := blk_lt Mw4oaa.out
      go_upto_region 6 with fail
      generalize ((w4oaa.setCell ⟨P, 0, none⟩ (.int .i64 x)).setCell ⟨P, 1, none⟩ (.int .i64 y)) = w9 at *
      clear a0 a1 c0 c1
      obtain ⟨a0, a1⟩ := blk_cell2 M9.out
      obtain ⟨c0, c1⟩ := blk_cell2 K9.out
      obtain ⟨d0, d1⟩ := blk_froz2 K9.out
      obtain ⟨z0, z1⟩ := blk_cell2 (blk_all2 (x := .int .i64 (x)) (y := .int .i64 (y)) K9.out)
      have Z0 := Lib.hid z0
      have Z1 := Lib.hid z1
      clear z0 z1
      have GG := Lib.hid (grown_allD w9 (w.heap.size + 1) (.int .i64 (x)) (.int .i64 (y)))
      go_wp2
      refine bodyPost_ret (v := .agg #[.int .i64 (x), .int .i64 (y)]) (by simp [results, Try.results52, go_sem, Z0.out, Z1.out]) rfl ⟨⟨x, y⟩, rfl, (C9.out.grown GG.out (fun j hj => by cases hj; omega)).mono (by omega), grown_past G9.out GG.out (by omega)⟩
  · have t0 : decide ((0 : Int) < (q : Int)) = false := by simp; omega
    obtain ⟨m0, m1⟩ := blk_cell2 M2.out
    go_upto_region 4 with fail
    clear m0 m1
    have Mw2 := M2
    have Kw2 := K2
    have Gw2 := G2
    have Cw2 := C2
    go_wp2_with fail
    refine (one_any B b (k + 2) 24 w2 Cw2.out (by omega) (by omega) (by omega)).mono ?_
    rintro e w2o ⟨u, rfl, hc, hg⟩
    have Mw2o := Lib.hid (keepD hg (show P ≠ b by omega) Mw2.out)
    have Kw2o := Lib.hid (keepD hg (show w.heap.size + 1 ≠ b by omega) Kw2.out)
    have Gw2o := Lib.hid (grown_trans Gw2.out hg)
    have Cw2o := Lib.hid hc
    have hzw2o := hg.size
    clear hc hg
    cases u with
    | false =>
      obtain ⟨a0, a1⟩ := blk_cell2 Mw2o.out
      obtain ⟨c0, c1⟩ := blk_cell2 Kw2o.out
      obtain ⟨d0, d1⟩ := blk_froz2 Kw2o.out
      obtain ⟨z0, z1⟩ := blk_cell2 (blk_all2 (x := .int .i64 ((q : Int))) (y := .int .i64 (0)) Kw2o.out)
      have Z0 := Lib.hid z0
      have Z1 := Lib.hid z1
      clear z0 z1
      have GG := Lib.hid (grown_allD w2o (w.heap.size + 1) (.int .i64 ((q : Int))) (.int .i64 (0)))
      go_wp2
      refine bodyPost_ret (v := .agg #[.int .i64 ((q : Int)), .int .i64 (0)]) (by simp [results, Try.results52, go_sem, Z0.out, Z1.out]) rfl ⟨⟨(q : Int), 0⟩, rfl, (Cw2o.out.grown GG.out (fun j hj => by cases hj; omega)).mono (by omega), grown_past Gw2o.out GG.out (by omega)⟩
    | true =>
      go_wp2_with fail
      refine (among_any B b (k + 2 + 2) w2o.heap.size 3 3 [-1, 0, 3] _ (Cw2o.out.alloc _) (by omega) rfl (by omega) (by omega) (by omega) (num_cells w2o 3 [-1, 0, 3] _ rfl)).mono ?_
      rintro e w2oa ⟨x, hx, rfl, hc, hg⟩
      have Mw2oa := Lib.hid (keepD hg (show P ≠ b by omega) (old_allocD (o' := .cells #[.int .i64 (-1), .int .i64 0, .int .i64 3] 3) Mw2o.out))
      have Kw2oa := Lib.hid (keepD hg (show w.heap.size + 1 ≠ b by omega) (old_allocD (o' := .cells #[.int .i64 (-1), .int .i64 0, .int .i64 3] 3) Kw2o.out))
      have Gw2oa := Lib.hid (grown_trans (grown_trans Gw2o.out (World.grownBy_alloc _ (.cells #[.int .i64 (-1), .int .i64 0, .int .i64 3] 3) (some b))) hg)
      have Cw2oa := Lib.hid hc
      have hzw2oa := hg.size
      simp at hzw2oa
      clear hc hg hx
      go_wp2_with fail
      refine (among_any B b (k + 2 + 2 + 2) w2oa.heap.size 3 3 [-1, 1, 10] _ (Cw2oa.out.alloc _) (by omega) rfl (by omega) (by omega) (by omega) (num_cells w2oa 3 [-1, 1, 10] _ rfl)).mono ?_
      rintro e w2oaa ⟨y, hx, rfl, hc, hg⟩
      have Mw2oaa := Lib.hid (keepD hg (show P ≠ b by omega) (old_allocD (o' := .cells #[.int .i64 (-1), .int .i64 1, .int .i64 10] 3) Mw2oa.out))
      have Kw2oaa := Lib.hid (keepD hg (show w.heap.size + 1 ≠ b by omega) (old_allocD (o' := .cells #[.int .i64 (-1), .int .i64 1, .int .i64 10] 3) Kw2oa.out))
      have Gw2oaa := Lib.hid (grown_trans (grown_trans Gw2oa.out (World.grownBy_alloc _ (.cells #[.int .i64 (-1), .int .i64 1, .int .i64 10] 3) (some b))) hg)
      have Cw2oaa := Lib.hid hc
      have hzw2oaa := hg.size
      simp at hzw2oaa
      clear hc hg hx
      have M9 : Hid (((w2oaa.setCell ⟨P, 0, none⟩ (.int .i64 x)).setCell ⟨P, 1, none⟩ (.int .i64 y)).heap[P]? = some (.cells #[.int .i64 x, .int .i64 y] 27 (0, 0))) := Lib.hid (blk_all2 Mw2oaa.out)
      have K9 : Hid (((w2oaa.setCell ⟨P, 0, none⟩ (.int .i64 x)).setCell ⟨P, 1, none⟩ (.int .i64 y)).heap[w.heap.size + 1]? = some (.cells #[.int .i64 0, .int .i64 0] 27 (0, 0))) := Lib.hid ((blk_other2 (by omega)).trans Kw2oaa.out)
      have GP := Lib.hid (grown_allD w2oaa P (.int .i64 x) (.int .i64 y))
      have G9 := Lib.hid (grown_past Gw2oaa.out GP.out (by omega))
      have C9 := Lib.hid (Cw2oaa.out.grown GP.out (fun j hj => by cases hj; omega))
      obtain ⟨a0, a1⟩ := blk_cell2 Mw2oaa.out
      obtain ⟨c0, c1⟩ := blk_froz2 Mw2oaa.out
      have hlP := blk_lt Mw2oaa.out
      go_upto_region 6 with fail
      generalize ((w2oaa.setCell ⟨P, 0, none⟩ (.int .i64 x)).setCell ⟨P, 1, none⟩ (.int .i64 y)) = w9 at *
      clear a0 a1 c0 c1
      obtain ⟨a0, a1⟩ := blk_cell2 M9.out
      obtain ⟨c0, c1⟩ := blk_cell2 K9.out
      obtain ⟨d0, d1⟩ := blk_froz2 K9.out
      obtain ⟨z0, z1⟩ := blk_cell2 (blk_all2 (x := .int .i64 (x)) (y := .int .i64 (y)) K9.out)
      have Z0 := Lib.hid z0
      have Z1 := Lib.hid z1
      clear z0 z1
      have GG := Lib.hid (grown_allD w9 (w.heap.size + 1) (.int .i64 (x)) (.int .i64 (y)))
      go_wp2
      refine bodyPost_ret (v := .agg #[.int .i64 (x), .int .i64 (y)]) (by simp [results, Try.results52, go_sem, Z0.out, Z1.out]) rfl ⟨⟨x, y⟩, rfl, (C9.out.grown GG.out (fun j hj => by cases hj; omega)).mono (by omega), grown_past G9.out GG.out (by omega)⟩
end Go.Proofs.Ytoamhbobcpljpaa
