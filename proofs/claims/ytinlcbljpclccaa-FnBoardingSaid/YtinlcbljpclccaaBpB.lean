/- The program's steps. Condition: sizes. -/
import Derived.Test.YtinlcbljpclccaaBpA
import Derived.Test.YtinlcbljpclccaaBoF
import Derived.Deep.DeepCutAuto
namespace Go.Proofs.Ytinlcbljpclccaa
open Go.RowKit
set_option linter.unusedVariables false
theorem ret_p {a c : Plt} (h : a = c) : Ending.returned (.agg #[.int .i64 a.d, .int .i64 a.s, .int .i64 a.i, .int .i64 a.w, .bool a.l, .int .i64 a.g]) = .returned (.agg #[.int .i64 c.d, .int .i64 c.s, .int .i64 c.i, .int .i64 c.w, .bool c.l, .int .i64 c.g]) := by rw [h]
set_option maxRecDepth 100000 in
set_option maxHeartbeats 8000000 in
theorem platformBehind_c (p : Plt) (e : Bev) (w : World) (h : plV p = true) (hv : evV e = true) :
    Calls Try.prog 53 #[.agg #[.int .i64 p.d, .int .i64 p.s, .int .i64 p.i, .int .i64 p.w, .bool p.l, .int .i64 p.g], .agg #[.string e.k, .int .i64 e.c]] w fun x w' => x = .returned (.agg #[.int .i64 (stP p (kd e.k) e.c).d, .int .i64 (stP p (kd e.k) e.c).s, .int .i64 (stP p (kd e.k) e.c).i, .int .i64 (stP p (kd e.k) e.c).w, .bool (stP p (kd e.k) e.c).l, .int .i64 (stP p (kd e.k) e.c).g]) ∧ Below w.heap.size w w' := by
  have hp := Lib.hid ((plV_iff p).1 h)
  have hvr := Lib.hid (evV_bd hv)
  clear h hv
  have J0 := Lib.hid (tri_1 w (.cells #[.int .i64 p.d, .int .i64 p.s, .int .i64 p.i, .int .i64 p.w, .bool p.l, .int .i64 p.g] 25) (.cells #[.string e.k, .int .i64 e.c] 35) (.cells #[.int .i64 0, .int .i64 0, .int .i64 0, .int .i64 0, .bool false, .int .i64 0] 25))
  have M0 := Lib.hid (tri_2 w (.cells #[.int .i64 p.d, .int .i64 p.s, .int .i64 p.i, .int .i64 p.w, .bool p.l, .int .i64 p.g] 25) (.cells #[.string e.k, .int .i64 e.c] 35) (.cells #[.int .i64 0, .int .i64 0, .int .i64 0, .int .i64 0, .bool false, .int .i64 0] 25))
  have K0 := Lib.hid (tri_3 w (.cells #[.int .i64 p.d, .int .i64 p.s, .int .i64 p.i, .int .i64 p.w, .bool p.l, .int .i64 p.g] 25) (.cells #[.string e.k, .int .i64 e.c] 35) (.cells #[.int .i64 0, .int .i64 0, .int .i64 0, .int .i64 0, .bool false, .int .i64 0] 25))
  have HT0 := Lib.hid (tri_below w (.cells #[.int .i64 p.d, .int .i64 p.s, .int .i64 p.i, .int .i64 p.w, .bool p.l, .int .i64 p.g] 25) (.cells #[.string e.k, .int .i64 e.c] 35) (.cells #[.int .i64 0, .int .i64 0, .int .i64 0, .int .i64 0, .bool false, .int .i64 0] 25))
  have hs0 : (((w.alloc (.cells #[.int .i64 p.d, .int .i64 p.s, .int .i64 p.i, .int .i64 p.w, .bool p.l, .int .i64 p.g] 25)).alloc (.cells #[.string e.k, .int .i64 e.c] 35)).alloc (.cells #[.int .i64 0, .int .i64 0, .int .i64 0, .int .i64 0, .bool false, .int .i64 0] 25)).heap.size = w.heap.size + 3 := by simp
  have HAY : Hid (stP p (kd e.k) e.c = stP p (kd e.k) e.c) := Lib.hid rfl
  obtain ⟨k, c⟩ := e
  simp only [] at *
  have hkd := hvr.out.2.2
  have hc0 := hvr.out.1
  have hc1 := hvr.out.2.1
  obtain ⟨hp0, hp1, hp2, hp3, hp4, hp5⟩ := hp.out
  rcases kd_cases k with rfl | rfl | rfl | rfl | rfl | rfl | rfl | rfl | ⟨a0, a1, a2, a3, a4, a5, a6, a7⟩
  · have HX : Hid (stP p (kd kCome) c = { p with s := c }) := Lib.hid (by rw [kd_0]; rfl)
    generalize hA : stP p (kd kCome) c = A at *
    clear hA HAY
    clear hkd hc0 hc1 hp0 hp1 hp2 hp3 hp4 hp5
    go_enter Try.func53, Try.ntmps53
    go_upto_region 1 with fail
    generalize (((w.alloc (.cells #[.int .i64 p.d, .int .i64 p.s, .int .i64 p.i, .int .i64 p.w, .bool p.l, .int .i64 p.g] 25)).alloc (.cells #[.string kCome, .int .i64 c] 35)).alloc (.cells #[.int .i64 0, .int .i64 0, .int .i64 0, .int .i64 0, .bool false, .int .i64 0] 25)) = W0 at *
    obtain ⟨c0, c1, c2, c3, c4, c5⟩ := blk_cell6 J0.out
    obtain ⟨m0, m1, m2, m3, m4, m5⟩ := blk_froz6 J0.out
    obtain ⟨d0, d1⟩ := blk_cell2 M0.out
    have J3 := blk_put6_1 (x := .int .i64 c) (J0.out)
    have K3 := (blk_by (w := W0) (i := 1) (v := .int .i64 c) (show w.heap.size ≠ w.heap.size + 2 by omega)).trans K0.out
    have M3 := (blk_by (w := W0) (i := 1) (v := .int .i64 c) (show w.heap.size ≠ w.heap.size + 1 by omega)).trans M0.out
    obtain ⟨fa0, fa1, fa2, fa3, fa4, fa5⟩ := blk_cell6 J3
    obtain ⟨ga0, ga1, ga2, ga3, ga4, ga5⟩ := blk_froz6 J3
    obtain ⟨ea0, ea1⟩ := blk_cell2 M3
    obtain ⟨n0, n1, n2, n3, n4, n5⟩ := blk_froz6 K3
    obtain ⟨q0, q1, q2, q3, q4, q5⟩ := blk_cell6 K3
    obtain ⟨z0, z1, z2, z3, z4, z5⟩ := blk_cell6 (blk_all6 (x0 := .int .i64 p.d) (x1 := .int .i64 c) (x2 := .int .i64 p.i) (x3 := .int .i64 p.w) (x4 := .bool p.l) (x5 := .int .i64 p.g) K3)
    have Z0 := Lib.hid z0
    have Z1 := Lib.hid z1
    have Z2 := Lib.hid z2
    have Z3 := Lib.hid z3
    have Z4 := Lib.hid z4
    have Z5 := Lib.hid z5
    have TF := Lib.hid (HT0.out.setCell (p := ⟨w.heap.size, 1, none⟩) (Nat.le_refl _) (.int .i64 c))
    clear z0 z1 z2 z3 z4 z5 J3 K3 M3
    go_wp2
    refine bodyPost_ret (v := .agg #[.int .i64 p.d, .int .i64 c, .int .i64 p.i, .int .i64 p.w, .bool p.l, .int .i64 p.g]) (by simp [results, Try.results53, go_sem, Z0.out, Z1.out, Z2.out, Z3.out, Z4.out, Z5.out]) rfl ⟨ret_p (a := { p with s := c }) HX.out.symm, ?_⟩
    exact below_all6 TF.out (by omega) _ _ _ _ _ _
  · have HX : Hid (stP p (kd kOpen) c = { p with d := 1 }) := Lib.hid (by rw [kd_1]; rfl)
    generalize hA : stP p (kd kOpen) c = A at *
    clear hA HAY
    clear hkd hc0 hc1 hp0 hp1 hp2 hp3 hp4 hp5
    go_enter Try.func53, Try.ntmps53
    go_upto_region 1 with fail
    generalize (((w.alloc (.cells #[.int .i64 p.d, .int .i64 p.s, .int .i64 p.i, .int .i64 p.w, .bool p.l, .int .i64 p.g] 25)).alloc (.cells #[.string kOpen, .int .i64 c] 35)).alloc (.cells #[.int .i64 0, .int .i64 0, .int .i64 0, .int .i64 0, .bool false, .int .i64 0] 25)) = W0 at *
    obtain ⟨c0, c1, c2, c3, c4, c5⟩ := blk_cell6 J0.out
    obtain ⟨m0, m1, m2, m3, m4, m5⟩ := blk_froz6 J0.out
    obtain ⟨d0, d1⟩ := blk_cell2 M0.out
    have J3 := blk_put6_0 (x := .int .i64 1) (J0.out)
    have K3 := (blk_by (w := W0) (i := 0) (v := .int .i64 1) (show w.heap.size ≠ w.heap.size + 2 by omega)).trans K0.out
    have M3 := (blk_by (w := W0) (i := 0) (v := .int .i64 1) (show w.heap.size ≠ w.heap.size + 1 by omega)).trans M0.out
    obtain ⟨fa0, fa1, fa2, fa3, fa4, fa5⟩ := blk_cell6 J3
    obtain ⟨ga0, ga1, ga2, ga3, ga4, ga5⟩ := blk_froz6 J3
    obtain ⟨ea0, ea1⟩ := blk_cell2 M3
    obtain ⟨n0, n1, n2, n3, n4, n5⟩ := blk_froz6 K3
    obtain ⟨q0, q1, q2, q3, q4, q5⟩ := blk_cell6 K3
    obtain ⟨z0, z1, z2, z3, z4, z5⟩ := blk_cell6 (blk_all6 (x0 := .int .i64 1) (x1 := .int .i64 p.s) (x2 := .int .i64 p.i) (x3 := .int .i64 p.w) (x4 := .bool p.l) (x5 := .int .i64 p.g) K3)
    have Z0 := Lib.hid z0
    have Z1 := Lib.hid z1
    have Z2 := Lib.hid z2
    have Z3 := Lib.hid z3
    have Z4 := Lib.hid z4
    have Z5 := Lib.hid z5
    have TF := Lib.hid (HT0.out.setCell (p := ⟨w.heap.size, 0, none⟩) (Nat.le_refl _) (.int .i64 1))
    clear z0 z1 z2 z3 z4 z5 J3 K3 M3
    go_wp2
    refine bodyPost_ret (v := .agg #[.int .i64 1, .int .i64 p.s, .int .i64 p.i, .int .i64 p.w, .bool p.l, .int .i64 p.g]) (by simp [results, Try.results53, go_sem, Z0.out, Z1.out, Z2.out, Z3.out, Z4.out, Z5.out]) rfl ⟨ret_p (a := { p with d := 1 }) HX.out.symm, ?_⟩
    exact below_all6 TF.out (by omega) _ _ _ _ _ _
  · have HX : Hid (stP p (kd kShut) c = { p with d := 0 }) := Lib.hid (by rw [kd_2]; rfl)
    generalize hA : stP p (kd kShut) c = A at *
    clear hA HAY
    clear hkd hc0 hc1 hp0 hp1 hp2 hp3 hp4 hp5
    go_enter Try.func53, Try.ntmps53
    go_upto_region 1 with fail
    generalize (((w.alloc (.cells #[.int .i64 p.d, .int .i64 p.s, .int .i64 p.i, .int .i64 p.w, .bool p.l, .int .i64 p.g] 25)).alloc (.cells #[.string kShut, .int .i64 c] 35)).alloc (.cells #[.int .i64 0, .int .i64 0, .int .i64 0, .int .i64 0, .bool false, .int .i64 0] 25)) = W0 at *
    obtain ⟨c0, c1, c2, c3, c4, c5⟩ := blk_cell6 J0.out
    obtain ⟨m0, m1, m2, m3, m4, m5⟩ := blk_froz6 J0.out
    obtain ⟨d0, d1⟩ := blk_cell2 M0.out
    have J3 := blk_put6_0 (x := .int .i64 0) (J0.out)
    have K3 := (blk_by (w := W0) (i := 0) (v := .int .i64 0) (show w.heap.size ≠ w.heap.size + 2 by omega)).trans K0.out
    have M3 := (blk_by (w := W0) (i := 0) (v := .int .i64 0) (show w.heap.size ≠ w.heap.size + 1 by omega)).trans M0.out
    obtain ⟨fa0, fa1, fa2, fa3, fa4, fa5⟩ := blk_cell6 J3
    obtain ⟨ga0, ga1, ga2, ga3, ga4, ga5⟩ := blk_froz6 J3
    obtain ⟨ea0, ea1⟩ := blk_cell2 M3
    obtain ⟨n0, n1, n2, n3, n4, n5⟩ := blk_froz6 K3
    obtain ⟨q0, q1, q2, q3, q4, q5⟩ := blk_cell6 K3
    obtain ⟨z0, z1, z2, z3, z4, z5⟩ := blk_cell6 (blk_all6 (x0 := .int .i64 0) (x1 := .int .i64 p.s) (x2 := .int .i64 p.i) (x3 := .int .i64 p.w) (x4 := .bool p.l) (x5 := .int .i64 p.g) K3)
    have Z0 := Lib.hid z0
    have Z1 := Lib.hid z1
    have Z2 := Lib.hid z2
    have Z3 := Lib.hid z3
    have Z4 := Lib.hid z4
    have Z5 := Lib.hid z5
    have TF := Lib.hid (HT0.out.setCell (p := ⟨w.heap.size, 0, none⟩) (Nat.le_refl _) (.int .i64 0))
    clear z0 z1 z2 z3 z4 z5 J3 K3 M3
    go_wp2
    refine bodyPost_ret (v := .agg #[.int .i64 0, .int .i64 p.s, .int .i64 p.i, .int .i64 p.w, .bool p.l, .int .i64 p.g]) (by simp [results, Try.results53, go_sem, Z0.out, Z1.out, Z2.out, Z3.out, Z4.out, Z5.out]) rfl ⟨ret_p (a := { p with d := 0 }) HX.out.symm, ?_⟩
    exact below_all6 TF.out (by omega) _ _ _ _ _ _
  · have HX : Hid (stP p (kd kEnter) c = { p with i := p.i + c, w := p.w - c, l := false }) := Lib.hid (by rw [kd_3]; rfl)
    generalize hA : stP p (kd kEnter) c = A at *
    clear hA HAY
    have w3_ : IntKind.i64.wrap (p.w - c) = (p.w - c) := IntWalk.i64_in _ (by omega)
    have w2_ : IntKind.i64.wrap (p.i + c) = (p.i + c) := IntWalk.i64_in _ (by omega)
    clear hkd hc0 hc1 hp0 hp1 hp2 hp3 hp4 hp5
    go_enter Try.func53, Try.ntmps53
    go_upto_region 1 with fail
    generalize (((w.alloc (.cells #[.int .i64 p.d, .int .i64 p.s, .int .i64 p.i, .int .i64 p.w, .bool p.l, .int .i64 p.g] 25)).alloc (.cells #[.string kEnter, .int .i64 c] 35)).alloc (.cells #[.int .i64 0, .int .i64 0, .int .i64 0, .int .i64 0, .bool false, .int .i64 0] 25)) = W0 at *
    obtain ⟨c0, c1, c2, c3, c4, c5⟩ := blk_cell6 J0.out
    obtain ⟨m0, m1, m2, m3, m4, m5⟩ := blk_froz6 J0.out
    obtain ⟨d0, d1⟩ := blk_cell2 M0.out
    have J3 := blk_put6_3 (x := .int .i64 (p.w - c)) (J0.out)
    have K3 := (blk_by (w := W0) (i := 3) (v := .int .i64 (p.w - c)) (show w.heap.size ≠ w.heap.size + 2 by omega)).trans K0.out
    have M3 := (blk_by (w := W0) (i := 3) (v := .int .i64 (p.w - c)) (show w.heap.size ≠ w.heap.size + 1 by omega)).trans M0.out
    obtain ⟨fa0, fa1, fa2, fa3, fa4, fa5⟩ := blk_cell6 J3
    obtain ⟨ga0, ga1, ga2, ga3, ga4, ga5⟩ := blk_froz6 J3
    obtain ⟨ea0, ea1⟩ := blk_cell2 M3
    have J4 := blk_put6_2 (x := .int .i64 (p.i + c)) (J3)
    have K4 := (blk_by (w := (W0.setCell ⟨w.heap.size, 3, none⟩ (.int .i64 (p.w - c)))) (i := 2) (v := .int .i64 (p.i + c)) (show w.heap.size ≠ w.heap.size + 2 by omega)).trans K3
    have M4 := (blk_by (w := (W0.setCell ⟨w.heap.size, 3, none⟩ (.int .i64 (p.w - c)))) (i := 2) (v := .int .i64 (p.i + c)) (show w.heap.size ≠ w.heap.size + 1 by omega)).trans M3
    obtain ⟨fb0, fb1, fb2, fb3, fb4, fb5⟩ := blk_cell6 J4
    obtain ⟨gb0, gb1, gb2, gb3, gb4, gb5⟩ := blk_froz6 J4
    obtain ⟨eb0, eb1⟩ := blk_cell2 M4
    have J5 := blk_put6_4 (x := .bool false) (J4)
    have K5 := (blk_by (w := ((W0.setCell ⟨w.heap.size, 3, none⟩ (.int .i64 (p.w - c))).setCell ⟨w.heap.size, 2, none⟩ (.int .i64 (p.i + c)))) (i := 4) (v := .bool false) (show w.heap.size ≠ w.heap.size + 2 by omega)).trans K4
    have M5 := (blk_by (w := ((W0.setCell ⟨w.heap.size, 3, none⟩ (.int .i64 (p.w - c))).setCell ⟨w.heap.size, 2, none⟩ (.int .i64 (p.i + c)))) (i := 4) (v := .bool false) (show w.heap.size ≠ w.heap.size + 1 by omega)).trans M4
    obtain ⟨fc0, fc1, fc2, fc3, fc4, fc5⟩ := blk_cell6 J5
    obtain ⟨gc0, gc1, gc2, gc3, gc4, gc5⟩ := blk_froz6 J5
    obtain ⟨ec0, ec1⟩ := blk_cell2 M5
    obtain ⟨n0, n1, n2, n3, n4, n5⟩ := blk_froz6 K5
    obtain ⟨q0, q1, q2, q3, q4, q5⟩ := blk_cell6 K5
    obtain ⟨z0, z1, z2, z3, z4, z5⟩ := blk_cell6 (blk_all6 (x0 := .int .i64 p.d) (x1 := .int .i64 p.s) (x2 := .int .i64 (p.i + c)) (x3 := .int .i64 (p.w - c)) (x4 := .bool false) (x5 := .int .i64 p.g) K5)
    have Z0 := Lib.hid z0
    have Z1 := Lib.hid z1
    have Z2 := Lib.hid z2
    have Z3 := Lib.hid z3
    have Z4 := Lib.hid z4
    have Z5 := Lib.hid z5
    have TF := Lib.hid (((HT0.out.setCell (p := ⟨w.heap.size, 3, none⟩) (Nat.le_refl _) (.int .i64 (p.w - c))).setCell (p := ⟨w.heap.size, 2, none⟩) (Nat.le_refl _) (.int .i64 (p.i + c))).setCell (p := ⟨w.heap.size, 4, none⟩) (Nat.le_refl _) (.bool false))
    clear z0 z1 z2 z3 z4 z5 J3 K3 M3 J4 K4 M4 J5 K5 M5
    go_wp2
    refine bodyPost_ret (v := .agg #[.int .i64 p.d, .int .i64 p.s, .int .i64 (p.i + c), .int .i64 (p.w - c), .bool false, .int .i64 p.g]) (by simp [results, Try.results53, go_sem, Z0.out, Z1.out, Z2.out, Z3.out, Z4.out, Z5.out]) rfl ⟨ret_p (a := { p with i := p.i + c, w := p.w - c, l := false }) HX.out.symm, ?_⟩
    exact below_all6 TF.out (by omega) _ _ _ _ _ _
  · have HX : Hid (stP p (kd kLeave) c = { p with i := p.i - c }) := Lib.hid (by rw [kd_4]; rfl)
    generalize hA : stP p (kd kLeave) c = A at *
    clear hA HAY
    have w2_ : IntKind.i64.wrap (p.i - c) = (p.i - c) := IntWalk.i64_in _ (by omega)
    clear hkd hc0 hc1 hp0 hp1 hp2 hp3 hp4 hp5
    go_enter Try.func53, Try.ntmps53
    go_upto_region 1 with fail
    generalize (((w.alloc (.cells #[.int .i64 p.d, .int .i64 p.s, .int .i64 p.i, .int .i64 p.w, .bool p.l, .int .i64 p.g] 25)).alloc (.cells #[.string kLeave, .int .i64 c] 35)).alloc (.cells #[.int .i64 0, .int .i64 0, .int .i64 0, .int .i64 0, .bool false, .int .i64 0] 25)) = W0 at *
    obtain ⟨c0, c1, c2, c3, c4, c5⟩ := blk_cell6 J0.out
    obtain ⟨m0, m1, m2, m3, m4, m5⟩ := blk_froz6 J0.out
    obtain ⟨d0, d1⟩ := blk_cell2 M0.out
    have J3 := blk_put6_2 (x := .int .i64 (p.i - c)) (J0.out)
    have K3 := (blk_by (w := W0) (i := 2) (v := .int .i64 (p.i - c)) (show w.heap.size ≠ w.heap.size + 2 by omega)).trans K0.out
    have M3 := (blk_by (w := W0) (i := 2) (v := .int .i64 (p.i - c)) (show w.heap.size ≠ w.heap.size + 1 by omega)).trans M0.out
    obtain ⟨fa0, fa1, fa2, fa3, fa4, fa5⟩ := blk_cell6 J3
    obtain ⟨ga0, ga1, ga2, ga3, ga4, ga5⟩ := blk_froz6 J3
    obtain ⟨ea0, ea1⟩ := blk_cell2 M3
    obtain ⟨n0, n1, n2, n3, n4, n5⟩ := blk_froz6 K3
    obtain ⟨q0, q1, q2, q3, q4, q5⟩ := blk_cell6 K3
    obtain ⟨z0, z1, z2, z3, z4, z5⟩ := blk_cell6 (blk_all6 (x0 := .int .i64 p.d) (x1 := .int .i64 p.s) (x2 := .int .i64 (p.i - c)) (x3 := .int .i64 p.w) (x4 := .bool p.l) (x5 := .int .i64 p.g) K3)
    have Z0 := Lib.hid z0
    have Z1 := Lib.hid z1
    have Z2 := Lib.hid z2
    have Z3 := Lib.hid z3
    have Z4 := Lib.hid z4
    have Z5 := Lib.hid z5
    have TF := Lib.hid (HT0.out.setCell (p := ⟨w.heap.size, 2, none⟩) (Nat.le_refl _) (.int .i64 (p.i - c)))
    clear z0 z1 z2 z3 z4 z5 J3 K3 M3
    go_wp2
    refine bodyPost_ret (v := .agg #[.int .i64 p.d, .int .i64 p.s, .int .i64 (p.i - c), .int .i64 p.w, .bool p.l, .int .i64 p.g]) (by simp [results, Try.results53, go_sem, Z0.out, Z1.out, Z2.out, Z3.out, Z4.out, Z5.out]) rfl ⟨ret_p (a := { p with i := p.i - c }) HX.out.symm, ?_⟩
    exact below_all6 TF.out (by omega) _ _ _ _ _ _
  · have HX : Hid (stP p (kd kArrive) c = { p with w := p.w + c }) := Lib.hid (by rw [kd_5]; rfl)
    generalize hA : stP p (kd kArrive) c = A at *
    clear hA HAY
    have w3_ : IntKind.i64.wrap (p.w + c) = (p.w + c) := IntWalk.i64_in _ (by omega)
    clear hkd hc0 hc1 hp0 hp1 hp2 hp3 hp4 hp5
    go_enter Try.func53, Try.ntmps53
    go_upto_region 1 with fail
    generalize (((w.alloc (.cells #[.int .i64 p.d, .int .i64 p.s, .int .i64 p.i, .int .i64 p.w, .bool p.l, .int .i64 p.g] 25)).alloc (.cells #[.string kArrive, .int .i64 c] 35)).alloc (.cells #[.int .i64 0, .int .i64 0, .int .i64 0, .int .i64 0, .bool false, .int .i64 0] 25)) = W0 at *
    obtain ⟨c0, c1, c2, c3, c4, c5⟩ := blk_cell6 J0.out
    obtain ⟨m0, m1, m2, m3, m4, m5⟩ := blk_froz6 J0.out
    obtain ⟨d0, d1⟩ := blk_cell2 M0.out
    have J3 := blk_put6_3 (x := .int .i64 (p.w + c)) (J0.out)
    have K3 := (blk_by (w := W0) (i := 3) (v := .int .i64 (p.w + c)) (show w.heap.size ≠ w.heap.size + 2 by omega)).trans K0.out
    have M3 := (blk_by (w := W0) (i := 3) (v := .int .i64 (p.w + c)) (show w.heap.size ≠ w.heap.size + 1 by omega)).trans M0.out
    obtain ⟨fa0, fa1, fa2, fa3, fa4, fa5⟩ := blk_cell6 J3
    obtain ⟨ga0, ga1, ga2, ga3, ga4, ga5⟩ := blk_froz6 J3
    obtain ⟨ea0, ea1⟩ := blk_cell2 M3
    obtain ⟨n0, n1, n2, n3, n4, n5⟩ := blk_froz6 K3
    obtain ⟨q0, q1, q2, q3, q4, q5⟩ := blk_cell6 K3
    obtain ⟨z0, z1, z2, z3, z4, z5⟩ := blk_cell6 (blk_all6 (x0 := .int .i64 p.d) (x1 := .int .i64 p.s) (x2 := .int .i64 p.i) (x3 := .int .i64 (p.w + c)) (x4 := .bool p.l) (x5 := .int .i64 p.g) K3)
    have Z0 := Lib.hid z0
    have Z1 := Lib.hid z1
    have Z2 := Lib.hid z2
    have Z3 := Lib.hid z3
    have Z4 := Lib.hid z4
    have Z5 := Lib.hid z5
    have TF := Lib.hid (HT0.out.setCell (p := ⟨w.heap.size, 3, none⟩) (Nat.le_refl _) (.int .i64 (p.w + c)))
    clear z0 z1 z2 z3 z4 z5 J3 K3 M3
    go_wp2
    refine bodyPost_ret (v := .agg #[.int .i64 p.d, .int .i64 p.s, .int .i64 p.i, .int .i64 (p.w + c), .bool p.l, .int .i64 p.g]) (by simp [results, Try.results53, go_sem, Z0.out, Z1.out, Z2.out, Z3.out, Z4.out, Z5.out]) rfl ⟨ret_p (a := { p with w := p.w + c }) HX.out.symm, ?_⟩
    exact below_all6 TF.out (by omega) _ _ _ _ _ _
  · have HX : Hid (stP p (kd kLevel) c = { p with l := true }) := Lib.hid (by rw [kd_6]; rfl)
    generalize hA : stP p (kd kLevel) c = A at *
    clear hA HAY
    clear hkd hc0 hc1 hp0 hp1 hp2 hp3 hp4 hp5
    go_enter Try.func53, Try.ntmps53
    go_upto_region 1 with fail
    generalize (((w.alloc (.cells #[.int .i64 p.d, .int .i64 p.s, .int .i64 p.i, .int .i64 p.w, .bool p.l, .int .i64 p.g] 25)).alloc (.cells #[.string kLevel, .int .i64 c] 35)).alloc (.cells #[.int .i64 0, .int .i64 0, .int .i64 0, .int .i64 0, .bool false, .int .i64 0] 25)) = W0 at *
    obtain ⟨c0, c1, c2, c3, c4, c5⟩ := blk_cell6 J0.out
    obtain ⟨m0, m1, m2, m3, m4, m5⟩ := blk_froz6 J0.out
    obtain ⟨d0, d1⟩ := blk_cell2 M0.out
    have J3 := blk_put6_4 (x := .bool true) (J0.out)
    have K3 := (blk_by (w := W0) (i := 4) (v := .bool true) (show w.heap.size ≠ w.heap.size + 2 by omega)).trans K0.out
    have M3 := (blk_by (w := W0) (i := 4) (v := .bool true) (show w.heap.size ≠ w.heap.size + 1 by omega)).trans M0.out
    obtain ⟨fa0, fa1, fa2, fa3, fa4, fa5⟩ := blk_cell6 J3
    obtain ⟨ga0, ga1, ga2, ga3, ga4, ga5⟩ := blk_froz6 J3
    obtain ⟨ea0, ea1⟩ := blk_cell2 M3
    obtain ⟨n0, n1, n2, n3, n4, n5⟩ := blk_froz6 K3
    obtain ⟨q0, q1, q2, q3, q4, q5⟩ := blk_cell6 K3
    obtain ⟨z0, z1, z2, z3, z4, z5⟩ := blk_cell6 (blk_all6 (x0 := .int .i64 p.d) (x1 := .int .i64 p.s) (x2 := .int .i64 p.i) (x3 := .int .i64 p.w) (x4 := .bool true) (x5 := .int .i64 p.g) K3)
    have Z0 := Lib.hid z0
    have Z1 := Lib.hid z1
    have Z2 := Lib.hid z2
    have Z3 := Lib.hid z3
    have Z4 := Lib.hid z4
    have Z5 := Lib.hid z5
    have TF := Lib.hid (HT0.out.setCell (p := ⟨w.heap.size, 4, none⟩) (Nat.le_refl _) (.bool true))
    clear z0 z1 z2 z3 z4 z5 J3 K3 M3
    go_wp2
    refine bodyPost_ret (v := .agg #[.int .i64 p.d, .int .i64 p.s, .int .i64 p.i, .int .i64 p.w, .bool true, .int .i64 p.g]) (by simp [results, Try.results53, go_sem, Z0.out, Z1.out, Z2.out, Z3.out, Z4.out, Z5.out]) rfl ⟨ret_p (a := { p with l := true }) HX.out.symm, ?_⟩
    exact below_all6 TF.out (by omega) _ _ _ _ _ _
  · have HX : Hid (stP p (kd kGo) c = { p with s := 0, i := 0, g := p.g + 1 }) := Lib.hid (by rw [kd_7]; rfl)
    generalize hA : stP p (kd kGo) c = A at *
    clear hA HAY
    have w5_ : IntKind.i64.wrap (p.g + 1) = (p.g + 1) := IntWalk.i64_in _ (by omega)
    clear hkd hc0 hc1 hp0 hp1 hp2 hp3 hp4 hp5
    go_enter Try.func53, Try.ntmps53
    go_upto_region 1 with fail
    generalize (((w.alloc (.cells #[.int .i64 p.d, .int .i64 p.s, .int .i64 p.i, .int .i64 p.w, .bool p.l, .int .i64 p.g] 25)).alloc (.cells #[.string kGo, .int .i64 c] 35)).alloc (.cells #[.int .i64 0, .int .i64 0, .int .i64 0, .int .i64 0, .bool false, .int .i64 0] 25)) = W0 at *
    obtain ⟨c0, c1, c2, c3, c4, c5⟩ := blk_cell6 J0.out
    obtain ⟨m0, m1, m2, m3, m4, m5⟩ := blk_froz6 J0.out
    obtain ⟨d0, d1⟩ := blk_cell2 M0.out
    have J3 := blk_put6_1 (x := .int .i64 0) (J0.out)
    have K3 := (blk_by (w := W0) (i := 1) (v := .int .i64 0) (show w.heap.size ≠ w.heap.size + 2 by omega)).trans K0.out
    have M3 := (blk_by (w := W0) (i := 1) (v := .int .i64 0) (show w.heap.size ≠ w.heap.size + 1 by omega)).trans M0.out
    obtain ⟨fa0, fa1, fa2, fa3, fa4, fa5⟩ := blk_cell6 J3
    obtain ⟨ga0, ga1, ga2, ga3, ga4, ga5⟩ := blk_froz6 J3
    obtain ⟨ea0, ea1⟩ := blk_cell2 M3
    have J4 := blk_put6_2 (x := .int .i64 0) (J3)
    have K4 := (blk_by (w := (W0.setCell ⟨w.heap.size, 1, none⟩ (.int .i64 0))) (i := 2) (v := .int .i64 0) (show w.heap.size ≠ w.heap.size + 2 by omega)).trans K3
    have M4 := (blk_by (w := (W0.setCell ⟨w.heap.size, 1, none⟩ (.int .i64 0))) (i := 2) (v := .int .i64 0) (show w.heap.size ≠ w.heap.size + 1 by omega)).trans M3
    obtain ⟨fb0, fb1, fb2, fb3, fb4, fb5⟩ := blk_cell6 J4
    obtain ⟨gb0, gb1, gb2, gb3, gb4, gb5⟩ := blk_froz6 J4
    obtain ⟨eb0, eb1⟩ := blk_cell2 M4
    have J5 := blk_put6_5 (x := .int .i64 (p.g + 1)) (J4)
    have K5 := (blk_by (w := ((W0.setCell ⟨w.heap.size, 1, none⟩ (.int .i64 0)).setCell ⟨w.heap.size, 2, none⟩ (.int .i64 0))) (i := 5) (v := .int .i64 (p.g + 1)) (show w.heap.size ≠ w.heap.size + 2 by omega)).trans K4
    have M5 := (blk_by (w := ((W0.setCell ⟨w.heap.size, 1, none⟩ (.int .i64 0)).setCell ⟨w.heap.size, 2, none⟩ (.int .i64 0))) (i := 5) (v := .int .i64 (p.g + 1)) (show w.heap.size ≠ w.heap.size + 1 by omega)).trans M4
    obtain ⟨fc0, fc1, fc2, fc3, fc4, fc5⟩ := blk_cell6 J5
    obtain ⟨gc0, gc1, gc2, gc3, gc4, gc5⟩ := blk_froz6 J5
    obtain ⟨ec0, ec1⟩ := blk_cell2 M5
    obtain ⟨n0, n1, n2, n3, n4, n5⟩ := blk_froz6 K5
    obtain ⟨q0, q1, q2, q3, q4, q5⟩ := blk_cell6 K5
    obtain ⟨z0, z1, z2, z3, z4, z5⟩ := blk_cell6 (blk_all6 (x0 := .int .i64 p.d) (x1 := .int .i64 0) (x2 := .int .i64 0) (x3 := .int .i64 p.w) (x4 := .bool p.l) (x5 := .int .i64 (p.g + 1)) K5)
    have Z0 := Lib.hid z0
    have Z1 := Lib.hid z1
    have Z2 := Lib.hid z2
    have Z3 := Lib.hid z3
    have Z4 := Lib.hid z4
    have Z5 := Lib.hid z5
    have TF := Lib.hid (((HT0.out.setCell (p := ⟨w.heap.size, 1, none⟩) (Nat.le_refl _) (.int .i64 0)).setCell (p := ⟨w.heap.size, 2, none⟩) (Nat.le_refl _) (.int .i64 0)).setCell (p := ⟨w.heap.size, 5, none⟩) (Nat.le_refl _) (.int .i64 (p.g + 1)))
    clear z0 z1 z2 z3 z4 z5 J3 K3 M3 J4 K4 M4 J5 K5 M5
    go_wp2
    refine bodyPost_ret (v := .agg #[.int .i64 p.d, .int .i64 0, .int .i64 0, .int .i64 p.w, .bool p.l, .int .i64 (p.g + 1)]) (by simp [results, Try.results53, go_sem, Z0.out, Z1.out, Z2.out, Z3.out, Z4.out, Z5.out]) rfl ⟨ret_p (a := { p with s := 0, i := 0, g := p.g + 1 }) HX.out.symm, ?_⟩
    exact below_all6 TF.out (by omega) _ _ _ _ _ _
  · have := kd_not a0 a1 a2 a3 a4 a5 a6 a7; omega
theorem sp_all (p : Plt) (e : Bev) : spOk p e = (plV p && (evV e && (alA p (kd e.k) e.c && plV (stP p (kd e.k) e.c)))) := by
  unfold spOk stOk
  cases h : plV p with
  | false => rfl
  | true => cases hv : evV e with
    | false => rfl
    | true => rw [al_can h hv]
set_option maxRecDepth 100000 in
set_option maxHeartbeats 4000000 in
theorem implStepPlatform_c (p : Plt) (e : Bev) (w : World) :
    Calls Try.prog 17 #[.agg #[.int .i64 p.d, .int .i64 p.s, .int .i64 p.i, .int .i64 p.w, .bool p.l, .int .i64 p.g], .agg #[.string e.k, .int .i64 e.c]] w fun x w' => x = .returned (.tuple #[.agg #[.int .i64 (spR p e).d, .int .i64 (spR p e).s, .int .i64 (spR p e).i, .int .i64 (spR p e).w, .bool (spR p e).l, .int .i64 (spR p e).g], .bool (spOk p e)]) ∧ Below w.heap.size w w' := by
  have HN := Lib.hid (sp_no (p := p) (e := e))
  have HY := Lib.hid (sp_yes (p := p) (e := e))
  have HD := Lib.hid (sp_all p e)
  have E0 := Lib.hid (fun W => implIsPlatform_c p W)
  have E1 := Lib.hid (fun W => implIsBoardEvent_c e W)
  have E2 := Lib.hid (fun (h : plV p = true) (hv : evV e = true) W => doesAllow_c p e.k e.c W h ⟨(evV_bd hv).1, (evV_bd hv).2.1⟩)
  have E3 := Lib.hid (fun (h : plV p = true) (hv : evV e = true) W => platformBehind_c p e W h hv)
  have E4 := Lib.hid (fun W => implIsPlatform_c (stP p (kd e.k) e.c) W)
  have J0 := Lib.hid (tri_1 w (.cells #[.int .i64 p.d, .int .i64 p.s, .int .i64 p.i, .int .i64 p.w, .bool p.l, .int .i64 p.g] 25) (.cells #[.string e.k, .int .i64 e.c] 35) (.cells #[.int .i64 0, .int .i64 0, .int .i64 0, .int .i64 0, .bool false, .int .i64 0] 25))
  have M0 := Lib.hid (tri_2 w (.cells #[.int .i64 p.d, .int .i64 p.s, .int .i64 p.i, .int .i64 p.w, .bool p.l, .int .i64 p.g] 25) (.cells #[.string e.k, .int .i64 e.c] 35) (.cells #[.int .i64 0, .int .i64 0, .int .i64 0, .int .i64 0, .bool false, .int .i64 0] 25))
  have K0 := Lib.hid (tri_3 w (.cells #[.int .i64 p.d, .int .i64 p.s, .int .i64 p.i, .int .i64 p.w, .bool p.l, .int .i64 p.g] 25) (.cells #[.string e.k, .int .i64 e.c] 35) (.cells #[.int .i64 0, .int .i64 0, .int .i64 0, .int .i64 0, .bool false, .int .i64 0] 25))
  have HT0 := Lib.hid (tri_below w (.cells #[.int .i64 p.d, .int .i64 p.s, .int .i64 p.i, .int .i64 p.w, .bool p.l, .int .i64 p.g] 25) (.cells #[.string e.k, .int .i64 e.c] 35) (.cells #[.int .i64 0, .int .i64 0, .int .i64 0, .int .i64 0, .bool false, .int .i64 0] 25))
  have hs0 : (((w.alloc (.cells #[.int .i64 p.d, .int .i64 p.s, .int .i64 p.i, .int .i64 p.w, .bool p.l, .int .i64 p.g] 25)).alloc (.cells #[.string e.k, .int .i64 e.c] 35)).alloc (.cells #[.int .i64 0, .int .i64 0, .int .i64 0, .int .i64 0, .bool false, .int .i64 0] 25)).heap.size = w.heap.size + 3 := by simp
  generalize spR p e = A at *
  generalize spOk p e = b at *
  generalize alA p (kd e.k) e.c = b3 at *
  generalize plV p = b1 at *
  generalize evV e = b2 at *
  generalize hS : stP p (kd e.k) e.c = S at *
  clear hS
  generalize plV S = b4 at *
  go_enter Try.func17, Try.ntmps17
  go_wp2_with fail
  generalize (((w.alloc (.cells #[.int .i64 p.d, .int .i64 p.s, .int .i64 p.i, .int .i64 p.w, .bool p.l, .int .i64 p.g] 25)).alloc (.cells #[.string e.k, .int .i64 e.c] 35)).alloc (.cells #[.int .i64 0, .int .i64 0, .int .i64 0, .int .i64 0, .bool false, .int .i64 0] 25)) = W0 at *
  refine (E0.out _).mono ?_
  rintro x w1 ⟨rfl, t⟩
  have T1 := Lib.hid (HT0.out.trans (t.mono (by omega)))
  have hz1 := t.size
  have J1 := Lib.hid (blk_keep J0.out t (by omega))
  have M1 := Lib.hid (blk_keep M0.out t (by omega))
  have K1 := Lib.hid (blk_keep K0.out t (by omega))
  clear t
  cases b1 with
  | false =>
    have hz := Lib.hid (HN.out (by rw [HD.out]; simp))
    have hy : Hid (b = false) := Lib.hid (by rw [HD.out]; simp)
    clear HN HY HD
    obtain ⟨p0, p1, p2, p3, p4, p5⟩ := blk_cell6 K1.out
    obtain ⟨m0, m1, m2, m3, m4, m5⟩ := blk_froz6 K1.out
    obtain ⟨z0, z1, z2, z3, z4, z5⟩ := blk_cell6 (blk_all6 (x0 := .int .i64 0) (x1 := .int .i64 0) (x2 := .int .i64 0) (x3 := .int .i64 0) (x4 := .bool false) (x5 := .int .i64 0) K1.out)
    have Z0 := Lib.hid z0
    have Z1 := Lib.hid z1
    have Z2 := Lib.hid z2
    have Z3 := Lib.hid z3
    have Z4 := Lib.hid z4
    have Z5 := Lib.hid z5
    clear z0 z1 z2 z3 z4 z5
    go_wp2
    refine bodyPost_ret (v := .tuple #[.agg #[.int .i64 0, .int .i64 0, .int .i64 0, .int .i64 0, .bool false, .int .i64 0], .bool false]) (by simp [results, Try.results17, go_sem, Z0.out, Z1.out, Z2.out, Z3.out, Z4.out, Z5.out]) rfl ⟨ret_pb (a := plZ) hz.out.symm hy.out.symm, ?_⟩
    exact below_all6 T1.out (by omega) _ _ _ _ _ _
  | true =>
    obtain ⟨c0, c1, c2, c3, c4, c5⟩ := blk_cell6 J1.out
    obtain ⟨d0, d1⟩ := blk_cell2 M1.out
    go_wp2_with fail
    refine (E1.out _).mono ?_
    rintro x w2 ⟨rfl, t⟩
    have T2 := Lib.hid (T1.out.trans (t.mono T1.out.size))
    have hz2 := t.size
    have J2 := Lib.hid (blk_keep J1.out t (by omega))
    have M2 := Lib.hid (blk_keep M1.out t (by omega))
    have K2 := Lib.hid (blk_keep K1.out t (by omega))
    clear t
    clear c0 c1 c2 c3 c4 c5 d0 d1
    cases b2 with
    | false =>
      have hz := Lib.hid (HN.out (by rw [HD.out]; simp))
      have hy : Hid (b = false) := Lib.hid (by rw [HD.out]; simp)
      clear HN HY HD
      obtain ⟨p0, p1, p2, p3, p4, p5⟩ := blk_cell6 K2.out
      obtain ⟨m0, m1, m2, m3, m4, m5⟩ := blk_froz6 K2.out
      obtain ⟨z0, z1, z2, z3, z4, z5⟩ := blk_cell6 (blk_all6 (x0 := .int .i64 0) (x1 := .int .i64 0) (x2 := .int .i64 0) (x3 := .int .i64 0) (x4 := .bool false) (x5 := .int .i64 0) K2.out)
      have Z0 := Lib.hid z0
      have Z1 := Lib.hid z1
      have Z2 := Lib.hid z2
      have Z3 := Lib.hid z3
      have Z4 := Lib.hid z4
      have Z5 := Lib.hid z5
      clear z0 z1 z2 z3 z4 z5
      go_wp2
      refine bodyPost_ret (v := .tuple #[.agg #[.int .i64 0, .int .i64 0, .int .i64 0, .int .i64 0, .bool false, .int .i64 0], .bool false]) (by simp [results, Try.results17, go_sem, Z0.out, Z1.out, Z2.out, Z3.out, Z4.out, Z5.out]) rfl ⟨ret_pb (a := plZ) hz.out.symm hy.out.symm, ?_⟩
      exact below_all6 T2.out (by omega) _ _ _ _ _ _
    | true =>
      have E2r := Lib.hid (E2.out (by simp) (by simp))
      have E3r := Lib.hid (E3.out (by simp) (by simp))
      clear E2 E3
      obtain ⟨c0, c1, c2, c3, c4, c5⟩ := blk_cell6 J2.out
      obtain ⟨d0, d1⟩ := blk_cell2 M2.out
      go_wp2_with fail
      refine (E2r.out _).mono ?_
      rintro x w3 ⟨rfl, t⟩
      have T3 := Lib.hid (T2.out.trans (t.mono T2.out.size))
      have hz3 := t.size
      have J3 := Lib.hid (blk_keep J2.out t (by omega))
      have M3 := Lib.hid (blk_keep M2.out t (by omega))
      have K3 := Lib.hid (blk_keep K2.out t (by omega))
      clear t
      clear c0 c1 c2 c3 c4 c5 d0 d1
      cases b3 with
      | false =>
        have hz := Lib.hid (HN.out (by rw [HD.out]; simp))
        have hy : Hid (b = false) := Lib.hid (by rw [HD.out]; simp)
        clear HN HY HD
        obtain ⟨p0, p1, p2, p3, p4, p5⟩ := blk_cell6 K3.out
        obtain ⟨m0, m1, m2, m3, m4, m5⟩ := blk_froz6 K3.out
        obtain ⟨z0, z1, z2, z3, z4, z5⟩ := blk_cell6 (blk_all6 (x0 := .int .i64 0) (x1 := .int .i64 0) (x2 := .int .i64 0) (x3 := .int .i64 0) (x4 := .bool false) (x5 := .int .i64 0) K3.out)
        have Z0 := Lib.hid z0
        have Z1 := Lib.hid z1
        have Z2 := Lib.hid z2
        have Z3 := Lib.hid z3
        have Z4 := Lib.hid z4
        have Z5 := Lib.hid z5
        clear z0 z1 z2 z3 z4 z5
        go_wp2
        refine bodyPost_ret (v := .tuple #[.agg #[.int .i64 0, .int .i64 0, .int .i64 0, .int .i64 0, .bool false, .int .i64 0], .bool false]) (by simp [results, Try.results17, go_sem, Z0.out, Z1.out, Z2.out, Z3.out, Z4.out, Z5.out]) rfl ⟨ret_pb (a := plZ) hz.out.symm hy.out.symm, ?_⟩
        exact below_all6 T3.out (by omega) _ _ _ _ _ _
      | true =>
        obtain ⟨c0, c1, c2, c3, c4, c5⟩ := blk_cell6 J3.out
        obtain ⟨d0, d1⟩ := blk_cell2 M3.out
        go_wp2_with fail
        refine (E3r.out _).mono ?_
        rintro x w4 ⟨rfl, t⟩
        have T4 := Lib.hid (T3.out.trans (t.mono T3.out.size))
        have hz4 := t.size
        have K4 := Lib.hid (blk_keep K3.out t (by omega))
        clear t
        clear c0 c1 c2 c3 c4 c5 d0 d1
        have N4 := Lib.hid (blk_new6 w4 (.int .i64 S.d) (.int .i64 S.s) (.int .i64 S.i) (.int .i64 S.w) (.bool S.l) (.int .i64 S.g) 25)
        have K5 := Lib.hid (blk_stay (o' := .cells #[.int .i64 S.d, .int .i64 S.s, .int .i64 S.i, .int .i64 S.w, .bool S.l, .int .i64 S.g] 25) K4.out)
        have T5 := Lib.hid (T4.out.alloc T4.out.size (.cells #[.int .i64 S.d, .int .i64 S.s, .int .i64 S.i, .int .i64 S.w, .bool S.l, .int .i64 S.g] 25))
        have hn5 : (w4.alloc (.cells #[.int .i64 S.d, .int .i64 S.s, .int .i64 S.i, .int .i64 S.w, .bool S.l, .int .i64 S.g] 25)).heap.size = w4.heap.size + 1 := by simp
        go_upto_region 4 with fail
        generalize (w4.alloc (.cells #[.int .i64 S.d, .int .i64 S.s, .int .i64 S.i, .int .i64 S.w, .bool S.l, .int .i64 S.g] 25)) = w5 at *
        obtain ⟨P, hP⟩ : ∃ P, P = w4.heap.size := ⟨_, rfl⟩
        rw [← hP] at N4 hn5 ⊢
        have hP1 : w.heap.size + 2 < P := by omega
        have hP2 : P < w5.heap.size := by omega
        clear hP hn5 hz1 hz2 hz3 hz4 hs0 J0 J1 J2 J3 M0 M1 M2 M3 K0 K1 K2 K3 K4 T1 T2 T3 T4 HT0
        obtain ⟨c0, c1, c2, c3, c4, c5⟩ := blk_cell6 N4.out
        go_wp2_with fail
        refine (E4.out _).mono ?_
        rintro x w6 ⟨rfl, t⟩
        have T6 := Lib.hid (T5.out.trans (t.mono T5.out.size))
        have N6 := Lib.hid (blk_keep N4.out t hP2)
        have K6 := Lib.hid (blk_keep K5.out t (by omega))
        clear t c0 c1 c2 c3 c4 c5
        cases b4 with
        | false =>
          have hz := Lib.hid (HN.out (by rw [HD.out]; simp))
          have hy : Hid (b = false) := Lib.hid (by rw [HD.out]; simp)
          clear HN HY HD
          obtain ⟨p0, p1, p2, p3, p4, p5⟩ := blk_cell6 K6.out
          obtain ⟨m0, m1, m2, m3, m4, m5⟩ := blk_froz6 K6.out
          obtain ⟨z0, z1, z2, z3, z4, z5⟩ := blk_cell6 (blk_all6 (x0 := .int .i64 0) (x1 := .int .i64 0) (x2 := .int .i64 0) (x3 := .int .i64 0) (x4 := .bool false) (x5 := .int .i64 0) K6.out)
          have Z0 := Lib.hid z0
          have Z1 := Lib.hid z1
          have Z2 := Lib.hid z2
          have Z3 := Lib.hid z3
          have Z4 := Lib.hid z4
          have Z5 := Lib.hid z5
          clear z0 z1 z2 z3 z4 z5
          go_wp2
          refine bodyPost_ret (v := .tuple #[.agg #[.int .i64 0, .int .i64 0, .int .i64 0, .int .i64 0, .bool false, .int .i64 0], .bool false]) (by simp [results, Try.results17, go_sem, Z0.out, Z1.out, Z2.out, Z3.out, Z4.out, Z5.out]) rfl ⟨ret_pb (a := plZ) hz.out.symm hy.out.symm, ?_⟩
          exact below_all6 T6.out (by omega) _ _ _ _ _ _
        | true =>
          have hz := Lib.hid (HY.out (by rw [HD.out]; rfl))
          have hy : Hid (b = true) := Lib.hid (by rw [HD.out]; rfl)
          clear HN HY HD
          obtain ⟨c0, c1, c2, c3, c4, c5⟩ := blk_cell6 N6.out
          obtain ⟨q0, q1, q2, q3, q4, q5⟩ := blk_cell6 K6.out
          obtain ⟨n0, n1, n2, n3, n4, n5⟩ := blk_froz6 K6.out
          obtain ⟨z0, z1, z2, z3, z4, z5⟩ := blk_cell6 (blk_all6 (x0 := .int .i64 S.d) (x1 := .int .i64 S.s) (x2 := .int .i64 S.i) (x3 := .int .i64 S.w) (x4 := .bool S.l) (x5 := .int .i64 S.g) K6.out)
          have Z0 := Lib.hid z0
          have Z1 := Lib.hid z1
          have Z2 := Lib.hid z2
          have Z3 := Lib.hid z3
          have Z4 := Lib.hid z4
          have Z5 := Lib.hid z5
          clear z0 z1 z2 z3 z4 z5
          go_wp2
          refine bodyPost_ret (v := .tuple #[.agg #[.int .i64 S.d, .int .i64 S.s, .int .i64 S.i, .int .i64 S.w, .bool S.l, .int .i64 S.g], .bool true]) (by simp [results, Try.results17, go_sem, Z0.out, Z1.out, Z2.out, Z3.out, Z4.out, Z5.out]) rfl ⟨ret_pb (a := S) hz.out.symm hy.out.symm, ?_⟩
          exact below_all6 T6.out (by omega) _ _ _ _ _ _
end Go.Proofs.Ytinlcbljpclccaa
