/- Platforms and events: a step. Condition: sizes. -/
import Derived.Test.YtinlcbljpclccaaBoD
import Derived.Test.YtinlcbljpclccaaBlk6
import Derived.Test.YtinlcbljpclccaaBlk2
namespace Go.Proofs.Ytinlcbljpclccaa
open Go.RowKit
set_option linter.unusedVariables false
theorem specIsPlatform_c (p : Plt) (w : World) :
    Calls Try.prog 29 #[.agg #[.int .i64 p.d, .int .i64 p.s, .int .i64 p.i, .int .i64 p.w, .bool p.l, .int .i64 p.g]] w fun e w' => e = .returned (.bool (plV p)) ∧ Below w.heap.size w w' := by
  have E0 := Lib.hid (fun W => l14Good_c p W)
  generalize plV p = b at *
  go_enter Try.func29, Try.ntmps29
  go_wp2_with fail
  refine (E0.out _).mono ?_
  rintro e w1 ⟨rfl, t1⟩
  go_wp2
  go_ret
  exact ⟨rfl, by first | exact t1 | exact ((Below.refl _ _).alloc (Nat.le_refl _) _).trans (t1.mono (by simp))⟩
theorem specIsBoardEvent_c (e : Bev) (w : World) :
    Calls Try.prog 28 #[.agg #[.string e.k, .int .i64 e.c]] w fun x w' => x = .returned (.bool (evV e)) ∧ Below w.heap.size w w' := by
  have E0 := Lib.hid (fun W => l14Event_c e W)
  generalize evV e = b at *
  go_enter Try.func28, Try.ntmps28
  go_wp2_with fail
  refine (E0.out _).mono ?_
  rintro x w1 ⟨rfl, t1⟩
  go_wp2
  go_ret
  exact ⟨rfl, by first | exact t1 | exact ((Below.refl _ _).alloc (Nat.le_refl _) _).trans (t1.mono (by simp))⟩
theorem ret_pb {a c : Plt} {x y : Bool} (h : a = c) (k : x = y) : Ending.returned (.tuple #[.agg #[.int .i64 a.d, .int .i64 a.s, .int .i64 a.i, .int .i64 a.w, .bool a.l, .int .i64 a.g], .bool x]) = .returned (.tuple #[.agg #[.int .i64 c.d, .int .i64 c.s, .int .i64 c.i, .int .i64 c.w, .bool c.l, .int .i64 c.g], .bool y]) := by rw [h, k]
set_option maxRecDepth 100000 in
set_option maxHeartbeats 8000000 in
theorem l14Step_c (p : Plt) (e : Bev) (w : World) (h : plV p = true) :
    Calls Try.prog 50 #[.agg #[.int .i64 p.d, .int .i64 p.s, .int .i64 p.i, .int .i64 p.w, .bool p.l, .int .i64 p.g], .agg #[.string e.k, .int .i64 e.c]] w fun x w' => x = .returned (.tuple #[.agg #[.int .i64 (stR p e).d, .int .i64 (stR p e).s, .int .i64 (stR p e).i, .int .i64 (stR p e).w, .bool (stR p e).l, .int .i64 (stR p e).g], .bool (stOk p e)]) ∧ Below w.heap.size w w' := by
  have HN := Lib.hid (stR_no (p := p) (e := e))
  have HY := Lib.hid (stR_yes (p := p) (e := e))
  have hd : stOk p e = (evV e && canP p (kd e.k) e.c) := rfl
  have hp := Lib.hid ((plV_iff p).1 h)
  have E0 := Lib.hid (fun W => l14Event_c e W)
  have hv := Lib.hid (fun h0 : evV e = true => evV_bd h0)
  have E1 := Lib.hid (fun (h0 : evV e = true) W => l14Can_c p e.k e.c W h ⟨by have := (hv.out h0).1; omega, (hv.out h0).2.1⟩)
  have HEN := Lib.hid (entP_bd h)
  clear h
  have J0 := Lib.hid (tri_1 w (.cells #[.int .i64 p.d, .int .i64 p.s, .int .i64 p.i, .int .i64 p.w, .bool p.l, .int .i64 p.g] 25) (.cells #[.string e.k, .int .i64 e.c] 35) (.cells #[.int .i64 0, .int .i64 0, .int .i64 0, .int .i64 0, .bool false, .int .i64 0] 25))
  have M0 := Lib.hid (tri_2 w (.cells #[.int .i64 p.d, .int .i64 p.s, .int .i64 p.i, .int .i64 p.w, .bool p.l, .int .i64 p.g] 25) (.cells #[.string e.k, .int .i64 e.c] 35) (.cells #[.int .i64 0, .int .i64 0, .int .i64 0, .int .i64 0, .bool false, .int .i64 0] 25))
  have K0 := Lib.hid (tri_3 w (.cells #[.int .i64 p.d, .int .i64 p.s, .int .i64 p.i, .int .i64 p.w, .bool p.l, .int .i64 p.g] 25) (.cells #[.string e.k, .int .i64 e.c] 35) (.cells #[.int .i64 0, .int .i64 0, .int .i64 0, .int .i64 0, .bool false, .int .i64 0] 25))
  have HT0 := Lib.hid (tri_below w (.cells #[.int .i64 p.d, .int .i64 p.s, .int .i64 p.i, .int .i64 p.w, .bool p.l, .int .i64 p.g] 25) (.cells #[.string e.k, .int .i64 e.c] 35) (.cells #[.int .i64 0, .int .i64 0, .int .i64 0, .int .i64 0, .bool false, .int .i64 0] 25))
  have hs0 : (((w.alloc (.cells #[.int .i64 p.d, .int .i64 p.s, .int .i64 p.i, .int .i64 p.w, .bool p.l, .int .i64 p.g] 25)).alloc (.cells #[.string e.k, .int .i64 e.c] 35)).alloc (.cells #[.int .i64 0, .int .i64 0, .int .i64 0, .int .i64 0, .bool false, .int .i64 0] 25)).heap.size = w.heap.size + 3 := by simp
  generalize hA : stR p e = A at *
  generalize stOk p e = b at *
  have HD := Lib.hid hd
  clear hd hA
  generalize evV e = b1 at *
  go_enter Try.func50, Try.ntmps50
  go_wp2_with fail
  generalize (((w.alloc (.cells #[.int .i64 p.d, .int .i64 p.s, .int .i64 p.i, .int .i64 p.w, .bool p.l, .int .i64 p.g] 25)).alloc (.cells #[.string e.k, .int .i64 e.c] 35)).alloc (.cells #[.int .i64 0, .int .i64 0, .int .i64 0, .int .i64 0, .bool false, .int .i64 0] 25)) = W0 at *
  refine (E0.out _).mono ?_
  rintro x w1 ⟨rfl, t1⟩
  have T1 := Lib.hid (HT0.out.trans (t1.mono (by omega)))
  have hz1 := t1.size
  have J1 := Lib.hid (blk_keep J0.out t1 (by omega))
  have M1 := Lib.hid (blk_keep M0.out t1 (by omega))
  have K1 := Lib.hid (blk_keep K0.out t1 (by omega))
  clear t1
  have HZ : Hid (b = false → A = plZ) := Lib.hid (fun h => HN.out h)
  cases b1 with
  | false =>
    obtain ⟨p0, p1, p2, p3, p4, p5⟩ := blk_cell6 K1.out
    obtain ⟨m0, m1, m2, m3, m4, m5⟩ := blk_froz6 K1.out
    obtain ⟨z0, z1, z2, z3, z4, z5⟩ := blk_cell6 (blk_all6 (x0 := .int .i64 0) (x1 := .int .i64 0) (x2 := .int .i64 0) (x3 := .int .i64 0) (x4 := .bool false) (x5 := .int .i64 0) K1.out)
    have Z0 := Lib.hid z0
    have Z1 := Lib.hid z1
    have Z2 := Lib.hid z2
    have Z3 := Lib.hid z3
    have Z4 := Lib.hid z4
    have Z5 := Lib.hid z5
    clear z0 z1 z2 z3 z4 z5
    go_wp2
    refine bodyPost_ret (v := .tuple #[.agg #[.int .i64 0, .int .i64 0, .int .i64 0, .int .i64 0, .bool false, .int .i64 0], .bool false]) (by simp [results, Try.results50, go_sem, Z0.out, Z1.out, Z2.out, Z3.out, Z4.out, Z5.out]) rfl ⟨ret_pb (a := plZ) (by rw [HZ.out (by rw [HD.out]; rfl)]) (by rw [HD.out]; rfl), ?_⟩
    exact below_all6 T1.out (by omega) _ _ _ _ _ _
  | true =>
    have E1r := Lib.hid (E1.out rfl)
    have hvr := Lib.hid (hv.out rfl)
    clear E1 hv
    obtain ⟨c0, c1, c2, c3, c4, c5⟩ := blk_cell6 J1.out
    obtain ⟨d0, d1⟩ := blk_cell2 M1.out
    generalize hcan : canP p (kd e.k) e.c = b2 at *
    have HCAN := Lib.hid hcan
    clear hcan
    go_wp2_with fail
    refine (E1r.out _).mono ?_
    rintro x w2 ⟨rfl, t2⟩
    have T2 := Lib.hid (T1.out.trans (t2.mono T1.out.size))
    have hz2 := t2.size
    have J2 := Lib.hid (blk_keep J1.out t2 (by omega))
    have M2 := Lib.hid (blk_keep M1.out t2 (by omega))
    have K2 := Lib.hid (blk_keep K1.out t2 (by omega))
    clear t2 c0 c1 c2 c3 c4 c5 d0 d1
    cases b2 with
    | false =>
      obtain ⟨p0, p1, p2, p3, p4, p5⟩ := blk_cell6 K2.out
      obtain ⟨m0, m1, m2, m3, m4, m5⟩ := blk_froz6 K2.out
      obtain ⟨z0, z1, z2, z3, z4, z5⟩ := blk_cell6 (blk_all6 (x0 := .int .i64 0) (x1 := .int .i64 0) (x2 := .int .i64 0) (x3 := .int .i64 0) (x4 := .bool false) (x5 := .int .i64 0) K2.out)
      have Z0 := Lib.hid z0
      have Z1 := Lib.hid z1
      have Z2 := Lib.hid z2
      have Z3 := Lib.hid z3
      have Z4 := Lib.hid z4
      have Z5 := Lib.hid z5
      clear z0 z1 z2 z3 z4 z5
      go_wp2
      refine bodyPost_ret (v := .tuple #[.agg #[.int .i64 0, .int .i64 0, .int .i64 0, .int .i64 0, .bool false, .int .i64 0], .bool false]) (by simp [results, Try.results50, go_sem, Z0.out, Z1.out, Z2.out, Z3.out, Z4.out, Z5.out]) rfl ⟨ret_pb (a := plZ) (by rw [HZ.out (by rw [HD.out]; rfl)]) (by rw [HD.out]; rfl), ?_⟩
      exact below_all6 T2.out (by omega) _ _ _ _ _ _
    | true =>
      have HAY := Lib.hid (HY.out (by rw [HD.out]; rfl))
      have HBT : Hid (true = b) := Lib.hid (by rw [HD.out]; rfl)
      clear HY HN HZ HD
      obtain ⟨k, c⟩ := e
      simp only [] at *
      have hkd := hvr.out.2.2
      have hc0 := hvr.out.1
      have hc1 := hvr.out.2.1
      obtain ⟨hp0, hp1, hp2, hp3, hp4, hp5⟩ := hp.out
      rcases kd_cases k with rfl | rfl | rfl | rfl | rfl | rfl | rfl | rfl | ⟨a0, a1, a2, a3, a4, a5, a6, a7⟩
      · have HX : Hid (A = { p with s := c }) := Lib.hid (by rw [HAY.out, kd_0]; rfl)
        have hcan2 := HCAN.out
        rw [canP_0] at hcan2
        simp at hcan2
        have hen := HEN.out
        clear hcan2 hen hkd hc0 hc1 hp0 hp1 hp2 hp3 hp4 hp5
        obtain ⟨c0, c1, c2, c3, c4, c5⟩ := blk_cell6 J2.out
        obtain ⟨m0, m1, m2, m3, m4, m5⟩ := blk_froz6 J2.out
        obtain ⟨d0, d1⟩ := blk_cell2 M2.out
        have J3 := blk_put6_1 (x := .int .i64 c) (J2.out)
        have K3 := (blk_by (w := w2) (i := 1) (v := .int .i64 c) (show w.heap.size ≠ w.heap.size + 2 by omega)).trans K2.out
        have M3 := (blk_by (w := w2) (i := 1) (v := .int .i64 c) (show w.heap.size ≠ w.heap.size + 1 by omega)).trans M2.out
        obtain ⟨fa0, fa1, fa2, fa3, fa4, fa5⟩ := blk_cell6 J3
        obtain ⟨ga0, ga1, ga2, ga3, ga4, ga5⟩ := blk_froz6 J3
        obtain ⟨ea0, ea1⟩ := blk_cell2 M3
        obtain ⟨n0, n1, n2, n3, n4, n5⟩ := blk_froz6 K3
        obtain ⟨q0, q1, q2, q3, q4, q5⟩ := blk_cell6 K3
        obtain ⟨z0, z1, z2, z3, z4, z5⟩ := blk_cell6 (blk_all6 (x0 := .int .i64 p.d) (x1 := .int .i64 c) (x2 := .int .i64 p.i) (x3 := .int .i64 p.w) (x4 := .bool p.l) (x5 := .int .i64 p.g) K3)
        have Z0 := Lib.hid z0
        have Z1 := Lib.hid z1
        have Z2 := Lib.hid z2
        have Z3 := Lib.hid z3
        have Z4 := Lib.hid z4
        have Z5 := Lib.hid z5
        have TF := Lib.hid (T2.out.setCell (p := ⟨w.heap.size, 1, none⟩) (Nat.le_refl _) (.int .i64 c))
        clear z0 z1 z2 z3 z4 z5 J3 K3 M3
        go_wp2
        refine bodyPost_ret (v := .tuple #[.agg #[.int .i64 p.d, .int .i64 c, .int .i64 p.i, .int .i64 p.w, .bool p.l, .int .i64 p.g], .bool true]) (by simp [results, Try.results50, go_sem, Z0.out, Z1.out, Z2.out, Z3.out, Z4.out, Z5.out]) rfl ⟨ret_pb (a := { p with s := c }) HX.out.symm HBT.out, ?_⟩
        exact below_all6 TF.out (by omega) _ _ _ _ _ _
      · have HX : Hid (A = { p with d := 1 }) := Lib.hid (by rw [HAY.out, kd_1]; rfl)
        have hcan2 := HCAN.out
        rw [canP_1] at hcan2
        simp at hcan2
        have hen := HEN.out
        clear hcan2 hen hkd hc0 hc1 hp0 hp1 hp2 hp3 hp4 hp5
        obtain ⟨c0, c1, c2, c3, c4, c5⟩ := blk_cell6 J2.out
        obtain ⟨m0, m1, m2, m3, m4, m5⟩ := blk_froz6 J2.out
        obtain ⟨d0, d1⟩ := blk_cell2 M2.out
        have J3 := blk_put6_0 (x := .int .i64 1) (J2.out)
        have K3 := (blk_by (w := w2) (i := 0) (v := .int .i64 1) (show w.heap.size ≠ w.heap.size + 2 by omega)).trans K2.out
        have M3 := (blk_by (w := w2) (i := 0) (v := .int .i64 1) (show w.heap.size ≠ w.heap.size + 1 by omega)).trans M2.out
        obtain ⟨fa0, fa1, fa2, fa3, fa4, fa5⟩ := blk_cell6 J3
        obtain ⟨ga0, ga1, ga2, ga3, ga4, ga5⟩ := blk_froz6 J3
        obtain ⟨ea0, ea1⟩ := blk_cell2 M3
        obtain ⟨n0, n1, n2, n3, n4, n5⟩ := blk_froz6 K3
        obtain ⟨q0, q1, q2, q3, q4, q5⟩ := blk_cell6 K3
        obtain ⟨z0, z1, z2, z3, z4, z5⟩ := blk_cell6 (blk_all6 (x0 := .int .i64 1) (x1 := .int .i64 p.s) (x2 := .int .i64 p.i) (x3 := .int .i64 p.w) (x4 := .bool p.l) (x5 := .int .i64 p.g) K3)
        have Z0 := Lib.hid z0
        have Z1 := Lib.hid z1
        have Z2 := Lib.hid z2
        have Z3 := Lib.hid z3
        have Z4 := Lib.hid z4
        have Z5 := Lib.hid z5
        have TF := Lib.hid (T2.out.setCell (p := ⟨w.heap.size, 0, none⟩) (Nat.le_refl _) (.int .i64 1))
        clear z0 z1 z2 z3 z4 z5 J3 K3 M3
        go_wp2
        refine bodyPost_ret (v := .tuple #[.agg #[.int .i64 1, .int .i64 p.s, .int .i64 p.i, .int .i64 p.w, .bool p.l, .int .i64 p.g], .bool true]) (by simp [results, Try.results50, go_sem, Z0.out, Z1.out, Z2.out, Z3.out, Z4.out, Z5.out]) rfl ⟨ret_pb (a := { p with d := 1 }) HX.out.symm HBT.out, ?_⟩
        exact below_all6 TF.out (by omega) _ _ _ _ _ _
      · have HX : Hid (A = { p with d := 0 }) := Lib.hid (by rw [HAY.out, kd_2]; rfl)
        have hcan2 := HCAN.out
        rw [canP_2] at hcan2
        simp at hcan2
        have hen := HEN.out
        clear hcan2 hen hkd hc0 hc1 hp0 hp1 hp2 hp3 hp4 hp5
        obtain ⟨c0, c1, c2, c3, c4, c5⟩ := blk_cell6 J2.out
        obtain ⟨m0, m1, m2, m3, m4, m5⟩ := blk_froz6 J2.out
        obtain ⟨d0, d1⟩ := blk_cell2 M2.out
        have J3 := blk_put6_0 (x := .int .i64 0) (J2.out)
        have K3 := (blk_by (w := w2) (i := 0) (v := .int .i64 0) (show w.heap.size ≠ w.heap.size + 2 by omega)).trans K2.out
        have M3 := (blk_by (w := w2) (i := 0) (v := .int .i64 0) (show w.heap.size ≠ w.heap.size + 1 by omega)).trans M2.out
        obtain ⟨fa0, fa1, fa2, fa3, fa4, fa5⟩ := blk_cell6 J3
        obtain ⟨ga0, ga1, ga2, ga3, ga4, ga5⟩ := blk_froz6 J3
        obtain ⟨ea0, ea1⟩ := blk_cell2 M3
        obtain ⟨n0, n1, n2, n3, n4, n5⟩ := blk_froz6 K3
        obtain ⟨q0, q1, q2, q3, q4, q5⟩ := blk_cell6 K3
        obtain ⟨z0, z1, z2, z3, z4, z5⟩ := blk_cell6 (blk_all6 (x0 := .int .i64 0) (x1 := .int .i64 p.s) (x2 := .int .i64 p.i) (x3 := .int .i64 p.w) (x4 := .bool p.l) (x5 := .int .i64 p.g) K3)
        have Z0 := Lib.hid z0
        have Z1 := Lib.hid z1
        have Z2 := Lib.hid z2
        have Z3 := Lib.hid z3
        have Z4 := Lib.hid z4
        have Z5 := Lib.hid z5
        have TF := Lib.hid (T2.out.setCell (p := ⟨w.heap.size, 0, none⟩) (Nat.le_refl _) (.int .i64 0))
        clear z0 z1 z2 z3 z4 z5 J3 K3 M3
        go_wp2
        refine bodyPost_ret (v := .tuple #[.agg #[.int .i64 0, .int .i64 p.s, .int .i64 p.i, .int .i64 p.w, .bool p.l, .int .i64 p.g], .bool true]) (by simp [results, Try.results50, go_sem, Z0.out, Z1.out, Z2.out, Z3.out, Z4.out, Z5.out]) rfl ⟨ret_pb (a := { p with d := 0 }) HX.out.symm HBT.out, ?_⟩
        exact below_all6 TF.out (by omega) _ _ _ _ _ _
      · have HX : Hid (A = { p with i := p.i + c, w := p.w - c, l := false }) := Lib.hid (by rw [HAY.out, kd_3]; rfl)
        have hcan2 := HCAN.out
        rw [canP_3] at hcan2
        simp at hcan2
        have hen := HEN.out
        have w2_ : IntKind.i64.wrap (p.i + c) = (p.i + c) := IntWalk.i64_in _ (by omega)
        have w3_ : IntKind.i64.wrap (p.w - c) = (p.w - c) := IntWalk.i64_in _ (by omega)
        clear hcan2 hen hkd hc0 hc1 hp0 hp1 hp2 hp3 hp4 hp5
        obtain ⟨c0, c1, c2, c3, c4, c5⟩ := blk_cell6 J2.out
        obtain ⟨m0, m1, m2, m3, m4, m5⟩ := blk_froz6 J2.out
        obtain ⟨d0, d1⟩ := blk_cell2 M2.out
        have J3 := blk_put6_2 (x := .int .i64 (p.i + c)) (J2.out)
        have K3 := (blk_by (w := w2) (i := 2) (v := .int .i64 (p.i + c)) (show w.heap.size ≠ w.heap.size + 2 by omega)).trans K2.out
        have M3 := (blk_by (w := w2) (i := 2) (v := .int .i64 (p.i + c)) (show w.heap.size ≠ w.heap.size + 1 by omega)).trans M2.out
        obtain ⟨fa0, fa1, fa2, fa3, fa4, fa5⟩ := blk_cell6 J3
        obtain ⟨ga0, ga1, ga2, ga3, ga4, ga5⟩ := blk_froz6 J3
        obtain ⟨ea0, ea1⟩ := blk_cell2 M3
        have J4 := blk_put6_3 (x := .int .i64 (p.w - c)) (J3)
        have K4 := (blk_by (w := (w2.setCell ⟨w.heap.size, 2, none⟩ (.int .i64 (p.i + c)))) (i := 3) (v := .int .i64 (p.w - c)) (show w.heap.size ≠ w.heap.size + 2 by omega)).trans K3
        have M4 := (blk_by (w := (w2.setCell ⟨w.heap.size, 2, none⟩ (.int .i64 (p.i + c)))) (i := 3) (v := .int .i64 (p.w - c)) (show w.heap.size ≠ w.heap.size + 1 by omega)).trans M3
        obtain ⟨fb0, fb1, fb2, fb3, fb4, fb5⟩ := blk_cell6 J4
        obtain ⟨gb0, gb1, gb2, gb3, gb4, gb5⟩ := blk_froz6 J4
        obtain ⟨eb0, eb1⟩ := blk_cell2 M4
        have J5 := blk_put6_4 (x := .bool false) (J4)
        have K5 := (blk_by (w := ((w2.setCell ⟨w.heap.size, 2, none⟩ (.int .i64 (p.i + c))).setCell ⟨w.heap.size, 3, none⟩ (.int .i64 (p.w - c)))) (i := 4) (v := .bool false) (show w.heap.size ≠ w.heap.size + 2 by omega)).trans K4
        have M5 := (blk_by (w := ((w2.setCell ⟨w.heap.size, 2, none⟩ (.int .i64 (p.i + c))).setCell ⟨w.heap.size, 3, none⟩ (.int .i64 (p.w - c)))) (i := 4) (v := .bool false) (show w.heap.size ≠ w.heap.size + 1 by omega)).trans M4
        obtain ⟨fc0, fc1, fc2, fc3, fc4, fc5⟩ := blk_cell6 J5
        obtain ⟨gc0, gc1, gc2, gc3, gc4, gc5⟩ := blk_froz6 J5
        obtain ⟨ec0, ec1⟩ := blk_cell2 M5
        obtain ⟨n0, n1, n2, n3, n4, n5⟩ := blk_froz6 K5
        obtain ⟨q0, q1, q2, q3, q4, q5⟩ := blk_cell6 K5
        obtain ⟨z0, z1, z2, z3, z4, z5⟩ := blk_cell6 (blk_all6 (x0 := .int .i64 p.d) (x1 := .int .i64 p.s) (x2 := .int .i64 (p.i + c)) (x3 := .int .i64 (p.w - c)) (x4 := .bool false) (x5 := .int .i64 p.g) K5)
        have Z0 := Lib.hid z0
        have Z1 := Lib.hid z1
        have Z2 := Lib.hid z2
        have Z3 := Lib.hid z3
        have Z4 := Lib.hid z4
        have Z5 := Lib.hid z5
        have TF := Lib.hid (((T2.out.setCell (p := ⟨w.heap.size, 2, none⟩) (Nat.le_refl _) (.int .i64 (p.i + c))).setCell (p := ⟨w.heap.size, 3, none⟩) (Nat.le_refl _) (.int .i64 (p.w - c))).setCell (p := ⟨w.heap.size, 4, none⟩) (Nat.le_refl _) (.bool false))
        clear z0 z1 z2 z3 z4 z5 J3 K3 M3 J4 K4 M4 J5 K5 M5
        go_wp2
        refine bodyPost_ret (v := .tuple #[.agg #[.int .i64 p.d, .int .i64 p.s, .int .i64 (p.i + c), .int .i64 (p.w - c), .bool false, .int .i64 p.g], .bool true]) (by simp [results, Try.results50, go_sem, Z0.out, Z1.out, Z2.out, Z3.out, Z4.out, Z5.out]) rfl ⟨ret_pb (a := { p with i := p.i + c, w := p.w - c, l := false }) HX.out.symm HBT.out, ?_⟩
        exact below_all6 TF.out (by omega) _ _ _ _ _ _
      · have HX : Hid (A = { p with i := p.i - c }) := Lib.hid (by rw [HAY.out, kd_4]; rfl)
        have hcan2 := HCAN.out
        rw [canP_4] at hcan2
        simp at hcan2
        have hen := HEN.out
        have w2_ : IntKind.i64.wrap (p.i - c) = (p.i - c) := IntWalk.i64_in _ (by omega)
        clear hcan2 hen hkd hc0 hc1 hp0 hp1 hp2 hp3 hp4 hp5
        obtain ⟨c0, c1, c2, c3, c4, c5⟩ := blk_cell6 J2.out
        obtain ⟨m0, m1, m2, m3, m4, m5⟩ := blk_froz6 J2.out
        obtain ⟨d0, d1⟩ := blk_cell2 M2.out
        have J3 := blk_put6_2 (x := .int .i64 (p.i - c)) (J2.out)
        have K3 := (blk_by (w := w2) (i := 2) (v := .int .i64 (p.i - c)) (show w.heap.size ≠ w.heap.size + 2 by omega)).trans K2.out
        have M3 := (blk_by (w := w2) (i := 2) (v := .int .i64 (p.i - c)) (show w.heap.size ≠ w.heap.size + 1 by omega)).trans M2.out
        obtain ⟨fa0, fa1, fa2, fa3, fa4, fa5⟩ := blk_cell6 J3
        obtain ⟨ga0, ga1, ga2, ga3, ga4, ga5⟩ := blk_froz6 J3
        obtain ⟨ea0, ea1⟩ := blk_cell2 M3
        obtain ⟨n0, n1, n2, n3, n4, n5⟩ := blk_froz6 K3
        obtain ⟨q0, q1, q2, q3, q4, q5⟩ := blk_cell6 K3
        obtain ⟨z0, z1, z2, z3, z4, z5⟩ := blk_cell6 (blk_all6 (x0 := .int .i64 p.d) (x1 := .int .i64 p.s) (x2 := .int .i64 (p.i - c)) (x3 := .int .i64 p.w) (x4 := .bool p.l) (x5 := .int .i64 p.g) K3)
        have Z0 := Lib.hid z0
        have Z1 := Lib.hid z1
        have Z2 := Lib.hid z2
        have Z3 := Lib.hid z3
        have Z4 := Lib.hid z4
        have Z5 := Lib.hid z5
        have TF := Lib.hid (T2.out.setCell (p := ⟨w.heap.size, 2, none⟩) (Nat.le_refl _) (.int .i64 (p.i - c)))
        clear z0 z1 z2 z3 z4 z5 J3 K3 M3
        go_wp2
        refine bodyPost_ret (v := .tuple #[.agg #[.int .i64 p.d, .int .i64 p.s, .int .i64 (p.i - c), .int .i64 p.w, .bool p.l, .int .i64 p.g], .bool true]) (by simp [results, Try.results50, go_sem, Z0.out, Z1.out, Z2.out, Z3.out, Z4.out, Z5.out]) rfl ⟨ret_pb (a := { p with i := p.i - c }) HX.out.symm HBT.out, ?_⟩
        exact below_all6 TF.out (by omega) _ _ _ _ _ _
      · have HX : Hid (A = { p with w := p.w + c }) := Lib.hid (by rw [HAY.out, kd_5]; rfl)
        have hcan2 := HCAN.out
        rw [canP_5] at hcan2
        simp at hcan2
        have hen := HEN.out
        have w3_ : IntKind.i64.wrap (p.w + c) = (p.w + c) := IntWalk.i64_in _ (by omega)
        clear hcan2 hen hkd hc0 hc1 hp0 hp1 hp2 hp3 hp4 hp5
        obtain ⟨c0, c1, c2, c3, c4, c5⟩ := blk_cell6 J2.out
        obtain ⟨m0, m1, m2, m3, m4, m5⟩ := blk_froz6 J2.out
        obtain ⟨d0, d1⟩ := blk_cell2 M2.out
        have J3 := blk_put6_3 (x := .int .i64 (p.w + c)) (J2.out)
        have K3 := (blk_by (w := w2) (i := 3) (v := .int .i64 (p.w + c)) (show w.heap.size ≠ w.heap.size + 2 by omega)).trans K2.out
        have M3 := (blk_by (w := w2) (i := 3) (v := .int .i64 (p.w + c)) (show w.heap.size ≠ w.heap.size + 1 by omega)).trans M2.out
        obtain ⟨fa0, fa1, fa2, fa3, fa4, fa5⟩ := blk_cell6 J3
        obtain ⟨ga0, ga1, ga2, ga3, ga4, ga5⟩ := blk_froz6 J3
        obtain ⟨ea0, ea1⟩ := blk_cell2 M3
        obtain ⟨n0, n1, n2, n3, n4, n5⟩ := blk_froz6 K3
        obtain ⟨q0, q1, q2, q3, q4, q5⟩ := blk_cell6 K3
        obtain ⟨z0, z1, z2, z3, z4, z5⟩ := blk_cell6 (blk_all6 (x0 := .int .i64 p.d) (x1 := .int .i64 p.s) (x2 := .int .i64 p.i) (x3 := .int .i64 (p.w + c)) (x4 := .bool p.l) (x5 := .int .i64 p.g) K3)
        have Z0 := Lib.hid z0
        have Z1 := Lib.hid z1
        have Z2 := Lib.hid z2
        have Z3 := Lib.hid z3
        have Z4 := Lib.hid z4
        have Z5 := Lib.hid z5
        have TF := Lib.hid (T2.out.setCell (p := ⟨w.heap.size, 3, none⟩) (Nat.le_refl _) (.int .i64 (p.w + c)))
        clear z0 z1 z2 z3 z4 z5 J3 K3 M3
        go_wp2
        refine bodyPost_ret (v := .tuple #[.agg #[.int .i64 p.d, .int .i64 p.s, .int .i64 p.i, .int .i64 (p.w + c), .bool p.l, .int .i64 p.g], .bool true]) (by simp [results, Try.results50, go_sem, Z0.out, Z1.out, Z2.out, Z3.out, Z4.out, Z5.out]) rfl ⟨ret_pb (a := { p with w := p.w + c }) HX.out.symm HBT.out, ?_⟩
        exact below_all6 TF.out (by omega) _ _ _ _ _ _
      · have HX : Hid (A = { p with l := true }) := Lib.hid (by rw [HAY.out, kd_6]; rfl)
        have hcan2 := HCAN.out
        rw [canP_6] at hcan2
        simp at hcan2
        have hen := HEN.out
        clear hcan2 hen hkd hc0 hc1 hp0 hp1 hp2 hp3 hp4 hp5
        obtain ⟨c0, c1, c2, c3, c4, c5⟩ := blk_cell6 J2.out
        obtain ⟨m0, m1, m2, m3, m4, m5⟩ := blk_froz6 J2.out
        obtain ⟨d0, d1⟩ := blk_cell2 M2.out
        have J3 := blk_put6_4 (x := .bool true) (J2.out)
        have K3 := (blk_by (w := w2) (i := 4) (v := .bool true) (show w.heap.size ≠ w.heap.size + 2 by omega)).trans K2.out
        have M3 := (blk_by (w := w2) (i := 4) (v := .bool true) (show w.heap.size ≠ w.heap.size + 1 by omega)).trans M2.out
        obtain ⟨fa0, fa1, fa2, fa3, fa4, fa5⟩ := blk_cell6 J3
        obtain ⟨ga0, ga1, ga2, ga3, ga4, ga5⟩ := blk_froz6 J3
        obtain ⟨ea0, ea1⟩ := blk_cell2 M3
        obtain ⟨n0, n1, n2, n3, n4, n5⟩ := blk_froz6 K3
        obtain ⟨q0, q1, q2, q3, q4, q5⟩ := blk_cell6 K3
        obtain ⟨z0, z1, z2, z3, z4, z5⟩ := blk_cell6 (blk_all6 (x0 := .int .i64 p.d) (x1 := .int .i64 p.s) (x2 := .int .i64 p.i) (x3 := .int .i64 p.w) (x4 := .bool true) (x5 := .int .i64 p.g) K3)
        have Z0 := Lib.hid z0
        have Z1 := Lib.hid z1
        have Z2 := Lib.hid z2
        have Z3 := Lib.hid z3
        have Z4 := Lib.hid z4
        have Z5 := Lib.hid z5
        have TF := Lib.hid (T2.out.setCell (p := ⟨w.heap.size, 4, none⟩) (Nat.le_refl _) (.bool true))
        clear z0 z1 z2 z3 z4 z5 J3 K3 M3
        go_wp2
        refine bodyPost_ret (v := .tuple #[.agg #[.int .i64 p.d, .int .i64 p.s, .int .i64 p.i, .int .i64 p.w, .bool true, .int .i64 p.g], .bool true]) (by simp [results, Try.results50, go_sem, Z0.out, Z1.out, Z2.out, Z3.out, Z4.out, Z5.out]) rfl ⟨ret_pb (a := { p with l := true }) HX.out.symm HBT.out, ?_⟩
        exact below_all6 TF.out (by omega) _ _ _ _ _ _
      · have HX : Hid (A = { p with s := 0, i := 0, g := p.g + 1 }) := Lib.hid (by rw [HAY.out, kd_7]; rfl)
        have hcan2 := HCAN.out
        rw [canP_7] at hcan2
        simp at hcan2
        have hen := HEN.out
        have w5_ : IntKind.i64.wrap (p.g + 1) = (p.g + 1) := IntWalk.i64_in _ (by omega)
        clear hcan2 hen hkd hc0 hc1 hp0 hp1 hp2 hp3 hp4 hp5
        obtain ⟨c0, c1, c2, c3, c4, c5⟩ := blk_cell6 J2.out
        obtain ⟨m0, m1, m2, m3, m4, m5⟩ := blk_froz6 J2.out
        obtain ⟨d0, d1⟩ := blk_cell2 M2.out
        have J3 := blk_put6_1 (x := .int .i64 0) (J2.out)
        have K3 := (blk_by (w := w2) (i := 1) (v := .int .i64 0) (show w.heap.size ≠ w.heap.size + 2 by omega)).trans K2.out
        have M3 := (blk_by (w := w2) (i := 1) (v := .int .i64 0) (show w.heap.size ≠ w.heap.size + 1 by omega)).trans M2.out
        obtain ⟨fa0, fa1, fa2, fa3, fa4, fa5⟩ := blk_cell6 J3
        obtain ⟨ga0, ga1, ga2, ga3, ga4, ga5⟩ := blk_froz6 J3
        obtain ⟨ea0, ea1⟩ := blk_cell2 M3
        have J4 := blk_put6_2 (x := .int .i64 0) (J3)
        have K4 := (blk_by (w := (w2.setCell ⟨w.heap.size, 1, none⟩ (.int .i64 0))) (i := 2) (v := .int .i64 0) (show w.heap.size ≠ w.heap.size + 2 by omega)).trans K3
        have M4 := (blk_by (w := (w2.setCell ⟨w.heap.size, 1, none⟩ (.int .i64 0))) (i := 2) (v := .int .i64 0) (show w.heap.size ≠ w.heap.size + 1 by omega)).trans M3
        obtain ⟨fb0, fb1, fb2, fb3, fb4, fb5⟩ := blk_cell6 J4
        obtain ⟨gb0, gb1, gb2, gb3, gb4, gb5⟩ := blk_froz6 J4
        obtain ⟨eb0, eb1⟩ := blk_cell2 M4
        have J5 := blk_put6_5 (x := .int .i64 (p.g + 1)) (J4)
        have K5 := (blk_by (w := ((w2.setCell ⟨w.heap.size, 1, none⟩ (.int .i64 0)).setCell ⟨w.heap.size, 2, none⟩ (.int .i64 0))) (i := 5) (v := .int .i64 (p.g + 1)) (show w.heap.size ≠ w.heap.size + 2 by omega)).trans K4
        have M5 := (blk_by (w := ((w2.setCell ⟨w.heap.size, 1, none⟩ (.int .i64 0)).setCell ⟨w.heap.size, 2, none⟩ (.int .i64 0))) (i := 5) (v := .int .i64 (p.g + 1)) (show w.heap.size ≠ w.heap.size + 1 by omega)).trans M4
        obtain ⟨fc0, fc1, fc2, fc3, fc4, fc5⟩ := blk_cell6 J5
        obtain ⟨gc0, gc1, gc2, gc3, gc4, gc5⟩ := blk_froz6 J5
        obtain ⟨ec0, ec1⟩ := blk_cell2 M5
        obtain ⟨n0, n1, n2, n3, n4, n5⟩ := blk_froz6 K5
        obtain ⟨q0, q1, q2, q3, q4, q5⟩ := blk_cell6 K5
        obtain ⟨z0, z1, z2, z3, z4, z5⟩ := blk_cell6 (blk_all6 (x0 := .int .i64 p.d) (x1 := .int .i64 0) (x2 := .int .i64 0) (x3 := .int .i64 p.w) (x4 := .bool p.l) (x5 := .int .i64 (p.g + 1)) K5)
        have Z0 := Lib.hid z0
        have Z1 := Lib.hid z1
        have Z2 := Lib.hid z2
        have Z3 := Lib.hid z3
        have Z4 := Lib.hid z4
        have Z5 := Lib.hid z5
        have TF := Lib.hid (((T2.out.setCell (p := ⟨w.heap.size, 1, none⟩) (Nat.le_refl _) (.int .i64 0)).setCell (p := ⟨w.heap.size, 2, none⟩) (Nat.le_refl _) (.int .i64 0)).setCell (p := ⟨w.heap.size, 5, none⟩) (Nat.le_refl _) (.int .i64 (p.g + 1)))
        clear z0 z1 z2 z3 z4 z5 J3 K3 M3 J4 K4 M4 J5 K5 M5
        go_wp2
        refine bodyPost_ret (v := .tuple #[.agg #[.int .i64 p.d, .int .i64 0, .int .i64 0, .int .i64 p.w, .bool p.l, .int .i64 (p.g + 1)], .bool true]) (by simp [results, Try.results50, go_sem, Z0.out, Z1.out, Z2.out, Z3.out, Z4.out, Z5.out]) rfl ⟨ret_pb (a := { p with s := 0, i := 0, g := p.g + 1 }) HX.out.symm HBT.out, ?_⟩
        exact below_all6 TF.out (by omega) _ _ _ _ _ _
      · have := kd_not a0 a1 a2 a3 a4 a5 a6 a7; omega
end Go.Proofs.Ytinlcbljpclccaa
