/- Platforms and events: the specification's StepPlatform and MostEntering. Condition: sizes. -/
import Derived.Test.YtinlcbljpclccaaBoE
import Derived.Deep.DeepCutAuto
namespace Go.Proofs.Ytinlcbljpclccaa
open Go.RowKit
set_option linter.unusedVariables false
theorem sp_no {p : Plt} {e : Bev} (h : spOk p e = false) : spR p e = plZ := by simp [spR, h]
theorem sp_yes {p : Plt} {e : Bev} (h : spOk p e = true) : spR p e = stP p (kd e.k) e.c := by simp [spR, h]
set_option maxRecDepth 100000 in
set_option maxHeartbeats 1000000 in
theorem specStepPlatform_c (p : Plt) (e : Bev) (w : World) :
    Calls Try.prog 19 #[.agg #[.int .i64 p.d, .int .i64 p.s, .int .i64 p.i, .int .i64 p.w, .bool p.l, .int .i64 p.g], .agg #[.string e.k, .int .i64 e.c]] w fun x w' => x = .returned (.tuple #[.agg #[.int .i64 (spR p e).d, .int .i64 (spR p e).s, .int .i64 (spR p e).i, .int .i64 (spR p e).w, .bool (spR p e).l, .int .i64 (spR p e).g], .bool (spOk p e)]) ∧ Below w.heap.size w w' := by
  have HN := Lib.hid (sp_no (p := p) (e := e))
  have HY := Lib.hid (sp_yes (p := p) (e := e))
  have HS : Hid (plV p = true → spOk p e = stOk p e ∧ spR p e = stR p e) := Lib.hid (fun h => ⟨by simp [spOk, h], by simp [spR, stR, spOk, h]⟩)
  have HF : Hid (plV p = false → spOk p e = false ∧ spR p e = plZ) := Lib.hid (fun h => ⟨by simp [spOk, h], by simp [spR, spOk, h]⟩)
  have E0 := Lib.hid (fun W => l14Good_c p W)
  have E1 := Lib.hid (fun (h : plV p = true) W => l14Step_c p e W h)
  have J0 := Lib.hid (tri_1 w (.cells #[.int .i64 p.d, .int .i64 p.s, .int .i64 p.i, .int .i64 p.w, .bool p.l, .int .i64 p.g] 25) (.cells #[.string e.k, .int .i64 e.c] 35) (.cells #[.int .i64 0, .int .i64 0, .int .i64 0, .int .i64 0, .bool false, .int .i64 0] 25))
  have M0 := Lib.hid (tri_2 w (.cells #[.int .i64 p.d, .int .i64 p.s, .int .i64 p.i, .int .i64 p.w, .bool p.l, .int .i64 p.g] 25) (.cells #[.string e.k, .int .i64 e.c] 35) (.cells #[.int .i64 0, .int .i64 0, .int .i64 0, .int .i64 0, .bool false, .int .i64 0] 25))
  have K0 := Lib.hid (tri_3 w (.cells #[.int .i64 p.d, .int .i64 p.s, .int .i64 p.i, .int .i64 p.w, .bool p.l, .int .i64 p.g] 25) (.cells #[.string e.k, .int .i64 e.c] 35) (.cells #[.int .i64 0, .int .i64 0, .int .i64 0, .int .i64 0, .bool false, .int .i64 0] 25))
  have HT0 := Lib.hid (tri_below w (.cells #[.int .i64 p.d, .int .i64 p.s, .int .i64 p.i, .int .i64 p.w, .bool p.l, .int .i64 p.g] 25) (.cells #[.string e.k, .int .i64 e.c] 35) (.cells #[.int .i64 0, .int .i64 0, .int .i64 0, .int .i64 0, .bool false, .int .i64 0] 25))
  have hs0 : (((w.alloc (.cells #[.int .i64 p.d, .int .i64 p.s, .int .i64 p.i, .int .i64 p.w, .bool p.l, .int .i64 p.g] 25)).alloc (.cells #[.string e.k, .int .i64 e.c] 35)).alloc (.cells #[.int .i64 0, .int .i64 0, .int .i64 0, .int .i64 0, .bool false, .int .i64 0] 25)).heap.size = w.heap.size + 3 := by simp
  generalize spR p e = A at *
  generalize spOk p e = b at *
  generalize stR p e = S at *
  generalize stOk p e = sb at *
  generalize plV p = b1 at *
  go_enter Try.func19, Try.ntmps19
  go_wp2_with fail
  generalize (((w.alloc (.cells #[.int .i64 p.d, .int .i64 p.s, .int .i64 p.i, .int .i64 p.w, .bool p.l, .int .i64 p.g] 25)).alloc (.cells #[.string e.k, .int .i64 e.c] 35)).alloc (.cells #[.int .i64 0, .int .i64 0, .int .i64 0, .int .i64 0, .bool false, .int .i64 0] 25)) = W0 at *
  refine (E0.out _).mono ?_
  rintro x w1 ⟨rfl, t1⟩
  have T1 := Lib.hid (HT0.out.trans (t1.mono (by omega)))
  have hz1 := t1.size
  have J1 := Lib.hid (blk_keep J0.out t1 (by omega))
  have M1 := Lib.hid (blk_keep M0.out t1 (by omega))
  have K1 := Lib.hid (blk_keep K0.out t1 (by omega))
  clear t1
  cases b1 with
  | false =>
    have HFr := Lib.hid (HF.out rfl)
    clear HF HS HN HY E1
    obtain ⟨p0, p1, p2, p3, p4, p5⟩ := blk_cell6 K1.out
    obtain ⟨m0, m1, m2, m3, m4, m5⟩ := blk_froz6 K1.out
    obtain ⟨z0, z1, z2, z3, z4, z5⟩ := blk_cell6 (blk_all6 (x0 := .int .i64 0) (x1 := .int .i64 0) (x2 := .int .i64 0) (x3 := .int .i64 0) (x4 := .bool false) (x5 := .int .i64 0) K1.out)
    have Z0 := Lib.hid z0
    have Z1 := Lib.hid z1
    have Z2 := Lib.hid z2
    have Z3 := Lib.hid z3
    have Z4 := Lib.hid z4
    have Z5 := Lib.hid z5
    clear z0 z1 z2 z3 z4 z5
    go_wp2
    refine bodyPost_ret (v := .tuple #[.agg #[.int .i64 0, .int .i64 0, .int .i64 0, .int .i64 0, .bool false, .int .i64 0], .bool false]) (by simp [results, Try.results19, go_sem, Z0.out, Z1.out, Z2.out, Z3.out, Z4.out, Z5.out]) rfl ⟨ret_pb (a := plZ) HFr.out.2.symm HFr.out.1.symm, ?_⟩
    exact below_all6 T1.out (by omega) _ _ _ _ _ _
  | true =>
    have HSr := Lib.hid (HS.out rfl)
    have E1r := Lib.hid (E1.out rfl)
    clear HF HS HN HY E1
    obtain ⟨c0, c1, c2, c3, c4, c5⟩ := blk_cell6 J1.out
    obtain ⟨d0, d1⟩ := blk_cell2 M1.out
    go_wp2_with fail
    refine (E1r.out _).mono ?_
    rintro x w2 ⟨rfl, t2⟩
    have T2 := Lib.hid (T1.out.trans (t2.mono T1.out.size))
    have hz2 := t2.size
    have K2 := Lib.hid (blk_keep K1.out t2 (by omega))
    clear t2 c0 c1 c2 c3 c4 c5 d0 d1
    have N4 := Lib.hid (blk_new6 w2 (.int .i64 S.d) (.int .i64 S.s) (.int .i64 S.i) (.int .i64 S.w) (.bool S.l) (.int .i64 S.g) 25)
    have K4 := Lib.hid (blk_stay (o' := .cells #[.int .i64 S.d, .int .i64 S.s, .int .i64 S.i, .int .i64 S.w, .bool S.l, .int .i64 S.g] 25) K2.out)
    have TF := Lib.hid (T2.out.alloc T2.out.size (.cells #[.int .i64 S.d, .int .i64 S.s, .int .i64 S.i, .int .i64 S.w, .bool S.l, .int .i64 S.g] 25))
    go_upto_region 4 with fail
    generalize (w2.alloc (.cells #[.int .i64 S.d, .int .i64 S.s, .int .i64 S.i, .int .i64 S.w, .bool S.l, .int .i64 S.g] 25)) = W4 at *
    clear T2 K2 J1 M1 K1 T1 hz2 hz1 J0 M0 K0 HT0 hs0
    generalize w2.heap.size = g2 at *
    generalize hg3 : w.heap.size + 2 = g3 at *
    have hg4 : w.heap.size + 1 + 1 = g3 := by omega
    obtain ⟨c0, c1, c2, c3, c4, c5⟩ := blk_cell6 N4.out
    obtain ⟨q0, q1, q2, q3, q4, q5⟩ := blk_cell6 K4.out
    obtain ⟨n0, n1, n2, n3, n4, n5⟩ := blk_froz6 K4.out
    obtain ⟨z0, z1, z2, z3, z4, z5⟩ := blk_cell6 (blk_all6 (x0 := .int .i64 S.d) (x1 := .int .i64 S.s) (x2 := .int .i64 S.i) (x3 := .int .i64 S.w) (x4 := .bool S.l) (x5 := .int .i64 S.g) K4.out)
    have Z0 := Lib.hid z0
    have Z1 := Lib.hid z1
    have Z2 := Lib.hid z2
    have Z3 := Lib.hid z3
    have Z4 := Lib.hid z4
    have Z5 := Lib.hid z5
    clear z0 z1 z2 z3 z4 z5
    go_wp2
    subst hg3
    refine bodyPost_ret (v := .tuple #[.agg #[.int .i64 S.d, .int .i64 S.s, .int .i64 S.i, .int .i64 S.w, .bool S.l, .int .i64 S.g], .bool sb]) (by simp [results, Try.results19, go_sem, Z0.out, Z1.out, Z2.out, Z3.out, Z4.out, Z5.out]) rfl ⟨ret_pb (a := S) HSr.out.2.symm HSr.out.1.symm, ?_⟩
    exact below_all6 TF.out (by omega) _ _ _ _ _ _
def meR (p : Plt) : Int := if plV p then entP p else 0
set_option maxRecDepth 100000 in
set_option maxHeartbeats 2000000 in
theorem specMostEntering_c (p : Plt) (w : World) :
    Calls Try.prog 40 #[.agg #[.int .i64 p.d, .int .i64 p.s, .int .i64 p.i, .int .i64 p.w, .bool p.l, .int .i64 p.g]] w fun x w' => x = .returned (.tuple #[.int .i64 (meR p), .bool (plV p)]) ∧ Below w.heap.size w w' := by
  have E0 := Lib.hid (fun W => l14Good_c p W)
  have E1 := Lib.hid (fun (h : plV p = true) W => l14Entering_c p W h)
  have HA : Hid (meR p = if plV p then entP p else 0) := Lib.hid rfl
  have HB := Lib.hid (fun W (h : Below (w.heap.size + 1) (w.alloc (.cells #[.int .i64 p.d, .int .i64 p.s, .int .i64 p.i, .int .i64 p.w, .bool p.l, .int .i64 p.g] 25)) W) => box_Plt w p 25 w.heap.size rfl W h)
  have HT := Lib.hid ((Below.refl w.heap.size w).alloc (Nat.le_refl _) (.cells #[.int .i64 p.d, .int .i64 p.s, .int .i64 p.i, .int .i64 p.w, .bool p.l, .int .i64 p.g] 25))
  have hs0 : (w.alloc (.cells #[.int .i64 p.d, .int .i64 p.s, .int .i64 p.i, .int .i64 p.w, .bool p.l, .int .i64 p.g] 25)).heap.size = w.heap.size + 1 := by simp
  generalize meR p = A at *
  generalize entP p = E at *
  generalize plV p = b at *
  go_enter Try.func40, Try.ntmps40
  go_wp2_with fail
  generalize w.alloc (.cells #[.int .i64 p.d, .int .i64 p.s, .int .i64 p.i, .int .i64 p.w, .bool p.l, .int .i64 p.g] 25) = W0 at *
  refine (E0.out _).mono ?_
  rintro x w1 ⟨rfl, t1⟩
  have T1 := Lib.hid (HT.out.trans (t1.mono (by omega)))
  obtain ⟨c0, c1, c2, c3, c4, c5⟩ := HB.out w1 (t1.mono (by omega))
  cases b with
  | false =>
    go_wp2
    go_ret2
    exact ⟨by rw [HA.out]; rfl, T1.out⟩
  | true =>
    have E1r := Lib.hid (E1.out rfl)
    clear E1
    go_wp2_with fail
    refine (E1r.out _).mono ?_
    rintro x w2 ⟨rfl, t2⟩
    go_wp2
    go_ret2
    exact ⟨by rw [HA.out]; rfl, T1.out.trans (t2.mono T1.out.size)⟩
end Go.Proofs.Ytinlcbljpclccaa
