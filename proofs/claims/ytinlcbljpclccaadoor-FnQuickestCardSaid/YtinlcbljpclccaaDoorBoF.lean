/- Platforms and events: the specification's StepPlatform and MostEntering. Condition: sizes. -/
import Derived.Test.YtinlcbljpclccaaDoorBoE
import Derived.Deep.DeepCutAuto
namespace Go.Proofs.YtinlcbljpclccaaDoor
open Go.RowKit
set_option linter.unusedVariables false
theorem sp_no {p : Plt} {e : Bev} (h : spOk p e = false) : spR p e = plZ := by simp [spR, h]
theorem sp_yes {p : Plt} {e : Bev} (h : spOk p e = true) : spR p e = stP p (kd e.k) e.c := by simp [spR, h]
def meR (p : Plt) : Int := if plV p then entP p else 0
set_option maxRecDepth 100000 in
set_option maxHeartbeats 2000000 in
theorem specMostEntering_c (p : Plt) (w : World) :
    Calls Tryd.prog 13 #[.agg #[.int .i64 p.d, .int .i64 p.s, .int .i64 p.i, .int .i64 p.w, .bool p.l, .int .i64 p.g]] w fun x w' => x = .returned (.tuple #[.int .i64 (meR p), .bool (plV p)]) ∧ Below w.heap.size w w' := by
  have E0 := Lib.hid (fun W => l14Good_c p W)
  have E1 := Lib.hid (fun (h : plV p = true) W => l14Entering_c p W h)
  have HA : Hid (meR p = if plV p then entP p else 0) := Lib.hid rfl
  have HB := Lib.hid (fun W (h : Below (w.heap.size + 1) (w.alloc (.cells #[.int .i64 p.d, .int .i64 p.s, .int .i64 p.i, .int .i64 p.w, .bool p.l, .int .i64 p.g] 25)) W) => box_Plt w p 25 w.heap.size rfl W h)
  have HT := Lib.hid ((Below.refl w.heap.size w).alloc (Nat.le_refl _) (.cells #[.int .i64 p.d, .int .i64 p.s, .int .i64 p.i, .int .i64 p.w, .bool p.l, .int .i64 p.g] 25))
  have hs0 : (w.alloc (.cells #[.int .i64 p.d, .int .i64 p.s, .int .i64 p.i, .int .i64 p.w, .bool p.l, .int .i64 p.g] 25)).heap.size = w.heap.size + 1 := by simp
  generalize meR p = A at *
  generalize entP p = E at *
  generalize plV p = b at *
  go_enter Tryd.func13, Tryd.ntmps13
  go_wp2_with fail
  generalize w.alloc (.cells #[.int .i64 p.d, .int .i64 p.s, .int .i64 p.i, .int .i64 p.w, .bool p.l, .int .i64 p.g] 25) = W0 at *
  refine (E0.out _).mono ?_
  rintro x w1 ⟨rfl, t1⟩
  have T1 := Lib.hid (HT.out.trans (t1.mono (by omega)))
  obtain ⟨c0, c1, c2, c3, c4, c5⟩ := HB.out w1 (t1.mono (by omega))
  cases b with
  | false =>
    go_wp2
    go_ret2
    exact ⟨by rw [HA.out]; rfl, T1.out⟩
  | true =>
    have E1r := Lib.hid (E1.out rfl)
    clear E1
    go_wp2_with fail
    refine (E1r.out _).mono ?_
    rintro x w2 ⟨rfl, t2⟩
    go_wp2
    go_ret2
    exact ⟨by rw [HA.out]; rfl, T1.out.trans (t2.mono T1.out.size)⟩
end Go.Proofs.YtinlcbljpclccaaDoor
