/- CabinLoad: the program's and the specification's answer as one function. No condition. -/
import Derived.Test.YtiogjocbiagipabDoorCabW
namespace Go.Proofs.YtiogjocbiagipabDoor
open Go.RowKit
set_option linter.unusedVariables false
def clOk (c : Cab) (n : Int) : Bool := isC c && inR n 0 c.s
def clV (c : Cab) (n : Int) : Int := if clOk c n then c.w + 80 * n else 0
theorem cl_no {c : Cab} {n : Int} (h : clOk c n = false) : clV c n = 0 := by simp [clV, h]
theorem cl_yes {c : Cab} {n : Int} (h : clOk c n = true) : clV c n = c.w + 80 * n := by simp [clV, h]
theorem cl_bd {c : Cab} {n : Int} (h : clOk c n = true) : 0 ≤ n ∧ n ≤ 16 ∧ 100 ≤ c.w ∧ c.w ≤ 2000 := by
  unfold clOk at h
  rw [Bool.and_eq_true, isC_iff, inR_iff] at h
  omega
theorem ret_p {a b : Int} {c d : Bool} (h : a = b) (g : c = d) : Ending.returned (.tuple #[.int .i64 a, .bool c]) = .returned (.tuple #[.int .i64 b, .bool d]) := by rw [h, g]
set_option maxRecDepth 100000 in
set_option maxHeartbeats 4000000 in
theorem implCabinLoad_c (c : Cab) (n : Int) (w : World) (hw : (Lit.int .i64 n).wf = true) :
    Calls Tryd.prog 39 #[.agg #[.int .i64 c.i, .int .i64 c.s, .int .i64 c.w, .int .i64 c.g, .int .i64 c.p], .int .i64 n] w fun e w' => e = .returned (.tuple #[.int .i64 (clV c n), .bool (clOk c n)]) ∧ Below w.heap.size w w' := by
  have E0 := Lib.hid (fun W => implIsCabin_c c W)
  have E1 := Lib.hid (fun W => within_c n 0 c.s W)
  have hd : clOk c n = (isC c && inR n 0 c.s) := rfl
  have HK := Lib.hid (box_Cab w c 34 _ rfl)
  cases hk : isC c with
  | false =>
    rw [hk] at E0 hd
    have HR := Lib.hid (cl_no (c := c) (n := n) (by rw [hd]; rfl))
    have HD := Lib.hid hd
    clear hk hd hw E1
    go_enter Tryd.func39, Tryd.ntmps39
    go_wp2_with fail
    refine (E0.out _).mono ?_
    rintro e w1 ⟨rfl, b1⟩
    go_wp2
    go_ret2
    exact ⟨ret_p HR.out.symm (by rw [HD.out]; rfl), ((Below.refl _ _).alloc (Nat.le_refl _) _).trans (b1.mono (by simp))⟩
  | true =>
    cases hm : inR n 0 c.s with
    | false =>
      rw [hk] at E0
      rw [hm] at E1
      rw [hk, hm] at hd
      have HR := Lib.hid (cl_no (c := c) (n := n) (by rw [hd]; rfl))
      have HD := Lib.hid hd
      clear hk hm hd hw
      go_enter Tryd.func39, Tryd.ntmps39
      go_wp2_with fail
      refine (E0.out _).mono ?_
      rintro e w1 ⟨rfl, b1⟩
      obtain ⟨_, k1, k2, _, _⟩ := HK.out _ (by simpa using b1)
      go_wp2_with fail
      refine (E1.out _).mono ?_
      rintro e w2 ⟨rfl, rfl⟩
      go_wp2
      go_ret2
      exact ⟨ret_p HR.out.symm (by rw [HD.out]; rfl), ((Below.refl _ _).alloc (Nat.le_refl _) _).trans (b1.mono (by simp))⟩
    | true =>
      rw [hk] at E0
      rw [hm] at E1
      rw [hk, hm] at hd
      have HR := Lib.hid (cl_yes (c := c) (n := n) (by rw [hd]; rfl))
      obtain ⟨g1, g2, g3, g4⟩ := cl_bd (c := c) (n := n) (by rw [hd]; rfl)
      have e1 : IntKind.i64.wrap (80 * n) = 80 * n := IntWalk.i64_in _ (by omega)
      have e2 : IntKind.i64.wrap (c.w + 80 * n) = c.w + 80 * n := IntWalk.i64_in _ (by omega)
      have HD := Lib.hid hd
      clear hk hm hd hw
      go_enter Tryd.func39, Tryd.ntmps39
      go_wp2_with fail
      refine (E0.out _).mono ?_
      rintro e w1 ⟨rfl, b1⟩
      obtain ⟨_, k1, k2, _, _⟩ := HK.out _ (by simpa using b1)
      go_wp2_with fail
      refine (E1.out _).mono ?_
      rintro e w2 ⟨rfl, rfl⟩
      go_wp2
      go_ret2
      exact ⟨ret_p HR.out.symm (by rw [HD.out]; rfl), ((Below.refl _ _).alloc (Nat.le_refl _) _).trans (b1.mono (by simp))⟩
set_option maxRecDepth 100000 in
set_option maxHeartbeats 4000000 in
theorem specCabinLoad_c (c : Cab) (n : Int) (w : World) (hw : (Lit.int .i64 n).wf = true) :
    Calls Tryd.prog 40 #[.agg #[.int .i64 c.i, .int .i64 c.s, .int .i64 c.w, .int .i64 c.g, .int .i64 c.p], .int .i64 n] w fun e w' => e = .returned (.tuple #[.int .i64 (clV c n), .bool (clOk c n)]) ∧ Below w.heap.size w w' := by
  have E0 := Lib.hid (fun W => l5One_c c W)
  have E1 := Lib.hid (fun W => l1In_c n 0 c.s W)
  have hd : clOk c n = (isC c && inR n 0 c.s) := rfl
  have HK := Lib.hid (box_Cab w c 34 _ rfl)
  cases hk : isC c with
  | false =>
    rw [hk] at E0 hd
    have HR := Lib.hid (cl_no (c := c) (n := n) (by rw [hd]; rfl))
    have HD := Lib.hid hd
    clear hk hd hw E1
    go_enter Tryd.func40, Tryd.ntmps40
    go_wp2_with fail
    refine (E0.out _).mono ?_
    rintro e w1 ⟨rfl, b1⟩
    go_wp2
    go_ret2
    exact ⟨ret_p HR.out.symm (by rw [HD.out]; rfl), ((Below.refl _ _).alloc (Nat.le_refl _) _).trans (b1.mono (by simp))⟩
  | true =>
    cases hm : inR n 0 c.s with
    | false =>
      rw [hk] at E0
      rw [hm] at E1
      rw [hk, hm] at hd
      have HR := Lib.hid (cl_no (c := c) (n := n) (by rw [hd]; rfl))
      have HD := Lib.hid hd
      clear hk hm hd hw
      go_enter Tryd.func40, Tryd.ntmps40
      go_wp2_with fail
      refine (E0.out _).mono ?_
      rintro e w1 ⟨rfl, b1⟩
      obtain ⟨_, k1, k2, _, _⟩ := HK.out _ (by simpa using b1)
      go_wp2_with fail
      refine (E1.out _).mono ?_
      rintro e w2 ⟨rfl, rfl⟩
      go_wp2
      go_ret2
      exact ⟨ret_p HR.out.symm (by rw [HD.out]; rfl), ((Below.refl _ _).alloc (Nat.le_refl _) _).trans (b1.mono (by simp))⟩
    | true =>
      rw [hk] at E0
      rw [hm] at E1
      rw [hk, hm] at hd
      have HR := Lib.hid (cl_yes (c := c) (n := n) (by rw [hd]; rfl))
      obtain ⟨g1, g2, g3, g4⟩ := cl_bd (c := c) (n := n) (by rw [hd]; rfl)
      have e1 : IntKind.i64.wrap (80 * n) = 80 * n := IntWalk.i64_in _ (by omega)
      have e2 : IntKind.i64.wrap (c.w + 80 * n) = c.w + 80 * n := IntWalk.i64_in _ (by omega)
      have HD := Lib.hid hd
      clear hk hm hd hw
      go_enter Tryd.func40, Tryd.ntmps40
      go_wp2_with fail
      refine (E0.out _).mono ?_
      rintro e w1 ⟨rfl, b1⟩
      obtain ⟨_, k1, k2, _, _⟩ := HK.out _ (by simpa using b1)
      go_wp2_with fail
      refine (E1.out _).mono ?_
      rintro e w2 ⟨rfl, rfl⟩
      go_wp2
      go_ret2
      exact ⟨ret_p HR.out.symm (by rw [HD.out]; rfl), ((Below.refl _ _).alloc (Nat.le_refl _) _).trans (b1.mono (by simp))⟩
end Go.Proofs.YtiogjocbiagipabDoor
