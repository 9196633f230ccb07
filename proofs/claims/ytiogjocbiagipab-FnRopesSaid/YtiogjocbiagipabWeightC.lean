/- RopeWeight: the program's and the specification's answer as one function. No condition. -/
import Derived.Test.YtiogjocbiagipabKindW
namespace Go.Proofs.Ytiogjocbiagipab
open Go.RowKit
set_option linter.unusedVariables false
def rwOk (k : RK) (m : Int) : Bool := isK k && inR m 0 20000
def rwV (k : RK) (m : Int) : Int := if rwOk k m then Int.tdiv (k.g * m + 9) 10 else 0
theorem rw_no {k : RK} {m : Int} (h : rwOk k m = false) : rwV k m = 0 := by simp [rwV, h]
theorem rw_yes {k : RK} {m : Int} (h : rwOk k m = true) : rwV k m = Int.tdiv (k.g * m + 9) 10 := by simp [rwV, h]
theorem rw_bd {k : RK} {m : Int} (h : rwOk k m = true) : 0 ≤ k.g * m ∧ k.g * m ≤ 10000000 := by
  unfold rwOk at h
  rw [Bool.and_eq_true, isK_iff, inR_iff] at h
  obtain ⟨⟨_, _, _, ⟨h1, h2⟩, _⟩, h3, h4⟩ := h
  exact ⟨Int.mul_nonneg (by omega) h3, Int.le_trans (Int.mul_le_mul h2 h4 h3 (by omega)) (by omega)⟩
theorem ret_p {a b : Int} {c d : Bool} (h : a = b) (g : c = d) : Ending.returned (.tuple #[.int .i64 a, .bool c]) = .returned (.tuple #[.int .i64 b, .bool d]) := by rw [h, g]
set_option maxRecDepth 100000 in
set_option maxHeartbeats 2000000 in
theorem implRopeWeight_c (k : RK) (m : Int) (w : World) (hw : (Lit.int .i64 m).wf = true) :
    Calls Try.prog 23 #[.agg #[.int .i64 k.i, .int .i64 k.s, .int .i64 k.w, .int .i64 k.g, .int .i64 k.p], .int .i64 m] w fun e w' => e = .returned (.tuple #[.int .i64 (rwV k m), .bool (rwOk k m)]) ∧ Below w.heap.size w w' := by
  have E0 := Lib.hid (fun W => implIsRopeKind_c k W)
  have E1 := Lib.hid (fun W => within_c m 0 20000 W)
  have hd : rwOk k m = (isK k && inR m 0 20000) := rfl
  cases hk : isK k with
  | false =>
    rw [hk] at E0 hd
    have HR := Lib.hid (rw_no (k := k) (m := m) (by rw [hd]; rfl))
    have HD := Lib.hid hd
    clear hk hd hw E1
    go_enter Try.func23, Try.ntmps23
    go_wp2_with fail
    refine (E0.out _).mono ?_
    rintro e w1 ⟨rfl, b1⟩
    go_wp2
    go_ret2
    exact ⟨ret_p HR.out.symm (by rw [HD.out]; rfl), ((Below.refl _ _).alloc (Nat.le_refl _) _).trans (b1.mono (by simp))⟩
  | true =>
    cases hm : inR m 0 20000 with
    | false =>
      rw [hk] at E0
      rw [hm] at E1
      rw [hk, hm] at hd
      have HR := Lib.hid (rw_no (k := k) (m := m) (by rw [hd]; rfl))
      have HD := Lib.hid hd
      clear hk hm hd hw
      go_enter Try.func23, Try.ntmps23
      go_wp2_with fail
      refine (E0.out _).mono ?_
      rintro e w1 ⟨rfl, b1⟩
      go_wp2_with fail
      refine (E1.out _).mono ?_
      rintro e w2 ⟨rfl, rfl⟩
      go_wp2
      go_ret2
      exact ⟨ret_p HR.out.symm (by rw [HD.out]; rfl), ((Below.refl _ _).alloc (Nat.le_refl _) _).trans (b1.mono (by simp))⟩
    | true =>
      rw [hk] at E0
      rw [hm] at E1
      rw [hk, hm] at hd
      have HR := Lib.hid (rw_yes (k := k) (m := m) (by rw [hd]; rfl))
      obtain ⟨hb1, hb2⟩ := rw_bd (k := k) (m := m) (by rw [hd]; rfl)
      have HD := Lib.hid hd
      have HK := Lib.hid (box_RK w k 25 _ rfl)
      clear hk hm hd hw
      obtain ⟨z, hz⟩ : ∃ z, z = k.g * m := ⟨_, rfl⟩
      rw [← hz] at hb1 hb2 HR
      have e1 : IntKind.i64.wrap (k.g * m) = z := by rw [← hz]; exact IntWalk.i64_in _ (by omega)
      have e2 : IntKind.i64.wrap (z + 9) = z + 9 := IntWalk.i64_in _ (by omega)
      have e3 : IntKind.i64.wrap (Int.tdiv (z + 9) 10) = Int.tdiv (z + 9) 10 := by rw [Int.tdiv_eq_ediv_of_nonneg (by omega)]; exact IntWalk.i64_in _ (by omega)
      clear hz
      go_enter Try.func23, Try.ntmps23
      go_wp2_with fail
      refine (E0.out _).mono ?_
      rintro e w1 ⟨rfl, b1⟩
      obtain ⟨_, _, _, k3, _⟩ := HK.out _ (by simpa using b1)
      go_wp2_with fail
      refine (E1.out _).mono ?_
      rintro e w2 ⟨rfl, rfl⟩
      go_wp2
      go_ret2
      exact ⟨ret_p HR.out.symm (by rw [HD.out]; rfl), ((Below.refl _ _).alloc (Nat.le_refl _) _).trans (b1.mono (by simp))⟩
set_option maxRecDepth 100000 in
set_option maxHeartbeats 2000000 in
theorem specRopeWeight_c (k : RK) (m : Int) (w : World) (hw : (Lit.int .i64 m).wf = true) :
    Calls Try.prog 24 #[.agg #[.int .i64 k.i, .int .i64 k.s, .int .i64 k.w, .int .i64 k.g, .int .i64 k.p], .int .i64 m] w fun e w' => e = .returned (.tuple #[.int .i64 (rwV k m), .bool (rwOk k m)]) ∧ Below w.heap.size w w' := by
  have E0 := Lib.hid (fun W => l3Kind_c k W)
  have E1 := Lib.hid (fun W => l1In_c m 0 20000 W)
  have hd : rwOk k m = (isK k && inR m 0 20000) := rfl
  cases hk : isK k with
  | false =>
    rw [hk] at E0 hd
    have HR := Lib.hid (rw_no (k := k) (m := m) (by rw [hd]; rfl))
    have HD := Lib.hid hd
    clear hk hd hw E1
    go_enter Try.func24, Try.ntmps24
    go_wp2_with fail
    refine (E0.out _).mono ?_
    rintro e w1 ⟨rfl, b1⟩
    go_wp2
    go_ret2
    exact ⟨ret_p HR.out.symm (by rw [HD.out]; rfl), ((Below.refl _ _).alloc (Nat.le_refl _) _).trans (b1.mono (by simp))⟩
  | true =>
    cases hm : inR m 0 20000 with
    | false =>
      rw [hk] at E0
      rw [hm] at E1
      rw [hk, hm] at hd
      have HR := Lib.hid (rw_no (k := k) (m := m) (by rw [hd]; rfl))
      have HD := Lib.hid hd
      clear hk hm hd hw
      go_enter Try.func24, Try.ntmps24
      go_wp2_with fail
      refine (E0.out _).mono ?_
      rintro e w1 ⟨rfl, b1⟩
      go_wp2_with fail
      refine (E1.out _).mono ?_
      rintro e w2 ⟨rfl, rfl⟩
      go_wp2
      go_ret2
      exact ⟨ret_p HR.out.symm (by rw [HD.out]; rfl), ((Below.refl _ _).alloc (Nat.le_refl _) _).trans (b1.mono (by simp))⟩
    | true =>
      rw [hk] at E0
      rw [hm] at E1
      rw [hk, hm] at hd
      have HR := Lib.hid (rw_yes (k := k) (m := m) (by rw [hd]; rfl))
      obtain ⟨hb1, hb2⟩ := rw_bd (k := k) (m := m) (by rw [hd]; rfl)
      have HD := Lib.hid hd
      have HK := Lib.hid (box_RK w k 25 _ rfl)
      clear hk hm hd hw
      obtain ⟨z, hz⟩ : ∃ z, z = k.g * m := ⟨_, rfl⟩
      rw [← hz] at hb1 hb2 HR
      have e1 : IntKind.i64.wrap (k.g * m) = z := by rw [← hz]; exact IntWalk.i64_in _ (by omega)
      have e2 : IntKind.i64.wrap (z + 9) = z + 9 := IntWalk.i64_in _ (by omega)
      have e3 : IntKind.i64.wrap (Int.tdiv (z + 9) 10) = Int.tdiv (z + 9) 10 := by rw [Int.tdiv_eq_ediv_of_nonneg (by omega)]; exact IntWalk.i64_in _ (by omega)
      clear hz
      go_enter Try.func24, Try.ntmps24
      go_wp2_with fail
      refine (E0.out _).mono ?_
      rintro e w1 ⟨rfl, b1⟩
      obtain ⟨_, _, _, k3, _⟩ := HK.out _ (by simpa using b1)
      go_wp2_with fail
      refine (E1.out _).mono ?_
      rintro e w2 ⟨rfl, rfl⟩
      go_wp2
      go_ret2
      exact ⟨ret_p HR.out.symm (by rw [HD.out]; rfl), ((Below.refl _ _).alloc (Nat.le_refl _) _).trans (b1.mono (by simp))⟩
end Go.Proofs.Ytiogjocbiagipab
