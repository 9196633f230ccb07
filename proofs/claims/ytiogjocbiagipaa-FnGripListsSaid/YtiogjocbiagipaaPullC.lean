/- PullOf: the program's and the specification's answer as one function. No condition. -/
import Derived.Test.YtiogjocbiagipaaGrpW
namespace Go.Proofs.Ytiogjocbiagipaa
open Go.RowKit
set_option linter.unusedVariables false
def plOk (a s : Int) : Bool := inR a 100 4000 && inR s 0 100
/-- The pull. -/
def plX (a s : Int) : Int := Int.tdiv (a * 981 * s + 99999) 100000
def plV (a s : Int) : Int := if plOk a s then plX a s else 0
theorem pl_no {a s : Int} (h : plOk a s = false) : plV a s = 0 := by simp [plV, h]
theorem pl_yes {a s : Int} (h : plOk a s = true) : plV a s = plX a s := by simp [plV, h]
theorem pl_in {a s : Int} (h : plOk a s = true) : (100 ≤ a ∧ a ≤ 4000) ∧ 0 ≤ s ∧ s ≤ 100 := by
  unfold plOk at h; rwa [Bool.and_eq_true, inR_iff, inR_iff] at h
theorem pl_bd {a s : Int} (h : plOk a s = true) : 0 ≤ a * 981 * s ∧ a * 981 * s ≤ 392400000 := by
  obtain ⟨⟨a1, a2⟩, s1, s2⟩ := pl_in h
  exact ⟨Int.mul_nonneg (by omega) s1, Int.le_trans (Int.mul_le_mul (show a * 981 ≤ 3924000 by omega) s2 s1 (by omega)) (by omega)⟩
theorem plX_bd {a s : Int} (h : plOk a s = true) : 0 ≤ plX a s ∧ plX a s ≤ 4000 := by
  obtain ⟨h1, h2⟩ := pl_bd h
  unfold plX
  rw [Int.tdiv_eq_ediv_of_nonneg (by omega)]
  omega
theorem ret_p {a b : Int} {c d : Bool} (h : a = b) (g : c = d) : Ending.returned (.tuple #[.int .i64 a, .bool c]) = .returned (.tuple #[.int .i64 b, .bool d]) := by rw [h, g]
theorem ret_i {a b : Int} (h : a = b) : Ending.returned (.int .i64 a) = .returned (.int .i64 b) := by rw [h]
theorem l7Pull_c (a s : Int) (w : World) (hp : plOk a s = true) :
    Calls Try.prog 65 #[.int .i64 a, .int .i64 s] w fun e w' => e = .returned (.int .i64 (plX a s)) ∧ w' = w := by
  obtain ⟨hb1, hb2⟩ := pl_bd hp
  obtain ⟨⟨ha1, ha2⟩, hs1, hs2⟩ := pl_in hp
  have e1 : IntKind.i64.wrap (a * 981) = a * 981 := IntWalk.i64_in _ (by omega)
  obtain ⟨z, hz⟩ : ∃ z, z = a * 981 * s := ⟨_, rfl⟩
  rw [← hz] at hb1 hb2
  have hx : plX a s = Int.tdiv (z + 99999) 100000 := by rw [hz]; rfl
  have e2 : IntKind.i64.wrap (a * 981 * s) = z := by rw [← hz]; exact IntWalk.i64_in _ (by omega)
  have e3 : IntKind.i64.wrap (z + 99999) = z + 99999 := IntWalk.i64_in _ (by omega)
  have e4 : IntKind.i64.wrap (Int.tdiv (z + 99999) 100000) = Int.tdiv (z + 99999) 100000 := by rw [Int.tdiv_eq_ediv_of_nonneg (by omega)]; exact IntWalk.i64_in _ (by omega)
  have HX := Lib.hid hx
  clear hz hx
  clear hp
  go_enter Try.func65, Try.ntmps65
  go_wp2
  go_ret
  exact ⟨ret_i HX.out.symm, rfl⟩
theorem plOk_no1 {a s : Int} (h : inR a 100 4000 = false) : plOk a s = false := by simp [plOk, h]
theorem plOk_no2 {a s : Int} (h : inR s 0 100 = false) : plOk a s = false := by simp [plOk, h]
theorem plOk_yes {a s : Int} (h : inR a 100 4000 = true) (g : inR s 0 100 = true) : plOk a s = true := by simp [plOk, h, g]
set_option maxRecDepth 100000 in
set_option maxHeartbeats 2000000 in
theorem implPullOf_w (a s : Int) (w : World) :
    Calls Try.prog 22 #[.int .i64 a, .int .i64 s] w fun e w' => e = .returned (.tuple #[.int .i64 (plV a s), .bool (plOk a s)]) ∧ w' = w := by
  have E0 := Lib.hid (fun W => within_c a 100 4000 W)
  have E1 := Lib.hid (fun W => within_c s 0 100 W)
  cases hk : inR a 100 4000 with
  | false =>
    rw [hk] at E0
    have HD := Lib.hid (plOk_no1 (s := s) hk)
    have HR := Lib.hid (pl_no HD.out)
    clear hk E1
    go_enter Try.func22, Try.ntmps22
    go_wp2_with fail
    refine (E0.out _).mono ?_
    rintro e w1 ⟨rfl, rfl⟩
    go_wp2
    go_ret2
    exact ⟨ret_p HR.out.symm HD.out.symm, rfl⟩
  | true =>
    cases hm : inR s 0 100 with
    | false =>
      rw [hk] at E0
      rw [hm] at E1
      have HD := Lib.hid (plOk_no2 (a := a) hm)
      have HR := Lib.hid (pl_no HD.out)
      clear hk hm
      go_enter Try.func22, Try.ntmps22
      go_wp2_with fail
      refine (E0.out _).mono ?_
      rintro e w1 ⟨rfl, rfl⟩
      go_wp2_with fail
      refine (E1.out _).mono ?_
      rintro e w1 ⟨rfl, rfl⟩
      go_wp2
      go_ret2
      exact ⟨ret_p HR.out.symm HD.out.symm, rfl⟩
    | true =>
      rw [hk] at E0
      rw [hm] at E1
      have hp := plOk_yes hk hm
      have HD := Lib.hid hp
      have HR := Lib.hid (pl_yes HD.out)
      obtain ⟨hb1, hb2⟩ := pl_bd hp
      obtain ⟨⟨ha1, ha2⟩, hs1, hs2⟩ := pl_in hp
      have e1 : IntKind.i64.wrap (a * 981) = a * 981 := IntWalk.i64_in _ (by omega)
      obtain ⟨z, hz⟩ : ∃ z, z = a * 981 * s := ⟨_, rfl⟩
      rw [← hz] at hb1 hb2
      have hx : plX a s = Int.tdiv (z + 99999) 100000 := by rw [hz]; rfl
      have e2 : IntKind.i64.wrap (a * 981 * s) = z := by rw [← hz]; exact IntWalk.i64_in _ (by omega)
      have e3 : IntKind.i64.wrap (z + 99999) = z + 99999 := IntWalk.i64_in _ (by omega)
      have e4 : IntKind.i64.wrap (Int.tdiv (z + 99999) 100000) = Int.tdiv (z + 99999) 100000 := by rw [Int.tdiv_eq_ediv_of_nonneg (by omega)]; exact IntWalk.i64_in _ (by omega)
      have HX := Lib.hid hx
      clear hz hx
      clear hk hm hp
      go_enter Try.func22, Try.ntmps22
      go_wp2_with fail
      refine (E0.out _).mono ?_
      rintro e w1 ⟨rfl, rfl⟩
      go_wp2_with fail
      refine (E1.out _).mono ?_
      rintro e w1 ⟨rfl, rfl⟩
      go_wp2
      go_ret2
      exact ⟨ret_p (by rw [HR.out, HX.out]) HD.out.symm, rfl⟩
set_option maxRecDepth 100000 in
set_option maxHeartbeats 2000000 in
theorem specPullOf_w (a s : Int) (w : World) :
    Calls Try.prog 23 #[.int .i64 a, .int .i64 s] w fun e w' => e = .returned (.tuple #[.int .i64 (plV a s), .bool (plOk a s)]) ∧ w' = w := by
  have E0 := Lib.hid (fun W => l7Load_c a W)
  have E1 := Lib.hid (fun W => l7Slope_c s W)
  cases hk : inR a 100 4000 with
  | false =>
    rw [hk] at E0
    have HD := Lib.hid (plOk_no1 (s := s) hk)
    have HR := Lib.hid (pl_no HD.out)
    clear hk E1
    go_enter Try.func23, Try.ntmps23
    go_wp2_with fail
    refine (E0.out _).mono ?_
    rintro e w1 ⟨rfl, rfl⟩
    go_wp2
    go_ret2
    exact ⟨ret_p HR.out.symm HD.out.symm, rfl⟩
  | true =>
    cases hm : inR s 0 100 with
    | false =>
      rw [hk] at E0
      rw [hm] at E1
      have HD := Lib.hid (plOk_no2 (a := a) hm)
      have HR := Lib.hid (pl_no HD.out)
      clear hk hm
      go_enter Try.func23, Try.ntmps23
      go_wp2_with fail
      refine (E0.out _).mono ?_
      rintro e w1 ⟨rfl, rfl⟩
      go_wp2_with fail
      refine (E1.out _).mono ?_
      rintro e w1 ⟨rfl, rfl⟩
      go_wp2
      go_ret2
      exact ⟨ret_p HR.out.symm HD.out.symm, rfl⟩
    | true =>
      rw [hk] at E0
      rw [hm] at E1
      have hp := plOk_yes hk hm
      have HD := Lib.hid hp
      have HR := Lib.hid (pl_yes HD.out)
      have EP := Lib.hid (fun W => l7Pull_c a s W hp)
      clear hk hm hp
      go_enter Try.func23, Try.ntmps23
      go_wp2_with fail
      refine (E0.out _).mono ?_
      rintro e w1 ⟨rfl, rfl⟩
      go_wp2_with fail
      refine (E1.out _).mono ?_
      rintro e w1 ⟨rfl, rfl⟩
      go_wp2_with fail
      refine (EP.out _).mono ?_
      rintro e w1 ⟨rfl, rfl⟩
      go_wp2
      go_ret2
      exact ⟨ret_p (by rw [HR.out]) HD.out.symm, rfl⟩
theorem implPullOf_c (a s : Int) (w : World) (hwa : (Lit.int .i64 a).wf = true) (hws : (Lit.int .i64 s).wf = true) :
    Calls Try.prog 22 #[.int .i64 a, .int .i64 s] w fun e w' => e = .returned (.tuple #[.int .i64 (plV a s), .bool (plOk a s)]) ∧ Below w.heap.size w w' := (implPullOf_w a s w).mono fun _ _ h => ⟨h.1, by rw [h.2]; exact Below.refl _ _⟩
theorem specPullOf_c (a s : Int) (w : World) (hwa : (Lit.int .i64 a).wf = true) (hws : (Lit.int .i64 s).wf = true) :
    Calls Try.prog 23 #[.int .i64 a, .int .i64 s] w fun e w' => e = .returned (.tuple #[.int .i64 (plV a s), .bool (plOk a s)]) ∧ Below w.heap.size w w' := (specPullOf_w a s w).mono fun _ _ h => ⟨h.1, by rw [h.2]; exact Below.refl _ _⟩
end Go.Proofs.Ytiogjocbiagipaa
