/- What a kind of rope is: the program's and the specification's answer as one function. No condition. -/
import Derived.Test.YtiogjocbiagipabRKS
namespace Go.Proofs.Ytiogjocbiagipab
open Go.RowKit
set_option linter.unusedVariables false
/-- x is in lo..hi. -/
def inR (x lo hi : Int) : Bool := decide (lo ≤ x) && decide (x ≤ hi)
theorem inR_iff (x lo hi : Int) : inR x lo hi = true ↔ lo ≤ x ∧ x ≤ hi := by simp [inR]
theorem inR_no (x lo hi : Int) : inR x lo hi = false ↔ x < lo ∨ hi < x := by
  unfold inR; rw [Bool.and_eq_false_iff]; simp
theorem ret_b {a b : Bool} (h : a = b) : Ending.returned (.bool a) = .returned (.bool b) := by rw [h]
theorem within_c (x lo hi : Int) (w : World) :
    Calls Try.prog 53 #[.int .i64 x, .int .i64 lo, .int .i64 hi] w fun e w' => e = .returned (.bool (inR x lo hi)) ∧ w' = w := by
  unfold inR
  by_cases h1 : lo ≤ x
  · have h2 : decide (lo ≤ x) = true := by simpa using h1
    rw [h2]
    go_enter Try.func53, Try.ntmps53
    go_wp2
    go_ret
    exact ⟨by simp, rfl⟩
  · have h2 : decide (lo ≤ x) = false := by simpa using h1
    rw [h2]
    go_enter Try.func53, Try.ntmps53
    go_wp2
    go_ret
    exact ⟨by simp, rfl⟩
theorem l1In_c (x lo hi : Int) (w : World) :
    Calls Try.prog 64 #[.int .i64 x, .int .i64 lo, .int .i64 hi] w fun e w' => e = .returned (.bool (inR x lo hi)) ∧ w' = w := by
  unfold inR
  by_cases h1 : lo ≤ x
  · have h2 : decide (lo ≤ x) = true := by simpa using h1
    rw [h2]
    go_enter Try.func64, Try.ntmps64
    go_wp2
    go_ret
    exact ⟨by simp, rfl⟩
  · have h2 : decide (lo ≤ x) = false := by simpa using h1
    rw [h2]
    go_enter Try.func64, Try.ntmps64
    go_wp2
    go_ret
    exact ⟨by simp, rfl⟩
/-- A valid kind. -/
def isK (k : RK) : Bool := inR k.i 1 20 && inR k.s 4 8 && inR k.w 7 40 && inR k.g 10 500 && inR k.p 10 5000
theorem isK_iff (k : RK) : isK k = true ↔ (1 ≤ k.i ∧ k.i ≤ 20) ∧ (4 ≤ k.s ∧ k.s ≤ 8) ∧ (7 ≤ k.w ∧ k.w ≤ 40) ∧ (10 ≤ k.g ∧ k.g ≤ 500) ∧ (10 ≤ k.p ∧ k.p ≤ 5000) := by
  unfold isK; simp only [Bool.and_eq_true, inR_iff]
  constructor
  · rintro ⟨⟨⟨⟨a, b⟩, c⟩, d⟩, e⟩; exact ⟨a, b, c, d, e⟩
  · rintro ⟨a, b, c, d, e⟩; exact ⟨⟨⟨⟨a, b⟩, c⟩, d⟩, e⟩
set_option maxHeartbeats 1000000 in
theorem implIsRopeKind_c (k : RK) (w : World) :
    Calls Try.prog 65 #[.agg #[.int .i64 k.i, .int .i64 k.s, .int .i64 k.w, .int .i64 k.g, .int .i64 k.p]] w fun e w' => e = .returned (.bool (isK k)) ∧ Below w.heap.size w w' := by
  obtain ⟨b, hb⟩ : ∃ b, b = isK k := ⟨_, rfl⟩
  rw [← hb]
  unfold isK at hb
  have e1 := fun W => within_c k.i 1 20 W
  have e2 := fun W => within_c k.s 4 8 W
  have e3 := fun W => within_c k.w 7 40 W
  have e4 := fun W => within_c k.g 10 500 W
  have e5 := fun W => within_c k.p 10 5000 W
  have HB := Lib.hid hb
  clear hb
  generalize inR k.i 1 20 = b1 at *
  generalize inR k.s 4 8 = b2 at *
  generalize inR k.w 7 40 = b3 at *
  generalize inR k.g 10 500 = b4 at *
  generalize inR k.p 10 5000 = b5 at *
  have E1 := Lib.hid e1
  have E2 := Lib.hid e2
  have E3 := Lib.hid e3
  have E4 := Lib.hid e4
  have E5 := Lib.hid e5
  clear e1 e2 e3 e4 e5
  go_enter Try.func65, Try.ntmps65
  go_wp2_with fail
  refine (E1.out _).mono ?_
  rintro e w1 ⟨rfl, rfl⟩
  cases b1 with
  | false =>
    go_wp2
    go_ret
    exact ⟨ret_b (by rw [HB.out]; rfl), (Below.refl _ _).alloc (Nat.le_refl _) _⟩
  | true =>
    go_wp2_with fail
    refine (E2.out _).mono ?_
    rintro e w1 ⟨rfl, rfl⟩
    cases b2 with
    | false =>
      go_wp2
      go_ret
      exact ⟨ret_b (by rw [HB.out]; rfl), (Below.refl _ _).alloc (Nat.le_refl _) _⟩
    | true =>
      go_wp2_with fail
      refine (E3.out _).mono ?_
      rintro e w1 ⟨rfl, rfl⟩
      cases b3 with
      | false =>
        go_wp2
        go_ret
        exact ⟨ret_b (by rw [HB.out]; rfl), (Below.refl _ _).alloc (Nat.le_refl _) _⟩
      | true =>
        go_wp2_with fail
        refine (E4.out _).mono ?_
        rintro e w1 ⟨rfl, rfl⟩
        cases b4 with
        | false =>
          go_wp2
          go_ret
          exact ⟨ret_b (by rw [HB.out]; rfl), (Below.refl _ _).alloc (Nat.le_refl _) _⟩
        | true =>
          go_wp2_with fail
          refine (E5.out _).mono ?_
          rintro e w1 ⟨rfl, rfl⟩
          go_wp2
          go_ret
          exact ⟨ret_b (by rw [HB.out]; rfl), (Below.refl _ _).alloc (Nat.le_refl _) _⟩
set_option maxHeartbeats 1000000 in
theorem l3Kind_c (k : RK) (w : World) :
    Calls Try.prog 66 #[.agg #[.int .i64 k.i, .int .i64 k.s, .int .i64 k.w, .int .i64 k.g, .int .i64 k.p]] w fun e w' => e = .returned (.bool (isK k)) ∧ Below w.heap.size w w' := by
  obtain ⟨b, hb⟩ : ∃ b, b = isK k := ⟨_, rfl⟩
  rw [← hb]
  unfold isK at hb
  have e1 := fun W => l1In_c k.i 1 20 W
  have e2 := fun W => l1In_c k.s 4 8 W
  have e3 := fun W => l1In_c k.w 7 40 W
  have e4 := fun W => l1In_c k.g 10 500 W
  have e5 := fun W => l1In_c k.p 10 5000 W
  have HB := Lib.hid hb
  clear hb
  generalize inR k.i 1 20 = b1 at *
  generalize inR k.s 4 8 = b2 at *
  generalize inR k.w 7 40 = b3 at *
  generalize inR k.g 10 500 = b4 at *
  generalize inR k.p 10 5000 = b5 at *
  have E1 := Lib.hid e1
  have E2 := Lib.hid e2
  have E3 := Lib.hid e3
  have E4 := Lib.hid e4
  have E5 := Lib.hid e5
  clear e1 e2 e3 e4 e5
  go_enter Try.func66, Try.ntmps66
  go_wp2_with fail
  refine (E1.out _).mono ?_
  rintro e w1 ⟨rfl, rfl⟩
  cases b1 with
  | false =>
    go_wp2
    go_ret
    exact ⟨ret_b (by rw [HB.out]; rfl), (Below.refl _ _).alloc (Nat.le_refl _) _⟩
  | true =>
    go_wp2_with fail
    refine (E2.out _).mono ?_
    rintro e w1 ⟨rfl, rfl⟩
    cases b2 with
    | false =>
      go_wp2
      go_ret
      exact ⟨ret_b (by rw [HB.out]; rfl), (Below.refl _ _).alloc (Nat.le_refl _) _⟩
    | true =>
      go_wp2_with fail
      refine (E3.out _).mono ?_
      rintro e w1 ⟨rfl, rfl⟩
      cases b3 with
      | false =>
        go_wp2
        go_ret
        exact ⟨ret_b (by rw [HB.out]; rfl), (Below.refl _ _).alloc (Nat.le_refl _) _⟩
      | true =>
        go_wp2_with fail
        refine (E4.out _).mono ?_
        rintro e w1 ⟨rfl, rfl⟩
        cases b4 with
        | false =>
          go_wp2
          go_ret
          exact ⟨ret_b (by rw [HB.out]; rfl), (Below.refl _ _).alloc (Nat.le_refl _) _⟩
        | true =>
          go_wp2_with fail
          refine (E5.out _).mono ?_
          rintro e w1 ⟨rfl, rfl⟩
          go_wp2
          go_ret
          exact ⟨ret_b (by rw [HB.out]; rfl), (Below.refl _ _).alloc (Nat.le_refl _) _⟩
end Go.Proofs.Ytiogjocbiagipab
