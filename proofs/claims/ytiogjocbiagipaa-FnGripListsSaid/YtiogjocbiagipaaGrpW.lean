/- What a grip is: the program's and the specification's answer as one function. No condition. -/
import Derived.Test.YtiogjocbiagipaaGrpS
import Derived.Test.YtiogjocbiagipaaKindW
namespace Go.Proofs.Ytiogjocbiagipaa
open Go.RowKit
set_option linter.unusedVariables false
theorem l7Day_c (x : Int) (w : World) :
    Calls Try.prog 77 #[.int .i64 x] w fun e w' => e = .returned (.bool (inR x 0 9999)) ∧ w' = w := by
  go_enter Try.func77, Try.ntmps77
  go_wp2_with fail
  refine (l1In_c x 0 9999 _).mono ?_
  rintro e w1 ⟨rfl, rfl⟩
  go_wp2
  go_ret
  exact ⟨rfl, rfl⟩
theorem l7Load_c (x : Int) (w : World) :
    Calls Try.prog 60 #[.int .i64 x] w fun e w' => e = .returned (.bool (inR x 100 4000)) ∧ w' = w := by
  go_enter Try.func60, Try.ntmps60
  go_wp2_with fail
  refine (l1In_c x 100 4000 _).mono ?_
  rintro e w1 ⟨rfl, rfl⟩
  go_wp2
  go_ret
  exact ⟨rfl, rfl⟩
theorem l7Slope_c (x : Int) (w : World) :
    Calls Try.prog 63 #[.int .i64 x] w fun e w' => e = .returned (.bool (inR x 0 100)) ∧ w' = w := by
  go_enter Try.func63, Try.ntmps63
  go_wp2_with fail
  refine (l1In_c x 0 100 _).mono ?_
  rintro e w1 ⟨rfl, rfl⟩
  go_wp2
  go_ret
  exact ⟨rfl, rfl⟩
/-- A valid grip. -/
def isG (k : Grp) : Bool := inR k.i 1 99 && inR k.s 0 5000 && inR k.w 0 99 && inR k.g 0 99999 && inR k.p 0 9999
theorem isG_iff (k : Grp) : isG k = true ↔ (1 ≤ k.i ∧ k.i ≤ 99) ∧ (0 ≤ k.s ∧ k.s ≤ 5000) ∧ (0 ≤ k.w ∧ k.w ≤ 99) ∧ (0 ≤ k.g ∧ k.g ≤ 99999) ∧ (0 ≤ k.p ∧ k.p ≤ 9999) := by
  unfold isG; simp only [Bool.and_eq_true, inR_iff]
  constructor
  · rintro ⟨⟨⟨⟨a, b⟩, c⟩, d⟩, e⟩; exact ⟨a, b, c, d, e⟩
  · rintro ⟨a, b, c, d, e⟩; exact ⟨⟨⟨⟨a, b⟩, c⟩, d⟩, e⟩
set_option maxHeartbeats 1000000 in
theorem implIsGrip_c (k : Grp) (w : World) :
    Calls Try.prog 44 #[.agg #[.int .i64 k.i, .int .i64 k.s, .int .i64 k.w, .int .i64 k.g, .int .i64 k.p]] w fun e w' => e = .returned (.bool (isG k)) ∧ Below w.heap.size w w' := by
  obtain ⟨b, hb⟩ : ∃ b, b = isG k := ⟨_, rfl⟩
  rw [← hb]
  unfold isG at hb
  have e1 := fun W => within_c k.i 1 99 W
  have e2 := fun W => within_c k.s 0 5000 W
  have e3 := fun W => within_c k.w 0 99 W
  have e4 := fun W => within_c k.g 0 99999 W
  have e5 := fun W => within_c k.p 0 9999 W
  have HB := Lib.hid hb
  clear hb
  generalize inR k.i 1 99 = b1 at *
  generalize inR k.s 0 5000 = b2 at *
  generalize inR k.w 0 99 = b3 at *
  generalize inR k.g 0 99999 = b4 at *
  generalize inR k.p 0 9999 = b5 at *
  have E1 := Lib.hid e1
  have E2 := Lib.hid e2
  have E3 := Lib.hid e3
  have E4 := Lib.hid e4
  have E5 := Lib.hid e5
  clear e1 e2 e3 e4 e5
  go_enter Try.func44, Try.ntmps44
  go_wp2_with fail
  refine (E1.out _).mono ?_
  rintro e w1 ⟨rfl, rfl⟩
  cases b1 with
  | false =>
    go_wp2
    go_ret
    exact ⟨ret_b (by rw [HB.out]; rfl), (Below.refl _ _).alloc (Nat.le_refl _) _⟩
  | true =>
    go_wp2_with fail
    refine (E2.out _).mono ?_
    rintro e w1 ⟨rfl, rfl⟩
    cases b2 with
    | false =>
      go_wp2
      go_ret
      exact ⟨ret_b (by rw [HB.out]; rfl), (Below.refl _ _).alloc (Nat.le_refl _) _⟩
    | true =>
      go_wp2_with fail
      refine (E3.out _).mono ?_
      rintro e w1 ⟨rfl, rfl⟩
      cases b3 with
      | false =>
        go_wp2
        go_ret
        exact ⟨ret_b (by rw [HB.out]; rfl), (Below.refl _ _).alloc (Nat.le_refl _) _⟩
      | true =>
        go_wp2_with fail
        refine (E4.out _).mono ?_
        rintro e w1 ⟨rfl, rfl⟩
        cases b4 with
        | false =>
          go_wp2
          go_ret
          exact ⟨ret_b (by rw [HB.out]; rfl), (Below.refl _ _).alloc (Nat.le_refl _) _⟩
        | true =>
          go_wp2_with fail
          refine (E5.out _).mono ?_
          rintro e w1 ⟨rfl, rfl⟩
          go_wp2
          go_ret
          exact ⟨ret_b (by rw [HB.out]; rfl), (Below.refl _ _).alloc (Nat.le_refl _) _⟩
set_option maxHeartbeats 1000000 in
theorem l7One_c (k : Grp) (w : World) :
    Calls Try.prog 59 #[.agg #[.int .i64 k.i, .int .i64 k.s, .int .i64 k.w, .int .i64 k.g, .int .i64 k.p]] w fun e w' => e = .returned (.bool (isG k)) ∧ Below w.heap.size w w' := by
  obtain ⟨b, hb⟩ : ∃ b, b = isG k := ⟨_, rfl⟩
  rw [← hb]
  unfold isG at hb
  have e1 := fun W => l1In_c k.i 1 99 W
  have e2 := fun W => l1In_c k.s 0 5000 W
  have e3 := fun W => l1In_c k.w 0 99 W
  have e4 := fun W => l1In_c k.g 0 99999 W
  have e5 := fun W => l7Day_c k.p W
  have HB := Lib.hid hb
  clear hb
  generalize inR k.i 1 99 = b1 at *
  generalize inR k.s 0 5000 = b2 at *
  generalize inR k.w 0 99 = b3 at *
  generalize inR k.g 0 99999 = b4 at *
  generalize inR k.p 0 9999 = b5 at *
  have E1 := Lib.hid e1
  have E2 := Lib.hid e2
  have E3 := Lib.hid e3
  have E4 := Lib.hid e4
  have E5 := Lib.hid e5
  clear e1 e2 e3 e4 e5
  go_enter Try.func59, Try.ntmps59
  go_wp2_with fail
  refine (E1.out _).mono ?_
  rintro e w1 ⟨rfl, rfl⟩
  cases b1 with
  | false =>
    go_wp2
    go_ret
    exact ⟨ret_b (by rw [HB.out]; rfl), (Below.refl _ _).alloc (Nat.le_refl _) _⟩
  | true =>
    go_wp2_with fail
    refine (E2.out _).mono ?_
    rintro e w1 ⟨rfl, rfl⟩
    cases b2 with
    | false =>
      go_wp2
      go_ret
      exact ⟨ret_b (by rw [HB.out]; rfl), (Below.refl _ _).alloc (Nat.le_refl _) _⟩
    | true =>
      go_wp2_with fail
      refine (E3.out _).mono ?_
      rintro e w1 ⟨rfl, rfl⟩
      cases b3 with
      | false =>
        go_wp2
        go_ret
        exact ⟨ret_b (by rw [HB.out]; rfl), (Below.refl _ _).alloc (Nat.le_refl _) _⟩
      | true =>
        go_wp2_with fail
        refine (E4.out _).mono ?_
        rintro e w1 ⟨rfl, rfl⟩
        cases b4 with
        | false =>
          go_wp2
          go_ret
          exact ⟨ret_b (by rw [HB.out]; rfl), (Below.refl _ _).alloc (Nat.le_refl _) _⟩
        | true =>
          go_wp2_with fail
          refine (E5.out _).mono ?_
          rintro e w1 ⟨rfl, rfl⟩
          go_wp2
          go_ret
          exact ⟨ret_b (by rw [HB.out]; rfl), (Below.refl _ _).alloc (Nat.le_refl _) _⟩
set_option maxHeartbeats 1000000 in
theorem specIsGrip_c (k : Grp) (w : World) :
    Calls Try.prog 45 #[.agg #[.int .i64 k.i, .int .i64 k.s, .int .i64 k.w, .int .i64 k.g, .int .i64 k.p]] w fun e w' => e = .returned (.bool (isG k)) ∧ Below w.heap.size w w' := by
  go_enter Try.func45, Try.ntmps45
  go_wp2_with fail
  refine (l7One_c k _).mono ?_
  rintro e w1 ⟨rfl, b1⟩
  go_wp2
  go_ret
  exact ⟨rfl, ((Below.refl _ _).alloc (Nat.le_refl _) _).trans (b1.mono (by simp))⟩
end Go.Proofs.Ytiogjocbiagipaa
