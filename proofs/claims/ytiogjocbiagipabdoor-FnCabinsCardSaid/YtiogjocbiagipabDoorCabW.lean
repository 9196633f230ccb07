/- What a cabin is: the program's and the specification's answer as one function. No condition. -/
import Derived.Test.YtiogjocbiagipabDoorCabS
import Derived.Test.YtiogjocbiagipabDoorKindW
namespace Go.Proofs.YtiogjocbiagipabDoor
open Go.RowKit
set_option linter.unusedVariables false
theorem isCabinState_c (x : Int) (w : World) :
    Calls Tryd.prog 48 #[.int .i64 x] w fun e w' => e = .returned (.bool (inR x 0 3)) ∧ w' = w := by
  go_enter Tryd.func48, Tryd.ntmps48
  go_wp2_with fail
  refine (within_c x 0 3 _).mono ?_
  rintro e w1 ⟨rfl, rfl⟩
  go_wp2
  go_ret
  exact ⟨rfl, rfl⟩
theorem l5State_c (x : Int) (w : World) :
    Calls Tryd.prog 45 #[.int .i64 x] w fun e w' => e = .returned (.bool (inR x 0 3)) ∧ w' = w := by
  go_enter Tryd.func45, Tryd.ntmps45
  go_wp2_with fail
  refine (l1In_c x 0 3 _).mono ?_
  rintro e w1 ⟨rfl, rfl⟩
  go_wp2
  go_ret
  exact ⟨rfl, rfl⟩
/-- A valid cabin. -/
def isC (k : Cab) : Bool := inR k.i 1 99 && inR k.s 1 16 && inR k.w 100 2000 && inR k.g 0 3 && inR k.p 0 99999
theorem isC_iff (k : Cab) : isC k = true ↔ (1 ≤ k.i ∧ k.i ≤ 99) ∧ (1 ≤ k.s ∧ k.s ≤ 16) ∧ (100 ≤ k.w ∧ k.w ≤ 2000) ∧ (0 ≤ k.g ∧ k.g ≤ 3) ∧ (0 ≤ k.p ∧ k.p ≤ 99999) := by
  unfold isC; simp only [Bool.and_eq_true, inR_iff]
  constructor
  · rintro ⟨⟨⟨⟨a, b⟩, c⟩, d⟩, e⟩; exact ⟨a, b, c, d, e⟩
  · rintro ⟨a, b, c, d, e⟩; exact ⟨⟨⟨⟨a, b⟩, c⟩, d⟩, e⟩
set_option maxHeartbeats 1000000 in
theorem implIsCabin_c (k : Cab) (w : World) :
    Calls Tryd.prog 17 #[.agg #[.int .i64 k.i, .int .i64 k.s, .int .i64 k.w, .int .i64 k.g, .int .i64 k.p]] w fun e w' => e = .returned (.bool (isC k)) ∧ Below w.heap.size w w' := by
  obtain ⟨b, hb⟩ : ∃ b, b = isC k := ⟨_, rfl⟩
  rw [← hb]
  unfold isC at hb
  have e1 := fun W => within_c k.i 1 99 W
  have e2 := fun W => within_c k.s 1 16 W
  have e3 := fun W => within_c k.w 100 2000 W
  have e4 := fun W => isCabinState_c k.g W
  have e5 := fun W => within_c k.p 0 99999 W
  have HB := Lib.hid hb
  clear hb
  generalize inR k.i 1 99 = b1 at *
  generalize inR k.s 1 16 = b2 at *
  generalize inR k.w 100 2000 = b3 at *
  generalize inR k.g 0 3 = b4 at *
  generalize inR k.p 0 99999 = b5 at *
  have E1 := Lib.hid e1
  have E2 := Lib.hid e2
  have E3 := Lib.hid e3
  have E4 := Lib.hid e4
  have E5 := Lib.hid e5
  clear e1 e2 e3 e4 e5
  go_enter Tryd.func17, Tryd.ntmps17
  go_wp2_with fail
  refine (E1.out _).mono ?_
  rintro e w1 ⟨rfl, rfl⟩
  cases b1 with
  | false =>
    go_wp2
    go_ret
    exact ⟨ret_b (by rw [HB.out]; rfl), (Below.refl _ _).alloc (Nat.le_refl _) _⟩
  | true =>
    go_wp2_with fail
    refine (E2.out _).mono ?_
    rintro e w1 ⟨rfl, rfl⟩
    cases b2 with
    | false =>
      go_wp2
      go_ret
      exact ⟨ret_b (by rw [HB.out]; rfl), (Below.refl _ _).alloc (Nat.le_refl _) _⟩
    | true =>
      go_wp2_with fail
      refine (E3.out _).mono ?_
      rintro e w1 ⟨rfl, rfl⟩
      cases b3 with
      | false =>
        go_wp2
        go_ret
        exact ⟨ret_b (by rw [HB.out]; rfl), (Below.refl _ _).alloc (Nat.le_refl _) _⟩
      | true =>
        go_wp2_with fail
        refine (E4.out _).mono ?_
        rintro e w1 ⟨rfl, rfl⟩
        cases b4 with
        | false =>
          go_wp2
          go_ret
          exact ⟨ret_b (by rw [HB.out]; rfl), (Below.refl _ _).alloc (Nat.le_refl _) _⟩
        | true =>
          go_wp2_with fail
          refine (E5.out _).mono ?_
          rintro e w1 ⟨rfl, rfl⟩
          go_wp2
          go_ret
          exact ⟨ret_b (by rw [HB.out]; rfl), (Below.refl _ _).alloc (Nat.le_refl _) _⟩
set_option maxHeartbeats 1000000 in
theorem l5One_c (k : Cab) (w : World) :
    Calls Tryd.prog 55 #[.agg #[.int .i64 k.i, .int .i64 k.s, .int .i64 k.w, .int .i64 k.g, .int .i64 k.p]] w fun e w' => e = .returned (.bool (isC k)) ∧ Below w.heap.size w w' := by
  obtain ⟨b, hb⟩ : ∃ b, b = isC k := ⟨_, rfl⟩
  rw [← hb]
  unfold isC at hb
  have e1 := fun W => l1In_c k.i 1 99 W
  have e2 := fun W => l1In_c k.s 1 16 W
  have e3 := fun W => l1In_c k.w 100 2000 W
  have e4 := fun W => l5State_c k.g W
  have e5 := fun W => l1In_c k.p 0 99999 W
  have HB := Lib.hid hb
  clear hb
  generalize inR k.i 1 99 = b1 at *
  generalize inR k.s 1 16 = b2 at *
  generalize inR k.w 100 2000 = b3 at *
  generalize inR k.g 0 3 = b4 at *
  generalize inR k.p 0 99999 = b5 at *
  have E1 := Lib.hid e1
  have E2 := Lib.hid e2
  have E3 := Lib.hid e3
  have E4 := Lib.hid e4
  have E5 := Lib.hid e5
  clear e1 e2 e3 e4 e5
  go_enter Tryd.func55, Tryd.ntmps55
  go_wp2_with fail
  refine (E1.out _).mono ?_
  rintro e w1 ⟨rfl, rfl⟩
  cases b1 with
  | false =>
    go_wp2
    go_ret
    exact ⟨ret_b (by rw [HB.out]; rfl), (Below.refl _ _).alloc (Nat.le_refl _) _⟩
  | true =>
    go_wp2_with fail
    refine (E2.out _).mono ?_
    rintro e w1 ⟨rfl, rfl⟩
    cases b2 with
    | false =>
      go_wp2
      go_ret
      exact ⟨ret_b (by rw [HB.out]; rfl), (Below.refl _ _).alloc (Nat.le_refl _) _⟩
    | true =>
      go_wp2_with fail
      refine (E3.out _).mono ?_
      rintro e w1 ⟨rfl, rfl⟩
      cases b3 with
      | false =>
        go_wp2
        go_ret
        exact ⟨ret_b (by rw [HB.out]; rfl), (Below.refl _ _).alloc (Nat.le_refl _) _⟩
      | true =>
        go_wp2_with fail
        refine (E4.out _).mono ?_
        rintro e w1 ⟨rfl, rfl⟩
        cases b4 with
        | false =>
          go_wp2
          go_ret
          exact ⟨ret_b (by rw [HB.out]; rfl), (Below.refl _ _).alloc (Nat.le_refl _) _⟩
        | true =>
          go_wp2_with fail
          refine (E5.out _).mono ?_
          rintro e w1 ⟨rfl, rfl⟩
          go_wp2
          go_ret
          exact ⟨ret_b (by rw [HB.out]; rfl), (Below.refl _ _).alloc (Nat.le_refl _) _⟩
end Go.Proofs.YtiogjocbiagipabDoor
