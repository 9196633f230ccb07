/- What a load case is: the program's and the specification's answer as one function. No condition. -/
import Derived.Test.YtmmjbdffpgohdaaTenMath
namespace Go.Proofs.Ytmmjbdffpgohdaa
open Go.RowKit
set_option linter.unusedVariables false
set_option maxHeartbeats 1000000 in
theorem implIsLoadCase_c (x : LC) (w : World) :
    Calls Try.prog 24 #[.agg #[.int .i64 x.w, .int .i64 x.c, .int .i64 x.r]] w fun e w' => e = .returned (.bool (isLC x)) ∧ Below w.heap.size w w' := by
  obtain ⟨b, hb⟩ : ∃ b, b = isLC x := ⟨_, rfl⟩
  rw [← hb]
  unfold isLC at hb
  have e1 := fun W => within_c x.w 1 1000 W
  have e2 := fun W => within_c x.c 1 1000000 W
  have e3 := fun W => within_c x.r 0 1000 W
  have HB := Lib.hid hb
  clear hb
  generalize inR x.w 1 1000 = b1 at *
  generalize inR x.c 1 1000000 = b2 at *
  generalize inR x.r 0 1000 = b3 at *
  have E1 := Lib.hid e1
  have E2 := Lib.hid e2
  have E3 := Lib.hid e3
  clear e1 e2 e3
  go_enter Try.func24, Try.ntmps24
  go_wp2_with fail
  refine (E1.out _).mono ?_
  rintro e w1 ⟨rfl, rfl⟩
  cases b1 with
  | false =>
    go_wp2
    go_ret
    exact ⟨ret_b (by rw [HB.out]; rfl), (Below.refl _ _).alloc (Nat.le_refl _) _⟩
  | true =>
    go_wp2_with fail
    refine (E2.out _).mono ?_
    rintro e w1 ⟨rfl, rfl⟩
    cases b2 with
    | false =>
      go_wp2
      go_ret
      exact ⟨ret_b (by rw [HB.out]; rfl), (Below.refl _ _).alloc (Nat.le_refl _) _⟩
    | true =>
      go_wp2_with fail
      refine (E3.out _).mono ?_
      rintro e w1 ⟨rfl, rfl⟩
      go_wp2
      go_ret
      exact ⟨ret_b (by rw [HB.out]; rfl), (Below.refl _ _).alloc (Nat.le_refl _) _⟩
set_option maxHeartbeats 1000000 in
theorem l6Case_c (x : LC) (w : World) :
    Calls Try.prog 71 #[.agg #[.int .i64 x.w, .int .i64 x.c, .int .i64 x.r]] w fun e w' => e = .returned (.bool (isLC x)) ∧ Below w.heap.size w w' := by
  obtain ⟨b, hb⟩ : ∃ b, b = isLC x := ⟨_, rfl⟩
  rw [← hb]
  unfold isLC at hb
  have e1 := fun W => l1In_c x.w 1 1000 W
  have e2 := fun W => l1In_c x.c 1 1000000 W
  have e3 := fun W => l1In_c x.r 0 1000 W
  have HB := Lib.hid hb
  clear hb
  generalize inR x.w 1 1000 = b1 at *
  generalize inR x.c 1 1000000 = b2 at *
  generalize inR x.r 0 1000 = b3 at *
  have E1 := Lib.hid e1
  have E2 := Lib.hid e2
  have E3 := Lib.hid e3
  clear e1 e2 e3
  go_enter Try.func71, Try.ntmps71
  go_wp2_with fail
  refine (E1.out _).mono ?_
  rintro e w1 ⟨rfl, rfl⟩
  cases b1 with
  | false =>
    go_wp2
    go_ret
    exact ⟨ret_b (by rw [HB.out]; rfl), (Below.refl _ _).alloc (Nat.le_refl _) _⟩
  | true =>
    go_wp2_with fail
    refine (E2.out _).mono ?_
    rintro e w1 ⟨rfl, rfl⟩
    cases b2 with
    | false =>
      go_wp2
      go_ret
      exact ⟨ret_b (by rw [HB.out]; rfl), (Below.refl _ _).alloc (Nat.le_refl _) _⟩
    | true =>
      go_wp2_with fail
      refine (E3.out _).mono ?_
      rintro e w1 ⟨rfl, rfl⟩
      go_wp2
      go_ret
      exact ⟨ret_b (by rw [HB.out]; rfl), (Below.refl _ _).alloc (Nat.le_refl _) _⟩
set_option maxHeartbeats 1000000 in
theorem specIsLoadCase_c (x : LC) (w : World) :
    Calls Try.prog 25 #[.agg #[.int .i64 x.w, .int .i64 x.c, .int .i64 x.r]] w fun e w' => e = .returned (.bool (isLC x)) ∧ Below w.heap.size w w' := by
  go_enter Try.func25, Try.ntmps25
  go_wp2_with fail
  refine (l6Case_c x _).mono ?_
  rintro e w1 ⟨rfl, b1⟩
  go_wp2
  go_ret
  exact ⟨rfl, ((Below.refl _ _).alloc (Nat.le_refl _) _).trans (b1.mono (by simp))⟩
set_option maxHeartbeats 1000000 in
theorem l6Asked_c (v : Value) (l : List Sup) (x : LC) (w : World) (hr : Rs w v l.length (sups l)) (hn : l.length ≤ 1048576) :
    Calls Try.prog 77 #[v, .agg #[.int .i64 x.w, .int .i64 x.c, .int .i64 x.r]] w fun e w' => e = .returned (.bool (askOk l x)) ∧ Below w.heap.size w w' := by
  have HR := Lib.hid hr
  have HD : Hid (askOk l x = (isL l && isLC x)) := Lib.hid rfl
  clear hr
  have E0 := Lib.hid (fun W hW => l2Line_c v l W hW hn)
  have HX := Lib.hid (fun W h => box_LC w x 44 _ rfl W h)
  cases ho : isL l with
  | false =>
    rw [ho] at E0 HD
    clear ho
    go_enter Try.func77, Try.ntmps77
    go_wp2_with fail
    refine (E0.out _ (HR.out.below ((Below.refl _ _).alloc (Nat.le_refl _) _) rfl)).mono ?_
    rintro e w1 ⟨rfl, d1⟩
    go_wp2
    go_ret
    exact ⟨ret_b (by rw [HD.out]; rfl), Drew.below_trans ((Below.refl _ _).alloc (Nat.le_refl _) _) d1⟩
  | true =>
    rw [ho] at E0 HD
    clear ho
    go_enter Try.func77, Try.ntmps77
    go_wp2_with fail
    refine (E0.out _ (HR.out.below ((Below.refl _ _).alloc (Nat.le_refl _) _) rfl)).mono ?_
    rintro e w1 ⟨rfl, d1⟩
    obtain ⟨k0, k1, k2⟩ := HX.out w1 (d1.below _)
    have B1 := Lib.hid (Drew.below_trans ((Below.refl w.heap.size w).alloc (Nat.le_refl _) _) d1)
    clear d1
    go_wp2_with fail
    refine (l6Case_c x _).mono ?_
    rintro e w2 ⟨rfl, b2⟩
    go_wp2
    go_ret
    exact ⟨ret_b (by rw [HD.out]; rfl), B1.out.trans (b2.mono B1.out.size)⟩
end Go.Proofs.Ytmmjbdffpgohdaa
