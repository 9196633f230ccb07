/- What a rope is: the program's and the specification's answer as one function. No condition. -/
import Derived.Test.YtmmjbdffpgohdaaRpS
import Derived.Test.YtmmjbdffpgohdaaKindW
import Derived.Test.YtmmjbdffpgohdaaSpanAtC
namespace Go.Proofs.Ytmmjbdffpgohdaa
open Go.RowKit
set_option linter.unusedVariables false
/-- A valid rope. -/
def isR (r : Rp) : Bool := inR r.w 1 200 && inR r.p 1 100000
theorem isR_iff (r : Rp) : isR r = true ↔ (1 ≤ r.w ∧ r.w ≤ 200) ∧ (1 ≤ r.p ∧ r.p ≤ 100000) := by
  unfold isR; simp only [Bool.and_eq_true, inR_iff]
set_option maxHeartbeats 1000000 in
theorem implIsRope_c (r : Rp) (w : World) :
    Calls Try.prog 10 #[.agg #[.int .i64 r.w, .int .i64 r.p]] w fun e w' => e = .returned (.bool (isR r)) ∧ Below w.heap.size w w' := by
  obtain ⟨b, hb⟩ : ∃ b, b = isR r := ⟨_, rfl⟩
  rw [← hb]
  unfold isR at hb
  have e1 := fun W => within_c r.w 1 200 W
  have e2 := fun W => within_c r.p 1 100000 W
  have HB := Lib.hid hb
  clear hb
  generalize inR r.w 1 200 = b1 at *
  generalize inR r.p 1 100000 = b2 at *
  have E1 := Lib.hid e1
  have E2 := Lib.hid e2
  clear e1 e2
  go_enter Try.func10, Try.ntmps10
  go_wp2_with fail
  refine (E1.out _).mono ?_
  rintro e w1 ⟨rfl, rfl⟩
  cases b1 with
  | false =>
    go_wp2
    go_ret
    exact ⟨ret_b (by rw [HB.out]; rfl), (Below.refl _ _).alloc (Nat.le_refl _) _⟩
  | true =>
    go_wp2_with fail
    refine (E2.out _).mono ?_
    rintro e w1 ⟨rfl, rfl⟩
    go_wp2
    go_ret
    exact ⟨ret_b (by rw [HB.out]; rfl), (Below.refl _ _).alloc (Nat.le_refl _) _⟩
set_option maxHeartbeats 1000000 in
theorem l4Rope_c (r : Rp) (w : World) :
    Calls Try.prog 68 #[.agg #[.int .i64 r.w, .int .i64 r.p]] w fun e w' => e = .returned (.bool (isR r)) ∧ Below w.heap.size w w' := by
  obtain ⟨b, hb⟩ : ∃ b, b = isR r := ⟨_, rfl⟩
  rw [← hb]
  unfold isR at hb
  have e1 := fun W => l1In_c r.w 1 200 W
  have e2 := fun W => l1In_c r.p 1 100000 W
  have HB := Lib.hid hb
  clear hb
  generalize inR r.w 1 200 = b1 at *
  generalize inR r.p 1 100000 = b2 at *
  have E1 := Lib.hid e1
  have E2 := Lib.hid e2
  clear e1 e2
  go_enter Try.func68, Try.ntmps68
  go_wp2_with fail
  refine (E1.out _).mono ?_
  rintro e w1 ⟨rfl, rfl⟩
  cases b1 with
  | false =>
    go_wp2
    go_ret
    exact ⟨ret_b (by rw [HB.out]; rfl), (Below.refl _ _).alloc (Nat.le_refl _) _⟩
  | true =>
    go_wp2_with fail
    refine (E2.out _).mono ?_
    rintro e w1 ⟨rfl, rfl⟩
    go_wp2
    go_ret
    exact ⟨ret_b (by rw [HB.out]; rfl), (Below.refl _ _).alloc (Nat.le_refl _) _⟩
set_option maxHeartbeats 1000000 in
theorem specIsRope_c (r : Rp) (w : World) :
    Calls Try.prog 11 #[.agg #[.int .i64 r.w, .int .i64 r.p]] w fun e w' => e = .returned (.bool (isR r)) ∧ Below w.heap.size w w' := by
  go_enter Try.func11, Try.ntmps11
  go_wp2_with fail
  refine (l4Rope_c r _).mono ?_
  rintro e w1 ⟨rfl, b1⟩
  go_wp2
  go_ret
  exact ⟨rfl, ((Below.refl _ _).alloc (Nat.le_refl _) _).trans (b1.mono (by simp))⟩
/-- A line, a rope and a place that may be asked for. -/
noncomputable def sgOk (l : List Sup) (r : Rp) (p : Int) : Bool := onL l p && isR r
set_option maxHeartbeats 1000000 in
theorem l4Asked_c (v : Value) (l : List Sup) (r : Rp) (p : Int) (w : World) (hr : Rs w v l.length (sups l)) (hn : l.length ≤ 1048576) :
    Calls Try.prog 64 #[v, .agg #[.int .i64 r.w, .int .i64 r.p], .int .i64 p] w fun e w' => e = .returned (.bool (sgOk l r p)) ∧ Below w.heap.size w w' := by
  have HR := Lib.hid hr
  have HD : Hid (sgOk l r p = (onL l p && isR r)) := Lib.hid rfl
  clear hr
  have E0 := Lib.hid (fun W hW => l2On_c v l p W hW hn)
  have HX := Lib.hid (fun W h => box_Rp w r 26 _ rfl W h)
  cases ho : onL l p with
  | false =>
    rw [ho] at E0 HD
    clear ho
    go_enter Try.func64, Try.ntmps64
    go_wp2_with fail
    refine (E0.out _ (HR.out.below ((Below.refl _ _).alloc (Nat.le_refl _) _) rfl)).mono ?_
    rintro e w1 ⟨rfl, d1⟩
    go_wp2
    go_ret
    exact ⟨ret_b (by rw [HD.out]; rfl), Drew.below_trans ((Below.refl _ _).alloc (Nat.le_refl _) _) d1⟩
  | true =>
    rw [ho] at E0 HD
    clear ho
    go_enter Try.func64, Try.ntmps64
    go_wp2_with fail
    refine (E0.out _ (HR.out.below ((Below.refl _ _).alloc (Nat.le_refl _) _) rfl)).mono ?_
    rintro e w1 ⟨rfl, d1⟩
    obtain ⟨k0, k1⟩ := HX.out w1 (d1.below _)
    have B1 := Lib.hid (Drew.below_trans ((Below.refl w.heap.size w).alloc (Nat.le_refl _) _) d1)
    clear d1
    go_wp2_with fail
    refine (l4Rope_c r _).mono ?_
    rintro e w2 ⟨rfl, b2⟩
    go_wp2
    go_ret
    exact ⟨ret_b (by rw [HD.out]; rfl), B1.out.trans (b2.mono B1.out.size)⟩
end Go.Proofs.Ytmmjbdffpgohdaa
