/- Rules, states and readings: the program's and the specification's answers as one function. No condition. -/
import Derived.Test.YtoamhbobcpljpaaWndMath
import Derived.Test.YtoamhbobcpljpaaDrew
import Derived.Laws.StructEq
import Derived.Deep.RegionHeld3
namespace Go.Proofs.Ytoamhbobcpljpaa
open Go.RowKit
set_option linter.unusedVariables false
theorem wrV_impl (r : Wru) : wrV r = (decide (2 ≤ r.a) && (decide (r.a < r.b) && (decide (r.b ≤ 60) && (inR r.c 1 (r.a - 1) && inR r.d 1 10)))) := by
  rw [Bool.eq_iff_iff, wrV_iff]
  simp only [Bool.and_eq_true, inR_iff, decide_eq_true_eq]
  omega
theorem isWind_c (v : Int) (w : World) :
    Calls Try.prog 60 #[.int .i64 v] w fun e w' => e = .returned (.bool (inR v 0 60)) ∧ w' = w := by
  have E0 := Lib.hid (fun W => within_c v 0 60 W)
  go_enter Try.func60, Try.ntmps60
  go_wp2_with fail
  refine (E0.out _).mono ?_
  rintro e w1 ⟨rfl, rfl⟩
  go_wp2
  go_ret
  exact ⟨rfl, rfl⟩
theorem l12Vote_c (v : Int) (w : World) :
    Calls Try.prog 65 #[.int .i64 v] w fun e w' => e = .returned (.bool (inR v 0 60)) ∧ w' = w := by
  have E0 := Lib.hid (fun W => l1In_c v 0 60 W)
  go_enter Try.func65, Try.ntmps65
  go_wp2_with fail
  refine (E0.out _).mono ?_
  rintro e w1 ⟨rfl, rfl⟩
  go_wp2
  go_ret
  exact ⟨rfl, rfl⟩
set_option maxRecDepth 100000 in
set_option maxHeartbeats 2000000 in
theorem implIsWindRule_c (r : Wru) (w : World) :
    Calls Try.prog 19 #[.agg #[.int .i64 r.a, .int .i64 r.b, .int .i64 r.c, .int .i64 r.d]] w fun e w' => e = .returned (.bool (wrV r)) ∧ Below w.heap.size w w' := by
  have HB := Lib.hid (wrV_impl r)
  have E1 := Lib.hid (fun W => within_c r.c 1 (r.a - 1) W)
  have E2 := Lib.hid (fun W => within_c r.d 1 10 W)
  generalize wrV r = b at *
  have HT := Lib.hid ((Below.refl w.heap.size w).alloc (Nat.le_refl _) (.cells #[.int .i64 r.a, .int .i64 r.b, .int .i64 r.c, .int .i64 r.d] 25))
  by_cases h1 : 2 ≤ r.a
  · have t1 : decide (2 ≤ r.a) = true := by simpa using h1
    by_cases h2 : r.a < r.b
    · have t2 : decide (r.a < r.b) = true := by simpa using h2
      by_cases h3 : r.b ≤ 60
      · have t3 : decide (r.b ≤ 60) = true := by simpa using h3
        have q1 : IntKind.i64.wrap (r.a - 1) = r.a - 1 := IntWalk.i64_in _ (by omega)
        have HX : Hid (b = (inR r.c 1 (r.a - 1) && inR r.d 1 10)) := Lib.hid (by rw [HB.out, t1, t2, t3]; rfl)
        clear h1 h2 h3 HB
        generalize inR r.c 1 (r.a - 1) = b1 at *
        generalize inR r.d 1 10 = b2 at *
        go_enter Try.func19, Try.ntmps19
        go_wp2_with fail
        refine (E1.out _).mono ?_
        rintro e w1 ⟨rfl, rfl⟩
        cases b1 with
        | false =>
          go_wp2
          go_ret
          exact ⟨ret_b (by rw [HX.out]; rfl), HT.out⟩
        | true =>
          go_wp2_with fail
          refine (E2.out _).mono ?_
          rintro e w2 ⟨rfl, rfl⟩
          go_wp2
          go_ret
          exact ⟨ret_b (by rw [HX.out]; rfl), HT.out⟩
      · have t3 : decide (r.b ≤ 60) = false := by simpa using h3
        have HX : Hid (b = false) := Lib.hid (by rw [HB.out, t1, t2, t3]; rfl)
        clear h1 h2 h3 HB
        go_enter Try.func19, Try.ntmps19
        go_wp2
        go_ret
        exact ⟨ret_b (by rw [HX.out]), HT.out⟩
    · have t2 : decide (r.a < r.b) = false := by simpa using h2
      have HX : Hid (b = false) := Lib.hid (by rw [HB.out, t1, t2]; rfl)
      clear h1 h2 HB
      go_enter Try.func19, Try.ntmps19
      go_wp2
      go_ret
      exact ⟨ret_b (by rw [HX.out]), HT.out⟩
  · have t1 : decide (2 ≤ r.a) = false := by simpa using h1
    have HX : Hid (b = false) := Lib.hid (by rw [HB.out, t1]; rfl)
    clear h1 HB
    go_enter Try.func19, Try.ntmps19
    go_wp2
    go_ret
    exact ⟨ret_b (by rw [HX.out]), HT.out⟩
theorem wrV_spec (r : Wru) : wrV r = (inR r.a 2 60 && (inR r.b (r.a + 1) 60 && (inR r.c 1 (r.a - 1) && inR r.d 1 10))) := by
  unfold wrV; simp only [Bool.and_assoc]
set_option maxRecDepth 100000 in
set_option maxHeartbeats 2000000 in
theorem l12Rule_c (r : Wru) (w : World) :
    Calls Try.prog 59 #[.agg #[.int .i64 r.a, .int .i64 r.b, .int .i64 r.c, .int .i64 r.d]] w fun e w' => e = .returned (.bool (wrV r)) ∧ Below w.heap.size w w' := by
  have HB := Lib.hid (wrV_spec r)
  have E0 := Lib.hid (fun W => l1In_c r.a 2 60 W)
  have E3 := Lib.hid (fun W => l1In_c r.b (r.a + 1) 60 W)
  have E1 := Lib.hid (fun W => l1In_c r.c 1 (r.a - 1) W)
  have E2 := Lib.hid (fun W => l1In_c r.d 1 10 W)
  have HI := Lib.hid (inR_iff r.a 2 60)
  generalize wrV r = b at *
  have HT := Lib.hid ((Below.refl w.heap.size w).alloc (Nat.le_refl _) (.cells #[.int .i64 r.a, .int .i64 r.b, .int .i64 r.c, .int .i64 r.d] 25))
  generalize inR r.a 2 60 = b0 at *
  generalize inR r.b (r.a + 1) 60 = b3 at *
  generalize inR r.c 1 (r.a - 1) = b1 at *
  generalize inR r.d 1 10 = b2 at *
  cases b0 with
  | false =>
    have HX : Hid (b = false) := Lib.hid (by rw [HB.out]; rfl)
    clear HB HI
    go_enter Try.func59, Try.ntmps59
    go_wp2_with fail
    refine (E0.out _).mono ?_
    rintro e w1 ⟨rfl, rfl⟩
    go_wp2
    go_ret
    exact ⟨ret_b (by rw [HX.out]), HT.out⟩
  | true =>
    have hI := HI.out.1 rfl
    have q1 : IntKind.i64.wrap (r.a - 1) = r.a - 1 := IntWalk.i64_in _ (by omega)
    have q2 : IntKind.i64.wrap (r.a + 1) = r.a + 1 := IntWalk.i64_in _ (by omega)
    clear hI HI
    go_enter Try.func59, Try.ntmps59
    go_wp2_with fail
    refine (E0.out _).mono ?_
    rintro e w1 ⟨rfl, rfl⟩
    go_wp2_with fail
    refine (E3.out _).mono ?_
    rintro e w2 ⟨rfl, rfl⟩
    cases b3 with
    | false =>
      go_wp2
      go_ret
      exact ⟨ret_b (by rw [HB.out]; rfl), HT.out⟩
    | true =>
      go_wp2_with fail
      refine (E1.out _).mono ?_
      rintro e w3 ⟨rfl, rfl⟩
      cases b1 with
      | false =>
        go_wp2
        go_ret
        exact ⟨ret_b (by rw [HB.out]; rfl), HT.out⟩
      | true =>
        go_wp2_with fail
        refine (E2.out _).mono ?_
        rintro e w4 ⟨rfl, rfl⟩
        go_wp2
        go_ret
        exact ⟨ret_b (by rw [HB.out]; rfl), HT.out⟩
theorem specIsWindRule_c (r : Wru) (w : World) :
    Calls Try.prog 20 #[.agg #[.int .i64 r.a, .int .i64 r.b, .int .i64 r.c, .int .i64 r.d]] w fun e w' => e = .returned (.bool (wrV r)) ∧ Below w.heap.size w w' := by
  have E0 := Lib.hid (fun W => l12Rule_c r W)
  generalize wrV r = b at *
  go_enter Try.func20, Try.ntmps20
  go_wp2_with fail
  refine (E0.out _).mono ?_
  rintro e w1 ⟨rfl, t1⟩
  have T1 := Lib.hid (((Below.refl w.heap.size w).alloc (Nat.le_refl _) _).trans (t1.mono (by simp)))
  go_wp2
  go_ret
  exact ⟨rfl, T1.out⟩
/-- Two states compared. -/
theorem eqlWst (x y u v : Int) (w : World) : (binOp .eql 27 (.agg #[.int .i64 x, .int .i64 y]) (.agg #[.int .i64 u, .int .i64 v])).run Try.prog w = .ok (.bool (decide (x = u) && decide (y = v))) w := by
  have hS : Try.prog.underlying 27 = some (.struct (Try.prog.fieldsOf 27)) := by kernel_rfl
  have hp : Try.prog.stoodInHeld 27 = false := by kernel_rfl
  have u3 := Try.underlying3
  have a3 := Try.isAgg3
  have z3 := Try.sizeOf3
  rw [run_eql_struct, show (10000 : Nat) = 9999 + 1 from rfl, run_equalIn_agg w 9999 _ _ _ hS hp]
  simp only [Program.fieldsOf, Try.underlying27]
  go_simp
  by_cases h1 : x = u <;> by_cases h2 : y = v <;> simp [h1, h2]
end Go.Proofs.Ytoamhbobcpljpaa
