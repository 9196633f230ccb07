/- Prices: valid ones, and those of the kinds. No condition. -/
import Derived.Test.YtpknodbkjjcdjaaDoorCheapM
import Derived.Test.YtpknodbkjjcdjaaDoorTikW
import Derived.Test.YtpknodbkjjcdjaaDoorAft
import Derived.LoopN
namespace Go.Proofs.YtpknodbkjjcdjaaDoor
open Go.RowKit
set_option linter.unusedVariables false
set_option maxRecDepth 100000 in
set_option maxHeartbeats 4000000 in
theorem pricesOfKinds_c (p : Prc) (w : World) :
    Calls Tryd.prog 82 #[.agg #[.int .i64 p.a, .int .i64 p.b, .int .i64 p.c, .int .i64 p.d]] w fun e w' => e = .returned (.agg #[.int .i64 p.a, .int .i64 p.b, .int .i64 p.c, .int .i64 p.d]) ∧ Below w.heap.size w w' := by
  go_enter Tryd.func82, Tryd.ntmps82
  go_wp2
  refine bodyPost_ret (v := .agg #[.int .i64 p.a, .int .i64 p.b, .int .i64 p.c, .int .i64 p.d]) (by simp [results, Tryd.results82, go_sem]) rfl ⟨rfl, ?_⟩
  first | exact (((Below.refl _ _).alloc (Nat.le_refl _) _).alloc (by simp) _) | skip
theorem idx4_0 (a b c d : Int) (w : World) : (Instr.index 103 (.agg #[.int .i64 a, .int .i64 b, .int .i64 c, .int .i64 d]) (.int .i64 0)).run Tryd.prog w = .ok (.int .i64 a) w := by kernel_rfl
theorem idx4_1 (a b c d : Int) (w : World) : (Instr.index 103 (.agg #[.int .i64 a, .int .i64 b, .int .i64 c, .int .i64 d]) (.int .i64 1)).run Tryd.prog w = .ok (.int .i64 b) w := by kernel_rfl
theorem idx4_2 (a b c d : Int) (w : World) : (Instr.index 103 (.agg #[.int .i64 a, .int .i64 b, .int .i64 c, .int .i64 d]) (.int .i64 2)).run Tryd.prog w = .ok (.int .i64 c) w := by kernel_rfl
theorem idx4_3 (a b c d : Int) (w : World) : (Instr.index 103 (.agg #[.int .i64 a, .int .i64 b, .int .i64 c, .int .i64 d]) (.int .i64 3)).run Tryd.prog w = .ok (.int .i64 d) w := by kernel_rfl
set_option maxRecDepth 100000 in
set_option maxHeartbeats 4000000 in
theorem arePrices_c (p : Prc) (w : World) :
    Calls Tryd.prog 76 #[.agg #[.int .i64 p.a, .int .i64 p.b, .int .i64 p.c, .int .i64 p.d]] w fun e w' => e = .returned (.bool (prcV p)) ∧ Below w.heap.size w w' := by
  obtain ⟨b, hb⟩ : ∃ b, b = prcV p := ⟨_, rfl⟩
  rw [← hb]
  unfold prcV at hb
  have E0 := Lib.hid (fun W => pricesOfKinds_c p W)
  have i0 := idx4_0 p.a p.b p.c p.d
  have i1 := idx4_1 p.a p.b p.c p.d
  have i2 := idx4_2 p.a p.b p.c p.d
  have i3 := idx4_3 p.a p.b p.c p.d
  have E1 := Lib.hid (fun W => within_c p.a 0 50000 W)
  have E2 := Lib.hid (fun W => within_c p.b 0 50000 W)
  have E3 := Lib.hid (fun W => within_c p.c 0 50000 W)
  have E4 := Lib.hid (fun W => within_c p.d 0 50000 W)
  have HB := Lib.hid hb
  clear hb
  generalize inR p.a 0 50000 = b1 at *
  generalize inR p.b 0 50000 = b2 at *
  generalize inR p.c 0 50000 = b3 at *
  generalize inR p.d 0 50000 = b4 at *
  go_enter Tryd.func76, Tryd.ntmps76
  go_wp2_with fail
  refine (E0.out _).mono ?_
  rintro e w1 ⟨rfl, t1⟩
  have T1 := Lib.hid (((Below.refl w.heap.size w).alloc (Nat.le_refl _) _).trans (t1.mono (by simp)))
  clear t1
  go_wp2_with fail
  refine wp_loop_rounds 5 ?_
  rw [rounds_succ]
  go_wp2_with fail
  refine (E1.out _).mono ?_
  rintro e w2 ⟨rfl, rfl⟩
  cases b1 with
  | false =>
    go_wp2
    go_ret
    exact ⟨ret_b (by rw [HB.out]; first | rfl | simp), T1.out⟩
  | true =>
    go_wp2_with fail
    rw [rounds_succ]
    go_wp2_with fail
    refine (E2.out _).mono ?_
    rintro e w3 ⟨rfl, rfl⟩
    cases b2 with
    | false =>
      go_wp2
      go_ret
      exact ⟨ret_b (by rw [HB.out]; first | rfl | simp), T1.out⟩
    | true =>
      go_wp2_with fail
      rw [rounds_succ]
      go_wp2_with fail
      refine (E3.out _).mono ?_
      rintro e w4 ⟨rfl, rfl⟩
      cases b3 with
      | false =>
        go_wp2
        go_ret
        exact ⟨ret_b (by rw [HB.out]; first | rfl | simp), T1.out⟩
      | true =>
        go_wp2_with fail
        rw [rounds_succ]
        go_wp2_with fail
        refine (E4.out _).mono ?_
        rintro e w5 ⟨rfl, rfl⟩
        cases b4 with
        | false =>
          go_wp2
          go_ret
          exact ⟨ret_b (by rw [HB.out]; first | rfl | simp), T1.out⟩
        | true =>
          go_wp2_with fail
          rw [rounds_succ]
          go_wp2
          go_ret
          exact ⟨ret_b (by rw [HB.out]; rfl), T1.out⟩
set_option maxRecDepth 100000 in
set_option maxHeartbeats 4000000 in
theorem l11Prices_c (p : Prc) (w : World) :
    Calls Tryd.prog 79 #[.agg #[.int .i64 p.a, .int .i64 p.b, .int .i64 p.c, .int .i64 p.d]] w fun e w' => e = .returned (.bool (prcV p)) ∧ Below w.heap.size w w' := by
  obtain ⟨b, hb⟩ : ∃ b, b = prcV p := ⟨_, rfl⟩
  rw [← hb]
  unfold prcV at hb
  have E1 := Lib.hid (fun W => l1In_c p.a 0 50000 W)
  have E2 := Lib.hid (fun W => l1In_c p.b 0 50000 W)
  have E3 := Lib.hid (fun W => l1In_c p.c 0 50000 W)
  have E4 := Lib.hid (fun W => l1In_c p.d 0 50000 W)
  have HB := Lib.hid hb
  clear hb
  generalize inR p.a 0 50000 = b1 at *
  generalize inR p.b 0 50000 = b2 at *
  generalize inR p.c 0 50000 = b3 at *
  generalize inR p.d 0 50000 = b4 at *
  go_enter Tryd.func79, Tryd.ntmps79
  go_wp2_with fail
  refine (E1.out _).mono ?_
  rintro e w1 ⟨rfl, rfl⟩
  cases b1 with
  | false =>
    go_wp2
    go_ret
    exact ⟨ret_b (by rw [HB.out]; rfl), (Below.refl _ _).alloc (Nat.le_refl _) _⟩
  | true =>
    go_wp2_with fail
    refine (E2.out _).mono ?_
    rintro e w2 ⟨rfl, rfl⟩
    cases b2 with
    | false =>
      go_wp2
      go_ret
      exact ⟨ret_b (by rw [HB.out]; rfl), (Below.refl _ _).alloc (Nat.le_refl _) _⟩
    | true =>
      go_wp2_with fail
      refine (E3.out _).mono ?_
      rintro e w3 ⟨rfl, rfl⟩
      cases b3 with
      | false =>
        go_wp2
        go_ret
        exact ⟨ret_b (by rw [HB.out]; rfl), (Below.refl _ _).alloc (Nat.le_refl _) _⟩
      | true =>
        go_wp2_with fail
        refine (E4.out _).mono ?_
        rintro e w4 ⟨rfl, rfl⟩
        go_wp2
        go_ret
        exact ⟨ret_b (by rw [HB.out]; rfl), (Below.refl _ _).alloc (Nat.le_refl _) _⟩
end Go.Proofs.YtpknodbkjjcdjaaDoor
