/- What a ticket is: the program's and the specification's answer as one function. Condition: the table of rules is as laid. -/
import Derived.Test.YtpknodbkjjcdjaaDoorTkMath
import Derived.BigQuiet
namespace Go.Proofs.YtpknodbkjjcdjaaDoor
open Go.RowKit
set_option linter.unusedVariables false
theorem isTicketDay_c (x : Int) (w : World) :
    Calls Tryd.prog 67 #[.int .i64 x] w fun e w' => e = .returned (.bool (inR x 0 999)) ∧ w' = w := by
  go_enter Tryd.func67, Tryd.ntmps67
  go_wp2_with fail
  refine (within_c x 0 999 _).mono ?_
  rintro e w1 ⟨rfl, rfl⟩
  go_wp2
  go_ret
  exact ⟨rfl, rfl⟩
theorem l11Day_c (x : Int) (w : World) :
    Calls Tryd.prog 65 #[.int .i64 x] w fun e w' => e = .returned (.bool (inR x 0 999)) ∧ w' = w := by
  go_enter Tryd.func65, Tryd.ntmps65
  go_wp2_with fail
  refine (l1In_c x 0 999 _).mono ?_
  rintro e w1 ⟨rfl, rfl⟩
  go_wp2
  go_ret
  exact ⟨rfl, rfl⟩
theorem l11Kind_c (x : Int) (w : World) :
    Calls Tryd.prog 87 #[.int .i64 x] w fun e w' => e = .returned (.bool (inR x 0 3)) ∧ w' = w := by
  go_enter Tryd.func87, Tryd.ntmps87
  go_wp2_with fail
  refine (l1In_c x 0 3 _).mono ?_
  rintro e w1 ⟨rfl, rfl⟩
  go_wp2
  go_ret
  exact ⟨rfl, rfl⟩
set_option maxHeartbeats 1000000 in
theorem isTicket_x (i s d g p : Int) (hs : inR s 0 3 = false) (w : World) :
    Calls Tryd.prog 33 #[.agg #[.int .i64 i, .int .i64 s, .int .i64 d, .int .i64 g, .int .i64 p]] w fun e w' => e = .returned (.bool (isT ⟨i, s, d, g, p⟩)) ∧ Below w.heap.size w w' := by
  have hb : isT ⟨i, s, d, g, p⟩ = false := by unfold isT; simp [hs]
  rw [hb]
  have E1 := Lib.hid (fun W => within_c i 1 9999 W)
  have E2 := Lib.hid (fun W => within_c s 0 3 W)
  rw [hs] at E2
  generalize inR i 1 9999 = b1 at *
  clear hb hs
  go_enter Tryd.func33, Tryd.ntmps33
  go_wp2_with fail
  refine (E1.out _).mono ?_
  rintro e w1 ⟨rfl, rfl⟩
  cases b1 with
  | false =>
    go_wp2
    go_ret
    exact ⟨rfl, (Below.refl _ _).alloc (Nat.le_refl _) _⟩
  | true =>
    go_wp2_with fail
    refine (E2.out _).mono ?_
    rintro e w1 ⟨rfl, rfl⟩
    go_wp2
    go_ret
    exact ⟨rfl, (Below.refl _ _).alloc (Nat.le_refl _) _⟩
set_option maxHeartbeats 2000000 in
theorem isTicket_k (i d g p : Int) (K : Nat) (hK : K < 4) (w : World) (hT : RulP w) :
    Calls Tryd.prog 33 #[.agg #[.int .i64 i, .int .i64 K, .int .i64 d, .int .i64 g, .int .i64 p]] w fun e w' => e = .returned (.bool (isT ⟨i, K, d, g, p⟩)) ∧ Below w.heap.size w w' := by
  obtain ⟨b, hb⟩ : ∃ b, b = isT ⟨i, K, d, g, p⟩ := ⟨_, rfl⟩
  rw [← hb]
  unfold isT at hb
  have hk2 : inR (K : Int) 0 3 = true := by rw [inR_iff]; omega
  simp only [hk2, Bool.and_true] at hb
  have e1 := fun W => within_c i 1 9999 W
  have e2 := fun W => within_c K 0 3 W
  rw [hk2] at e2
  have e3 := fun W => isTicketDay_c d W
  have e4 := fun W => within_c g 0 (tE K) W
  have e5 := fun W => within_c p 0 (tE K) W
  have HBD : Hid (inR g 0 (tE K) = true → inR p 0 (tE K) = true → IntKind.i64.wrap (g + p) = g + p) := Lib.hid (fun h1 h2 => by
    rw [inR_iff] at h1 h2
    have := tE_bd K
    exact IntWalk.i64_in _ (by omega))
  have HB := Lib.hid hb
  have HC := Lib.hid (fun W h => RulP.cells (w := W) h K hK)
  have HTT := Lib.hid hT
  have HX := Lib.hid (box_Tik w ⟨i, K, d, g, p⟩ 31 _ rfl)
  clear hb hT hk2
  generalize inR i 1 9999 = b1 at *
  generalize inR d 0 999 = b3 at *
  generalize inR g 0 (tE K) = b4 at *
  generalize inR p 0 (tE K) = b5 at *
  generalize tE K = TE at *
  generalize tB K = TB at *
  generalize tD K = TD at *
  have E1 := Lib.hid e1
  have E2 := Lib.hid e2
  have E3 := Lib.hid e3
  have E4 := Lib.hid e4
  have E5 := Lib.hid e5
  clear e1 e2 e3 e4 e5
  go_enter Tryd.func33, Tryd.ntmps33
  go_wp2_with fail
  generalize hW0 : w.alloc (.cells #[.int .i64 i, .int .i64 K, .int .i64 d, .int .i64 g, .int .i64 p] 31) = W0 at *
  have hs0 : W0.heap.size = w.heap.size + 1 := by rw [← hW0]; simp
  have B0 : Hid (Below w.heap.size w W0) := Lib.hid (by rw [← hW0]; exact (Below.refl _ _).alloc (Nat.le_refl _) _)
  obtain ⟨d0, d1, d2, d3, d4⟩ := HX.out W0 (Below.refl _ _)
  obtain ⟨c0, c1, c2⟩ := HC.out W0 (HTT.out.below B0.out)
  clear hW0 HX HC
  refine (E1.out _).mono ?_
  rintro e w1 ⟨rfl, rfl⟩
  cases b1 with
  | false =>
    go_wp2
    go_ret
    exact ⟨ret_b (by rw [HB.out]; rfl), B0.out⟩
  | true =>
    go_wp2_with fail
    refine (E2.out _).mono ?_
    rintro e w1 ⟨rfl, rfl⟩
    go_wp2_with fail
    refine (E3.out _).mono ?_
    rintro e w1 ⟨rfl, rfl⟩
    cases b3 with
    | false =>
      go_wp2
      go_ret
      exact ⟨ret_b (by rw [HB.out]; rfl), B0.out⟩
    | true =>
      go_wp2_with fail
      refine (E4.out _).mono ?_
      rintro e w1 ⟨rfl, rfl⟩
      cases b4 with
      | false =>
        go_wp2
        go_ret
        exact ⟨ret_b (by rw [HB.out]; rfl), B0.out.alloc B0.out.size _⟩
      | true =>
        go_wp2_with fail
        refine (E5.out _).mono ?_
        rintro e w1 ⟨rfl, rfl⟩
        cases b5 with
        | false =>
          go_wp2
          go_ret
          exact ⟨ret_b (by rw [HB.out]; rfl), B0.out.alloc B0.out.size _⟩
        | true =>
          have hw := HBD.out (by simp) (by simp)
          go_wp2
          go_ret
          exact ⟨ret_b (by rw [HB.out]; rfl), B0.out.alloc B0.out.size _⟩
theorem implIsTicket_c (k : Tik) (w : World) (hT : RulP w) :
    Calls Tryd.prog 33 #[.agg #[.int .i64 k.i, .int .i64 k.s, .int .i64 k.w, .int .i64 k.g, .int .i64 k.p]] w fun e w' => e = .returned (.bool (isT k)) ∧ Below w.heap.size w w' := by
  obtain ⟨i, s, d, g, p⟩ := k
  cases h : inR s 0 3 with
  | false => exact isTicket_x i s d g p h w
  | true =>
    obtain ⟨K, hK, rfl⟩ := kind_of h
    exact isTicket_k i d g p K hK w hT
/-- What is left lies in a cell of two numbers. -/
theorem ret_2 {a b c d : Int} (h : a = b) (g : c = d) : Ending.returned (.tuple #[.int .i64 a, .int .i64 c]) = .returned (.tuple #[.int .i64 b, .int .i64 d]) := by rw [h, g]
set_option maxHeartbeats 2000000 in
theorem l11Left_c (k : Tik) (w : World) (hg : 0 ≤ k.g ∧ k.g ≤ 50) (hp : 0 ≤ k.p ∧ k.p ≤ 50) (hs : 0 ≤ k.s ∧ k.s ≤ 3) :
    Calls Tryd.prog 88 #[.agg #[.int .i64 k.i, .int .i64 k.s, .int .i64 k.w, .int .i64 k.g, .int .i64 k.p]] w fun e w' => e = .returned (.tuple #[.int .i64 (lfU k), .int .i64 (lfD k)]) ∧ Below w.heap.size w w' := by
  obtain ⟨i, s, d, g, p⟩ := k
  simp only [] at hg hp hs
  have u1 : ∀ c : Int, 0 ≤ c → c ≤ 50 → IntKind.i64.wrap (c - g) = c - g := fun c h0 h1 => IntWalk.i64_in _ (by omega)
  have u2 : ∀ c : Int, 0 ≤ c → c ≤ 50 → IntKind.i64.wrap (c - p) = c - p := fun c h0 h1 => IntWalk.i64_in _ (by omega)
  have u3 : ∀ c : Int, 0 ≤ c → c ≤ 50 → IntKind.i64.wrap (c - g - p) = c - g - p := fun c h0 h1 => IntWalk.i64_in _ (by omega)
  have HX := Lib.hid (box_Tik w ⟨i, s, d, g, p⟩ 31 _ rfl)
  rcases (by omega : s = 0 ∨ s = 1 ∨ s = 2 ∨ s = 3) with rfl | rfl | rfl | rfl
  · have v1 := u1 1 (by decide) (by decide)
    have v2 := u2 1 (by decide) (by decide)
    have v3 := u3 1 (by decide) (by decide)
    clear u1 u2 u3
    go_enter Tryd.func88, Tryd.ntmps88
    go_wp2_with fail
    generalize hW0 : w.alloc (.cells #[.int .i64 i, .int .i64 0, .int .i64 d, .int .i64 g, .int .i64 p] 31) = W0 at *
    have hs0 : W0.heap.size = w.heap.size + 1 := by rw [← hW0]; simp
    have B0 : Hid (Below w.heap.size w W0) := Lib.hid (by rw [← hW0]; exact (Below.refl _ _).alloc (Nat.le_refl _) _)
    obtain ⟨d0, d1, d2, d3, d4⟩ := HX.out W0 (Below.refl _ _)
    clear hW0 HX
    go_quiet (fail)
    go_wp2
    go_ret2
    exact ⟨rfl, below_drewN B0.out _⟩
  · have v1 := u1 1 (by decide) (by decide)
    have v2 := u2 1 (by decide) (by decide)
    have v3 := u3 1 (by decide) (by decide)
    clear u1 u2 u3
    go_enter Tryd.func88, Tryd.ntmps88
    go_wp2_with fail
    generalize hW0 : w.alloc (.cells #[.int .i64 i, .int .i64 1, .int .i64 d, .int .i64 g, .int .i64 p] 31) = W0 at *
    have hs0 : W0.heap.size = w.heap.size + 1 := by rw [← hW0]; simp
    have B0 : Hid (Below w.heap.size w W0) := Lib.hid (by rw [← hW0]; exact (Below.refl _ _).alloc (Nat.le_refl _) _)
    obtain ⟨d0, d1, d2, d3, d4⟩ := HX.out W0 (Below.refl _ _)
    clear hW0 HX
    go_quiet (fail)
    go_wp2
    go_ret2
    exact ⟨rfl, below_drewN B0.out _⟩
  · have v1 := u1 50 (by decide) (by decide)
    have v2 := u2 50 (by decide) (by decide)
    have v3 := u3 50 (by decide) (by decide)
    clear u1 u2 u3
    go_enter Tryd.func88, Tryd.ntmps88
    go_wp2_with fail
    generalize hW0 : w.alloc (.cells #[.int .i64 i, .int .i64 2, .int .i64 d, .int .i64 g, .int .i64 p] 31) = W0 at *
    have hs0 : W0.heap.size = w.heap.size + 1 := by rw [← hW0]; simp
    have B0 : Hid (Below w.heap.size w W0) := Lib.hid (by rw [← hW0]; exact (Below.refl _ _).alloc (Nat.le_refl _) _)
    obtain ⟨d0, d1, d2, d3, d4⟩ := HX.out W0 (Below.refl _ _)
    clear hW0 HX
    go_quiet (fail)
    go_wp2
    go_ret2
    exact ⟨rfl, below_drewN B0.out _⟩
  · have v1 := u1 10 (by decide) (by decide)
    have v2 := u2 10 (by decide) (by decide)
    have v3 := u3 10 (by decide) (by decide)
    clear u1 u2 u3
    go_enter Tryd.func88, Tryd.ntmps88
    go_wp2_with fail
    generalize hW0 : w.alloc (.cells #[.int .i64 i, .int .i64 3, .int .i64 d, .int .i64 g, .int .i64 p] 31) = W0 at *
    have hs0 : W0.heap.size = w.heap.size + 1 := by rw [← hW0]; simp
    have B0 : Hid (Below w.heap.size w W0) := Lib.hid (by rw [← hW0]; exact (Below.refl _ _).alloc (Nat.le_refl _) _)
    obtain ⟨d0, d1, d2, d3, d4⟩ := HX.out W0 (Below.refl _ _)
    clear hW0 HX
    go_quiet (fail)
    go_wp2
    go_ret2
    exact ⟨rfl, below_drewN B0.out _⟩
end Go.Proofs.YtpknodbkjjcdjaaDoor
