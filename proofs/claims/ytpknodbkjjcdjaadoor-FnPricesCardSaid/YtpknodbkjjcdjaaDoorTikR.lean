/- Rides left and use of one ticket: the program's and the specification's answer as one function. Condition: the table of rules is as laid. -/
import Derived.Test.YtpknodbkjjcdjaaDoorTikW
import Derived.Test.YtpknodbkjjcdjaaDoorAft
namespace Go.Proofs.YtpknodbkjjcdjaaDoor
open Go.RowKit
set_option linter.unusedVariables false
theorem ret_i {a b : Int} (h : a = b) : Ending.returned (.int .i64 a) = .returned (.int .i64 b) := by rw [h]
set_option maxRecDepth 100000 in
set_option maxHeartbeats 2000000 in
theorem l11One_c (k : Tik) (w : World) :
    Calls Tryd.prog 73 #[.agg #[.int .i64 k.i, .int .i64 k.s, .int .i64 k.w, .int .i64 k.g, .int .i64 k.p]] w fun e w' => e = .returned (.bool (isT k)) ∧ Below w.heap.size w w' := by
  obtain ⟨i, s, d, g, p⟩ := k
  obtain ⟨b, hb⟩ : ∃ b, b = isT ⟨i, s, d, g, p⟩ := ⟨_, rfl⟩
  rw [← hb]
  rw [isT_spec] at hb
  have HL : Hid (inR s 0 3 = true → inR g 0 50 = true → inR p 0 50 = true → ∀ W, Calls Tryd.prog 88 #[.agg #[.int .i64 i, .int .i64 s, .int .i64 d, .int .i64 g, .int .i64 p]] W fun e w' => e = .returned (.tuple #[.int .i64 (lfU ⟨i, s, d, g, p⟩), .int .i64 (lfD ⟨i, s, d, g, p⟩)]) ∧ Below W.heap.size W w') := Lib.hid (fun h1 h2 h3 W => by
    rw [inR_iff] at h1 h2 h3
    exact l11Left_c ⟨i, s, d, g, p⟩ W h2 h3 h1)
  have E1 := Lib.hid (fun W => l1In_c i 1 9999 W)
  have E2 := Lib.hid (fun W => l11Kind_c s W)
  have E3 := Lib.hid (fun W => l11Day_c d W)
  have E4 := Lib.hid (fun W => l1In_c g 0 50 W)
  have E5 := Lib.hid (fun W => l1In_c p 0 50 W)
  have HB := Lib.hid hb
  have HX := Lib.hid (box_Tik w ⟨i, s, d, g, p⟩ 31 _ rfl)
  clear hb
  simp only [] at HB
  generalize inR i 1 9999 = b1 at *
  generalize inR s 0 3 = b2 at *
  generalize inR d 0 999 = b3 at *
  generalize inR g 0 50 = b4 at *
  generalize inR p 0 50 = b5 at *
  generalize lfU ⟨i, s, d, g, p⟩ = U at *
  generalize lfD ⟨i, s, d, g, p⟩ = V at *
  go_enter Tryd.func73, Tryd.ntmps73
  go_wp2_with fail
  generalize hW0 : w.alloc (.cells #[.int .i64 i, .int .i64 s, .int .i64 d, .int .i64 g, .int .i64 p] 31) = W0 at *
  have hs0 : W0.heap.size = w.heap.size + 1 := by rw [← hW0]; simp
  have B0 : Hid (Below w.heap.size w W0) := Lib.hid (by rw [← hW0]; exact (Below.refl _ _).alloc (Nat.le_refl _) _)
  have bx := HX.out W0 (Below.refl _ _)
  obtain ⟨d0, d1, d2, d3, d4⟩ := bx
  clear hW0 HX
  refine (E1.out _).mono ?_
  rintro e w1 ⟨rfl, rfl⟩
  cases b1 with
  | false =>
    go_wp2
    go_ret
    exact ⟨ret_b (by rw [HB.out]; rfl), B0.out⟩
  | true =>
    go_wp2_with fail
    refine (E2.out _).mono ?_
    rintro e w1 ⟨rfl, rfl⟩
    cases b2 with
    | false =>
      go_wp2
      go_ret
      exact ⟨ret_b (by rw [HB.out]; rfl), B0.out⟩
    | true =>
      go_wp2_with fail
      refine (E3.out _).mono ?_
      rintro e w1 ⟨rfl, rfl⟩
      cases b3 with
      | false =>
        go_wp2
        go_ret
        exact ⟨ret_b (by rw [HB.out]; rfl), B0.out⟩
      | true =>
        go_wp2_with fail
        refine (E4.out _).mono ?_
        rintro e w1 ⟨rfl, rfl⟩
        cases b4 with
        | false =>
          go_wp2
          go_ret
          exact ⟨ret_b (by rw [HB.out]; rfl), B0.out⟩
        | true =>
          go_wp2_with fail
          refine (E5.out _).mono ?_
          rintro e w1 ⟨rfl, rfl⟩
          cases b5 with
          | false =>
            go_wp2
            go_ret
            exact ⟨ret_b (by rw [HB.out]; rfl), B0.out⟩
          | true =>
            have HLL := Lib.hid (HL.out (by simp) (by simp) (by simp))
            clear HL
            go_wp2_with fail
            refine (HLL.out _).mono ?_
            rintro e w2 ⟨rfl, b2⟩
            have hT1 := Lib.hid (B0.out.trans (b2.mono B0.out.size))
            by_cases hu : 0 ≤ U
            · have q1 : decide (0 ≤ U) = true := by simpa using hu
              by_cases hv : 0 ≤ V
              · have q2 : decide (0 ≤ V) = true := by simpa using hv
                have HE : Hid (b = true) := Lib.hid (by rw [HB.out]; simp [q1, q2])
                clear HB
                go_wp2
                go_ret
                exact ⟨ret_b HE.out.symm, hT1.out⟩
              · have q2 : decide (0 ≤ V) = false := by simpa using hv
                have HE : Hid (b = false) := Lib.hid (by rw [HB.out]; simp [q1, q2])
                clear HB
                go_wp2
                go_ret
                exact ⟨ret_b HE.out.symm, hT1.out⟩
            · have q1 : decide (0 ≤ U) = false := by simpa using hu
              have HE : Hid (b = false) := Lib.hid (by rw [HB.out]; simp [q1])
              clear HB
              go_wp2
              go_ret
              exact ⟨ret_b HE.out.symm, hT1.out⟩
theorem specIsTicket_c (k : Tik) (w : World) :
    Calls Tryd.prog 34 #[.agg #[.int .i64 k.i, .int .i64 k.s, .int .i64 k.w, .int .i64 k.g, .int .i64 k.p]] w fun e w' => e = .returned (.bool (isT k)) ∧ Below w.heap.size w w' := by
  go_enter Tryd.func34, Tryd.ntmps34
  go_wp2_with fail
  refine (l11One_c k _).mono ?_
  rintro e w1 ⟨rfl, b1⟩
  go_wp2
  go_ret
  exact ⟨rfl, ((Below.refl _ _).alloc (Nat.le_refl _) _).trans (b1.mono (by simp))⟩
set_option maxRecDepth 100000 in
set_option maxHeartbeats 2000000 in
theorem isForDay_k (i d g p D : Int) (K : Nat) (hK : K < 4) (w : World) (hT : RulP w) (hd : 0 ≤ d ∧ d ≤ 999) :
    Calls Tryd.prog 68 #[.agg #[.int .i64 i, .int .i64 K, .int .i64 d, .int .i64 g, .int .i64 p], .int .i64 D] w fun e w' => e = .returned (.bool (forD ⟨i, K, d, g, p⟩ D)) ∧ Below w.heap.size w w' := by
  have hb := tD_bd K
  have q1 : IntKind.i64.wrap (d + tD K) = d + tD K := IntWalk.i64_in _ (by omega)
  have q2 : IntKind.i64.wrap (d + tD K - 1) = d + tD K - 1 := IntWalk.i64_in _ (by omega)
  have HC := Lib.hid (fun W h => RulP.cells (w := W) h K hK)
  have HTT := Lib.hid hT
  have E1 := Lib.hid (fun W => within_c D d (d + tD K - 1) W)
  have HX := Lib.hid (box_Tik w ⟨i, K, d, g, p⟩ 31 _ rfl)
  show Calls Tryd.prog _ _ w fun e w' => e = .returned (.bool (inR D d (d + tD K - 1))) ∧ Below w.heap.size w w'
  generalize inR D d (d + tD K - 1) = R at *
  clear hT hb hd
  go_enter Tryd.func68, Tryd.ntmps68
  go_wp2_with fail
  generalize hW0 : w.alloc (.cells #[.int .i64 i, .int .i64 K, .int .i64 d, .int .i64 g, .int .i64 p] 31) = W0 at *
  have hs0 : W0.heap.size = w.heap.size + 1 := by rw [← hW0]; simp
  have B0 : Hid (Below w.heap.size w W0) := Lib.hid (by rw [← hW0]; exact (Below.refl _ _).alloc (Nat.le_refl _) _)
  have bx := HX.out W0 (Below.refl _ _)
  obtain ⟨d0, d1, d2, d3, d4⟩ := bx
  clear hW0 HX
  obtain ⟨c0, c1, c2⟩ := HC.out W0 (HTT.out.below B0.out)
  have D1 : ∀ x : Aft W0, x.w.cell? ⟨w.heap.size, 1, none⟩ = some (.int .i64 K) := fun x => x.cell d1
  have D2 : ∀ x : Aft W0, x.w.cell? ⟨w.heap.size, 2, none⟩ = some (.int .i64 d) := fun x => x.cell d2
  have C2 : ∀ x : Aft W0, x.w.cell? ⟨0, K * 3 + 2, none⟩ = some (.int .i64 (tD K)) := fun x => x.cell c2
  generalize tD K = TD at *
  clear c0 c1 c2 d0 d1 d2 d3 d4
  refine wp_region_aft (w0 := W0) (by kernel_rfl) (by kernel_rfl) (Below.refl _ _) ?_
  repeat (go_big_quiet_step (first | (go_at_call 74; exact aft_same (E1.out _)) | fail))
  refine wpQuiet_nil ?_
  rintro _ ⟨x, rfl⟩
  go_wp2
  go_ret
  exact ⟨rfl, B0.out.trans (x.below.mono B0.out.size)⟩
theorem isForDay_t (k : Tik) (D : Int) (w : World) (hT : RulP w) (hk : isT k = true) :
    Calls Tryd.prog 68 #[.agg #[.int .i64 k.i, .int .i64 k.s, .int .i64 k.w, .int .i64 k.g, .int .i64 k.p], .int .i64 D] w fun e w' => e = .returned (.bool (forD k D)) ∧ Below w.heap.size w w' := by
  obtain ⟨i, s, d, g, p⟩ := k
  have h := (isT_iff _).1 hk
  simp only [] at h
  obtain ⟨K, hK, rfl⟩ := kind_of (s := s) ((inR_iff _ _ _).2 (by omega))
  exact isForDay_k i d g p D K hK w hT (by omega)
set_option maxRecDepth 100000 in
set_option maxHeartbeats 2000000 in
theorem l11Last_c (k : Tik) (w : World) (hw : 0 ≤ k.w ∧ k.w ≤ 999) (hs : 0 ≤ k.s ∧ k.s ≤ 3) :
    Calls Tryd.prog 71 #[.agg #[.int .i64 k.i, .int .i64 k.s, .int .i64 k.w, .int .i64 k.g, .int .i64 k.p]] w fun e w' => e = .returned (.int .i64 (k.w + tD k.s - 1)) ∧ Below w.heap.size w w' := by
  obtain ⟨i, s, d, g, p⟩ := k
  simp only [] at hw hs
  have v1 : IntKind.i64.wrap (d + 364) = d + 364 := IntWalk.i64_in _ (by omega)
  have v2 : IntKind.i64.wrap (d + 1) = d + 1 := IntWalk.i64_in _ (by omega)
  have HX := Lib.hid (box_Tik w ⟨i, s, d, g, p⟩ 31 _ rfl)
  rcases (by omega : s = 0 ∨ s = 1 ∨ s = 2 ∨ s = 3) with rfl | rfl | rfl | rfl
  · have HE : Hid (d + 1 = d + tD 0 - 1) := Lib.hid (by unfold tD; simp; try omega)
    go_enter Tryd.func71, Tryd.ntmps71
    go_wp2_with fail
    generalize hW0 : w.alloc (.cells #[.int .i64 i, .int .i64 0, .int .i64 d, .int .i64 g, .int .i64 p] 31) = W0 at *
    have hs0 : W0.heap.size = w.heap.size + 1 := by rw [← hW0]; simp
    have B0 : Hid (Below w.heap.size w W0) := Lib.hid (by rw [← hW0]; exact (Below.refl _ _).alloc (Nat.le_refl _) _)
    have bx := HX.out W0 (Below.refl _ _)
    obtain ⟨d0, d1, d2, d3, d4⟩ := bx
    clear hW0 HX
    go_wp2
    go_ret
    exact ⟨ret_i HE.out, B0.out⟩
  · have HE : Hid (d + 1 = d + tD 1 - 1) := Lib.hid (by unfold tD; simp; try omega)
    go_enter Tryd.func71, Tryd.ntmps71
    go_wp2_with fail
    generalize hW0 : w.alloc (.cells #[.int .i64 i, .int .i64 1, .int .i64 d, .int .i64 g, .int .i64 p] 31) = W0 at *
    have hs0 : W0.heap.size = w.heap.size + 1 := by rw [← hW0]; simp
    have B0 : Hid (Below w.heap.size w W0) := Lib.hid (by rw [← hW0]; exact (Below.refl _ _).alloc (Nat.le_refl _) _)
    have bx := HX.out W0 (Below.refl _ _)
    obtain ⟨d0, d1, d2, d3, d4⟩ := bx
    clear hW0 HX
    go_wp2
    go_ret
    exact ⟨ret_i HE.out, B0.out⟩
  · have HE : Hid (d = d + tD 2 - 1) := Lib.hid (by unfold tD; simp; try omega)
    go_enter Tryd.func71, Tryd.ntmps71
    go_wp2_with fail
    generalize hW0 : w.alloc (.cells #[.int .i64 i, .int .i64 2, .int .i64 d, .int .i64 g, .int .i64 p] 31) = W0 at *
    have hs0 : W0.heap.size = w.heap.size + 1 := by rw [← hW0]; simp
    have B0 : Hid (Below w.heap.size w W0) := Lib.hid (by rw [← hW0]; exact (Below.refl _ _).alloc (Nat.le_refl _) _)
    have bx := HX.out W0 (Below.refl _ _)
    obtain ⟨d0, d1, d2, d3, d4⟩ := bx
    clear hW0 HX
    go_wp2
    go_ret
    exact ⟨ret_i HE.out, B0.out⟩
  · have HE : Hid (d + 364 = d + tD 3 - 1) := Lib.hid (by unfold tD; simp; try omega)
    go_enter Tryd.func71, Tryd.ntmps71
    go_wp2_with fail
    generalize hW0 : w.alloc (.cells #[.int .i64 i, .int .i64 3, .int .i64 d, .int .i64 g, .int .i64 p] 31) = W0 at *
    have hs0 : W0.heap.size = w.heap.size + 1 := by rw [← hW0]; simp
    have B0 : Hid (Below w.heap.size w W0) := Lib.hid (by rw [← hW0]; exact (Below.refl _ _).alloc (Nat.le_refl _) _)
    have bx := HX.out W0 (Below.refl _ _)
    obtain ⟨d0, d1, d2, d3, d4⟩ := bx
    clear hW0 HX
    go_wp2
    go_ret
    exact ⟨ret_i HE.out, B0.out⟩
set_option maxRecDepth 100000 in
set_option maxHeartbeats 2000000 in
theorem l11Rides_c (k : Tik) (D : Int) (w : World) (hk : isT k = true) :
    Calls Tryd.prog 85 #[.agg #[.int .i64 k.i, .int .i64 k.s, .int .i64 k.w, .int .i64 k.g, .int .i64 k.p], .int .i64 D] w fun e w' => e = .returned (.tuple #[.int .i64 (rdU k D), .int .i64 (rdD k D)]) ∧ Below w.heap.size w w' := by
  obtain ⟨i, s, d, g, p⟩ := k
  have hi := (isT_iff _).1 hk
  simp only [] at hi
  have hb := tE_bd s
  have HL := Lib.hid (fun W => l11Left_c ⟨i, s, d, g, p⟩ W (by simp only []; omega) (by simp only []; omega) (by simp only []; omega))
  have HD := Lib.hid (fun W => l11Last_c ⟨i, s, d, g, p⟩ W (by simp only []; omega) (by simp only []; omega))
  have E1 := Lib.hid (fun W => l1In_c D d (d + tD s - 1) W)
  simp only [] at HL HD
  have HX := Lib.hid (box_Tik w ⟨i, s, d, g, p⟩ 31 _ rfl)
  have hR : forD ⟨i, s, d, g, p⟩ D = inR D d (d + tD s - 1) := rfl
  unfold rdU rdD
  rw [hR]
  generalize inR D d (d + tD s - 1) = R at *
  generalize lfU ⟨i, s, d, g, p⟩ = U at *
  generalize lfD ⟨i, s, d, g, p⟩ = V at *
  generalize d + tD s - 1 = LD at *
  clear hk hi hb hR
  cases R with
  | false =>
    go_enter Tryd.func85, Tryd.ntmps85
    go_wp2_with fail
    generalize hW0 : w.alloc (.cells #[.int .i64 i, .int .i64 s, .int .i64 d, .int .i64 g, .int .i64 p] 31) = W0 at *
    have hs0 : W0.heap.size = w.heap.size + 1 := by rw [← hW0]; simp
    have B0 : Hid (Below w.heap.size w W0) := Lib.hid (by rw [← hW0]; exact (Below.refl _ _).alloc (Nat.le_refl _) _)
    have bx := HX.out W0 (Below.refl _ _)
    obtain ⟨d0, d1, d2, d3, d4⟩ := bx
    clear hW0 HX
    have D0 : ∀ x : Aft W0, x.w.cell? ⟨w.heap.size, 0, none⟩ = some (.int .i64 i) := fun x => x.cell d0
    have D1 : ∀ x : Aft W0, x.w.cell? ⟨w.heap.size, 1, none⟩ = some (.int .i64 s) := fun x => x.cell d1
    have D2 : ∀ x : Aft W0, x.w.cell? ⟨w.heap.size, 2, none⟩ = some (.int .i64 d) := fun x => x.cell d2
    have D3 : ∀ x : Aft W0, x.w.cell? ⟨w.heap.size, 3, none⟩ = some (.int .i64 g) := fun x => x.cell d3
    have D4 : ∀ x : Aft W0, x.w.cell? ⟨w.heap.size, 4, none⟩ = some (.int .i64 p) := fun x => x.cell d4
    clear d0 d1 d2 d3 d4
    refine wp_region_aft (w0 := W0) (by kernel_rfl) (by kernel_rfl) (Below.refl _ _) ?_
    repeat (go_big_quiet_step (first | (go_at_call 71; exact aft_of (HD.out _)) | (go_at_call 80; exact aft_same (E1.out _)) | fail))
    refine wpQuiet_nil ?_
    rintro _ ⟨x, rfl⟩
    go_wp2
    go_ret2
    exact ⟨ret_2 (by simp) (by simp), B0.out.trans (x.below.mono B0.out.size)⟩
  | true =>
    go_enter Tryd.func85, Tryd.ntmps85
    go_wp2_with fail
    generalize hW0 : w.alloc (.cells #[.int .i64 i, .int .i64 s, .int .i64 d, .int .i64 g, .int .i64 p] 31) = W0 at *
    have hs0 : W0.heap.size = w.heap.size + 1 := by rw [← hW0]; simp
    have B0 : Hid (Below w.heap.size w W0) := Lib.hid (by rw [← hW0]; exact (Below.refl _ _).alloc (Nat.le_refl _) _)
    have bx := HX.out W0 (Below.refl _ _)
    obtain ⟨d0, d1, d2, d3, d4⟩ := bx
    clear hW0 HX
    have D0 : ∀ x : Aft W0, x.w.cell? ⟨w.heap.size, 0, none⟩ = some (.int .i64 i) := fun x => x.cell d0
    have D1 : ∀ x : Aft W0, x.w.cell? ⟨w.heap.size, 1, none⟩ = some (.int .i64 s) := fun x => x.cell d1
    have D2 : ∀ x : Aft W0, x.w.cell? ⟨w.heap.size, 2, none⟩ = some (.int .i64 d) := fun x => x.cell d2
    have D3 : ∀ x : Aft W0, x.w.cell? ⟨w.heap.size, 3, none⟩ = some (.int .i64 g) := fun x => x.cell d3
    have D4 : ∀ x : Aft W0, x.w.cell? ⟨w.heap.size, 4, none⟩ = some (.int .i64 p) := fun x => x.cell d4
    clear d0 d1 d2 d3 d4
    refine wp_region_aft (w0 := W0) (by kernel_rfl) (by kernel_rfl) (Below.refl _ _) ?_
    repeat (go_big_quiet_step (first | (go_at_call 71; exact aft_of (HD.out _)) | (go_at_call 80; exact aft_same (E1.out _)) | fail))
    refine wpQuiet_nil ?_
    rintro _ ⟨x, rfl⟩
    have e0 := D0 x
    have e1 := D1 x
    have e2 := D2 x
    have e3 := D3 x
    have e4 := D4 x
    go_wp2_with fail
    refine (HL.out _).mono ?_
    rintro e w2 ⟨rfl, b2⟩
    go_wp2
    go_ret2
    exact ⟨ret_2 (by simp) (by simp), B0.out.trans ((x.below.trans (b2.mono x.below.size)).mono B0.out.size)⟩
set_option maxRecDepth 100000 in
set_option maxHeartbeats 2000000 in
theorem l11Can_c (k : Tik) (D : Int) (u : Bool) (w : World) (hk : isT k = true) :
    Calls Tryd.prog 66 #[.agg #[.int .i64 k.i, .int .i64 k.s, .int .i64 k.w, .int .i64 k.g, .int .i64 k.p], .int .i64 D, .bool u] w fun e w' => e = .returned (.bool (canT k D u)) ∧ Below w.heap.size w w' := by
  have HL := Lib.hid (fun W => l11Rides_c k D W hk)
  unfold canT
  generalize rdU k D = U at *
  generalize rdD k D = V at *
  clear hk
  by_cases hu : 0 < U <;> by_cases hv : 0 < V <;> cases u
  · have q1 : decide (0 < U) = true := by simpa using hu
    have q2 : decide (0 < V) = true := by simpa using hv
    clear hu hv
    go_enter Tryd.func66, Tryd.ntmps66
    go_wp2_with fail
    refine (HL.out _).mono ?_
    rintro e w1 ⟨rfl, b1⟩
    go_wp2
    go_ret
    exact ⟨ret_b (by first | exact q2.symm | rfl), ((Below.refl _ _).alloc (Nat.le_refl _) _).trans (b1.mono (by simp))⟩
  · have q1 : decide (0 < U) = true := by simpa using hu
    have q2 : decide (0 < V) = true := by simpa using hv
    clear hu hv
    go_enter Tryd.func66, Tryd.ntmps66
    go_wp2_with fail
    refine (HL.out _).mono ?_
    rintro e w1 ⟨rfl, b1⟩
    go_wp2
    go_ret
    exact ⟨ret_b (by first | exact q1.symm | rfl), ((Below.refl _ _).alloc (Nat.le_refl _) _).trans (b1.mono (by simp))⟩
  · have q1 : decide (0 < U) = true := by simpa using hu
    have q2 : decide (0 < V) = false := by simpa using hv
    clear hu hv
    go_enter Tryd.func66, Tryd.ntmps66
    go_wp2_with fail
    refine (HL.out _).mono ?_
    rintro e w1 ⟨rfl, b1⟩
    go_wp2
    go_ret
    exact ⟨ret_b (by first | exact q2.symm | rfl), ((Below.refl _ _).alloc (Nat.le_refl _) _).trans (b1.mono (by simp))⟩
  · have q1 : decide (0 < U) = true := by simpa using hu
    have q2 : decide (0 < V) = false := by simpa using hv
    clear hu hv
    go_enter Tryd.func66, Tryd.ntmps66
    go_wp2_with fail
    refine (HL.out _).mono ?_
    rintro e w1 ⟨rfl, b1⟩
    go_wp2
    go_ret
    exact ⟨ret_b (by first | exact q1.symm | rfl), ((Below.refl _ _).alloc (Nat.le_refl _) _).trans (b1.mono (by simp))⟩
  · have q1 : decide (0 < U) = false := by simpa using hu
    have q2 : decide (0 < V) = true := by simpa using hv
    clear hu hv
    go_enter Tryd.func66, Tryd.ntmps66
    go_wp2_with fail
    refine (HL.out _).mono ?_
    rintro e w1 ⟨rfl, b1⟩
    go_wp2
    go_ret
    exact ⟨ret_b (by first | exact q2.symm | rfl), ((Below.refl _ _).alloc (Nat.le_refl _) _).trans (b1.mono (by simp))⟩
  · have q1 : decide (0 < U) = false := by simpa using hu
    have q2 : decide (0 < V) = true := by simpa using hv
    clear hu hv
    go_enter Tryd.func66, Tryd.ntmps66
    go_wp2_with fail
    refine (HL.out _).mono ?_
    rintro e w1 ⟨rfl, b1⟩
    go_wp2
    go_ret
    exact ⟨ret_b (by first | exact q1.symm | rfl), ((Below.refl _ _).alloc (Nat.le_refl _) _).trans (b1.mono (by simp))⟩
  · have q1 : decide (0 < U) = false := by simpa using hu
    have q2 : decide (0 < V) = false := by simpa using hv
    clear hu hv
    go_enter Tryd.func66, Tryd.ntmps66
    go_wp2_with fail
    refine (HL.out _).mono ?_
    rintro e w1 ⟨rfl, b1⟩
    go_wp2
    go_ret
    exact ⟨ret_b (by first | exact q2.symm | rfl), ((Below.refl _ _).alloc (Nat.le_refl _) _).trans (b1.mono (by simp))⟩
  · have q1 : decide (0 < U) = false := by simpa using hu
    have q2 : decide (0 < V) = false := by simpa using hv
    clear hu hv
    go_enter Tryd.func66, Tryd.ntmps66
    go_wp2_with fail
    refine (HL.out _).mono ?_
    rintro e w1 ⟨rfl, b1⟩
    go_wp2
    go_ret
    exact ⟨ret_b (by first | exact q1.symm | rfl), ((Below.refl _ _).alloc (Nat.le_refl _) _).trans (b1.mono (by simp))⟩
end Go.Proofs.YtpknodbkjjcdjaaDoor
