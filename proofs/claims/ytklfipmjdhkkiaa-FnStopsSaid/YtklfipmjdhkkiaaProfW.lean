/- The way to a stop, and the speed for a way: the program's and the specification's answer as one function. Condition: sizes. -/
import Derived.Test.YtklfipmjdhkkiaaProfS
namespace Go.Proofs.Ytklfipmjdhkkiaa
open Go.RowKit
set_option linter.unusedVariables false
set_option maxRecDepth 100000 in
set_option maxHeartbeats 2000000 in
theorem implStopWay_c (s a : Int) (w : World) :
    Calls Try.prog 27 #[.int .i64 s, .int .i64 a] w fun e w' => e = .returned (.tuple #[.int .i64 (swV s a), .bool (swOk s a)]) ∧ Below w.heap.size w w' := by
  have HS := Lib.hid (sw_dw s a)
  have HL := Lib.hid (stR_len s 0 a)
  go_enter Try.func27, Try.ntmps27
  go_wp2_with fail
  refine (implShortestTo_c s 0 a _).mono ?_
  rintro e w1 ⟨g, rfl, o1, b1⟩
  have HB := Lib.hid b1
  have HO := Lib.hid o1
  clear b1 o1
  go_wp2_with fail
  refine (implDoubleWay_c g (stR s 0 a) _ (Rd.of_own HO.out) (by have := HL.out; omega)).mono ?_
  rintro e w2 ⟨rfl, b2⟩
  have HT := Lib.hid (HB.out.trans (b2.mono HB.out.size))
  clear b2
  go_wp2
  go_ret2
  exact ⟨ret_ib9 HS.out.1 HS.out.2, HT.out⟩
theorem sw_no {s a : Int} (h : swOk s a = false) : swV s a = 0 := by simp [swV, h]
theorem sw_yes {s a : Int} (h : swOk s a = true) : swV s a = p9Way (stR s 0 a) := by simp [swV, h]
set_option maxRecDepth 100000 in
set_option maxHeartbeats 2000000 in
theorem specStopWay_c (s a : Int) (w : World) :
    Calls Try.prog 29 #[.int .i64 s, .int .i64 a] w fun e w' => e = .returned (.tuple #[.int .i64 (swV s a), .bool (swOk s a)]) ∧ Below w.heap.size w w' := by
  have HS := Lib.hid (stR_p9 s 0 a)
  have E0 := Lib.hid (fun W => specShortestTo_c s 0 a W)
  cases hk : swOk s a with
  | false =>
    rw [show stOk s 0 a = false from hk] at E0
    have HX := Lib.hid (sw_no hk)
    have HK := Lib.hid hk
    clear hk
    go_enter Try.func29, Try.ntmps29
    go_wp2_with fail
    refine (E0.out _).mono ?_
    rintro e w1 ⟨g, rfl, o1, b1⟩
    clear o1
    go_wp2
    go_ret2
    exact ⟨ret_ib9 HX.out.symm rfl, b1⟩
  | true =>
    rw [show stOk s 0 a = true from hk] at E0 HS
    have HX := Lib.hid (sw_yes hk)
    have HK := Lib.hid hk
    clear hk
    go_enter Try.func29, Try.ntmps29
    go_wp2_with fail
    refine (E0.out _).mono ?_
    rintro e w1 ⟨g, rfl, o1, b1⟩
    have HB := Lib.hid b1
    have HO := Lib.hid o1
    clear b1 o1
    go_wp2_with fail
    refine (l9Way_c g (stR s 0 a) _ (Rd.of_own HO.out) HS.out).mono ?_
    rintro e w2 ⟨rfl, b2⟩
    have HT := Lib.hid (HB.out.trans (b2.mono HB.out.size))
    clear b2
    go_wp2
    go_ret2
    exact ⟨ret_ib9 HX.out.symm rfl, HT.out⟩
theorem sf_no1 {way a : Int} (h : inR way 0 100000 = false) : sfOk way a = false ∧ sfV way a = 0 := by simp [sfV, sfOk, h]
theorem sf_no2 {way a : Int} (h : inR a 1 20 = false) : sfOk way a = false ∧ sfV way a = 0 := by simp [sfV, sfOk, h]
theorem sf_yes {way a : Int} (h : inR way 0 100000 = true) (g : inR a 1 20 = true) : sfOk way a = true ∧ sfV way a = bst9 way a 100 := by simp [sfV, sfOk, h, g]
theorem bst_down {way a : Int} {k : Nat} (h0 : 0 < k) (h : p9P way a (k : Int) = false) : bst9 way a k = bst9 way a (k - 1) := by
  obtain ⟨j, rfl⟩ : ∃ j, k = j + 1 := ⟨k - 1, by omega⟩
  exact bst_no h
theorem bst_here {way a : Int} {k : Nat} (h : p9P way a (k : Int) = true) : bst9 way a k = k := by
  cases k with
  | zero => rfl
  | succ j => exact bst_yes h
set_option maxRecDepth 100000 in
set_option maxHeartbeats 4000000 in
theorem implSpeedFor_c (way a : Int) (w : World) :
    Calls Try.prog 25 #[.int .i64 way, .int .i64 a] w fun e w' => e = .returned (.tuple #[.int .i64 (sfV way a), .bool (sfOk way a)]) ∧ Below w.heap.size w w' := by
  have E0 := Lib.hid (fun W => within_c way 0 100000 W)
  cases hk : inR way 0 100000 with
  | false =>
    rw [hk] at E0
    have HX := Lib.hid (sf_no1 (a := a) hk)
    clear hk
    go_enter Try.func25, Try.ntmps25
    go_wp2_with fail
    refine (E0.out _).mono ?_
    rintro e w1 ⟨rfl, rfl⟩
    go_wp2
    go_ret2
    exact ⟨ret_ib9 HX.out.2.symm HX.out.1.symm, Below.refl _ _⟩
  | true =>
    have hway := (inR_iff _ _ _).1 hk
    rw [hk] at E0
    cases hm : inR a 1 20 with
    | false =>
      have HX := Lib.hid (sf_no2 (way := way) hm)
      have HBD := Lib.hid (fun s => sw_bad (s := s) hm)
      clear hk hm
      go_enter Try.func25, Try.ntmps25
      go_wp2_with fail
      refine (E0.out _).mono ?_
      rintro e w1 ⟨rfl, rfl⟩
      go_wp2
      go_loopw [6] (fun s wr => ∃ m : Nat, m ≤ 101 ∧ s = .int .i64 ((m : Int) - 1) ∧ Hid (Below w1.heap.size w1 wr)) (fun s _ => (intOf s + 1).toNat)
      case atStart => exact ⟨101, by omega, rfl, Lib.hid (Below.refl _ _)⟩
      case round =>
        obtain ⟨m, hm, rfl, hbel⟩ := hrel
        by_cases h0 : 0 < m
        · have E1 := Lib.hid (fun W => implStopWay_c ((m : Int) - 1) a W)
          rw [HBD.out] at E1
          generalize swV ((m : Int) - 1) a = V at *
          have t1 : decide ((0 : Int) ≤ (m : Int) - 1) = true := by simp; omega
          have hge : (0 : Int) ≤ (m : Int) - 1 := by omega
          go_wp2_with fail
          refine (E1.out _).mono ?_
          rintro e w2 ⟨rfl, b2⟩
          have HT := Lib.hid (hbel.out.trans (b2.mono hbel.out.size))
          clear b2
          have q1 : IntKind.i64.wrap ((m : Int) - 1 - 1) = (m : Int) - 1 - 1 := IntWalk.i64_in _ (by omega)
          go_wp2
          go_roundw
          case rel => exact ⟨m - 1, by omega, by congr 1; omega, HT⟩
          case measure => simp [intOf]; omega
        · obtain rfl : m = 0 := by omega
          go_wp2
          go_ret2
          exact ⟨ret_ib9 HX.out.2.symm HX.out.1.symm, hbel.out⟩
    | true =>
      have HX := Lib.hid (sf_yes hk hm)
      have HZ := Lib.hid (p9P_zero (way := way) hway.1 hm)
      clear hk hm
      go_enter Try.func25, Try.ntmps25
      go_wp2_with fail
      refine (E0.out _).mono ?_
      rintro e w1 ⟨rfl, rfl⟩
      go_wp2
      go_loopw [6] (fun s wr => ∃ m : Nat, m ≤ 100 ∧ s = .int .i64 (m : Int) ∧ Hid (Below w1.heap.size w1 wr) ∧ Hid (bst9 way a 100 = bst9 way a m)) (fun s _ => (intOf s).toNat)
      case atStart => exact ⟨100, by omega, rfl, Lib.hid (Below.refl _ _), Lib.hid rfl⟩
      case round =>
        obtain ⟨m, hm, rfl, hbel, hbst⟩ := hrel
        have E1 := Lib.hid (fun W => implStopWay_c (m : Int) a W)
        have hge : (0 : Int) ≤ (m : Int) := by omega
        cases hP : p9P way a (m : Int) with
        | true =>
          have HR : Hid ((m : Int) = bst9 way a 100) := Lib.hid (by rw [hbst.out, bst_here hP])
          unfold p9P at hP
          rw [Bool.and_eq_true] at hP
          obtain ⟨hs, hle⟩ := hP
          rw [hs] at E1
          clear hs
          generalize swV (m : Int) a = V at *
          go_wp2_with fail
          refine (E1.out _).mono ?_
          rintro e w2 ⟨rfl, b2⟩
          have HT := Lib.hid (hbel.out.trans (b2.mono hbel.out.size))
          clear b2
          go_wp2
          go_ret2
          exact ⟨ret_ib9 (by rw [HX.out.2]; exact HR.out) HX.out.1.symm, HT.out⟩
        | false =>
          have h0 : 0 < m := by
            cases m with
            | zero => have := HZ.out; rw [show ((0 : Nat) : Int) = 0 from rfl] at hP; rw [hP] at this; cases this
            | succ j => omega
          have HR : Hid (bst9 way a 100 = bst9 way a (m - 1)) := Lib.hid (by rw [hbst.out, bst_down h0 hP])
          obtain ⟨p1, p2, p3⟩ := pred_in m h0 (by omega)
          unfold p9P at hP
          cases hs : swOk (m : Int) a with
          | false =>
            rw [hs] at E1
            clear hs hP
            generalize swV (m : Int) a = V at *
            go_wp2_with fail
            refine (E1.out _).mono ?_
            rintro e w2 ⟨rfl, b2⟩
            have HT := Lib.hid (hbel.out.trans (b2.mono hbel.out.size))
            clear b2
            go_wp2
            go_roundw
            case rel => exact ⟨m - 1, by omega, by congr 1; omega, HT, HR⟩
            case measure => simp [intOf]; omega
          | true =>
            rw [hs] at E1 hP
            rw [Bool.true_and] at hP
            clear hs
            generalize swV (m : Int) a = V at *
            go_wp2_with fail
            refine (E1.out _).mono ?_
            rintro e w2 ⟨rfl, b2⟩
            have HT := Lib.hid (hbel.out.trans (b2.mono hbel.out.size))
            clear b2
            go_wp2
            go_roundw
            case rel => exact ⟨m - 1, by omega, by congr 1; omega, HT, HR⟩
            case measure => simp [intOf]; omega
set_option maxRecDepth 100000 in
set_option maxHeartbeats 4000000 in
theorem specSpeedFor_c (way a : Int) (w : World) :
    Calls Try.prog 26 #[.int .i64 way, .int .i64 a] w fun e w' => e = .returned (.tuple #[.int .i64 (sfV way a), .bool (sfOk way a)]) ∧ Below w.heap.size w w' := by
  have E0 := Lib.hid (fun W => l1In_c way 0 100000 W)
  have E2 := Lib.hid (fun W => l9Rate_c a W)
  cases hk : inR way 0 100000 with
  | false =>
    rw [hk] at E0
    have HX := Lib.hid (sf_no1 (a := a) hk)
    clear hk
    go_enter Try.func26, Try.ntmps26
    go_wp2_with fail
    refine (E0.out _).mono ?_
    rintro e w1 ⟨rfl, rfl⟩
    go_wp2
    go_ret2
    exact ⟨ret_ib9 HX.out.2.symm HX.out.1.symm, Below.refl _ _⟩
  | true =>
    have hway := (inR_iff _ _ _).1 hk
    rw [hk] at E0
    cases hm : inR a 1 20 with
    | false =>
      have HX := Lib.hid (sf_no2 (way := way) hm)
      rw [hm] at E2
      clear hk hm
      go_enter Try.func26, Try.ntmps26
      go_wp2_with fail
      refine (E0.out _).mono ?_
      rintro e w1 ⟨rfl, rfl⟩
      go_wp2_with fail
      refine (E2.out _).mono ?_
      rintro e w2 ⟨rfl, rfl⟩
      go_wp2
      go_ret2
      exact ⟨ret_ib9 HX.out.2.symm HX.out.1.symm, Below.refl _ _⟩
    | true =>
      have HX := Lib.hid (sf_yes hk hm)
      rw [hm] at E2
      clear hk hm
      go_enter Try.func26, Try.ntmps26
      go_wp2_with fail
      refine (E0.out _).mono ?_
      rintro e w1 ⟨rfl, rfl⟩
      go_wp2_with fail
      refine (E2.out _).mono ?_
      rintro e w2 ⟨rfl, rfl⟩
      go_wp2
      go_loopw [6, 7] (fun b s wr => ∃ m : Nat, 0 < m ∧ m ≤ 101 ∧ s = .int .i64 (m : Int) ∧ b = .int .i64 (bst9 way a (m - 1)) ∧ Hid (Below w2.heap.size w2 wr)) (fun _ s _ => 101 - (intOf s).toNat)
      case atStart => exact ⟨1, by omega, by omega, rfl, rfl, Lib.hid (Below.refl _ _)⟩
      case round =>
        obtain ⟨m, h0, hm, rfl, rfl, hbel⟩ := hrel
        by_cases hlt : m ≤ 100
        · have E1 := Lib.hid (fun W => specStopWay_c (m : Int) a W)
          have hle1 : (m : Int) ≤ 100 := by omega
          cases hP : p9P way a (m : Int) with
          | true =>
            have HR : Hid ((m : Int) = bst9 way a (m + 1 - 1)) := Lib.hid (by rw [Nat.add_sub_cancel, bst_here hP])
            unfold p9P at hP
            rw [Bool.and_eq_true] at hP
            obtain ⟨hs, hle⟩ := hP
            rw [hs] at E1
            clear hs
            generalize swV (m : Int) a = V at *
            generalize bst9 way a (m - 1) = Z at *
            go_wp2_with fail
            refine (E1.out _).mono ?_
            rintro e w3 ⟨rfl, b3⟩
            have HT := Lib.hid (hbel.out.trans (b3.mono hbel.out.size))
            clear b3
            go_wp2
            go_roundw
            case rel => exact ⟨m + 1, by omega, by omega, by go_num, by rw [← HR.out], HT⟩
            case measure => simp [intOf]; omega
          | false =>
            have HR : Hid (bst9 way a (m - 1) = bst9 way a (m + 1 - 1)) := Lib.hid (by rw [Nat.add_sub_cancel, bst_down h0 hP])
            unfold p9P at hP
            cases hs : swOk (m : Int) a with
            | false =>
              rw [hs] at E1
              clear hs hP
              generalize swV (m : Int) a = V at *
              generalize bst9 way a (m - 1) = Z at *
              go_wp2_with fail
              refine (E1.out _).mono ?_
              rintro e w3 ⟨rfl, b3⟩
              have HT := Lib.hid (hbel.out.trans (b3.mono hbel.out.size))
              clear b3
              go_wp2
              go_roundw
              case rel => exact ⟨m + 1, by omega, by omega, by go_num, by rw [← HR.out], HT⟩
              case measure => simp [intOf]; omega
            | true =>
              rw [hs] at E1 hP
              rw [Bool.true_and] at hP
              clear hs
              generalize swV (m : Int) a = V at *
              generalize bst9 way a (m - 1) = Z at *
              go_wp2_with fail
              refine (E1.out _).mono ?_
              rintro e w3 ⟨rfl, b3⟩
              have HT := Lib.hid (hbel.out.trans (b3.mono hbel.out.size))
              clear b3
              go_wp2
              go_roundw
              case rel => exact ⟨m + 1, by omega, by omega, by go_num, by rw [← HR.out], HT⟩
              case measure => simp [intOf]; omega
        · obtain rfl : m = 101 := by omega
          go_wp2
          go_ret2
          exact ⟨ret_ib9 HX.out.2.symm HX.out.1.symm, hbel.out⟩
end Go.Proofs.Ytklfipmjdhkkiaa
