/- Accelerations that are kept, and ways of profiles: the program's and the specification's answer as one function. Condition: sizes. -/
import Derived.Test.YtklfipmjdhkkiaaProfV
namespace Go.Proofs.Ytklfipmjdhkkiaa
open Go.RowKit
set_option linter.unusedVariables false
theorem q9_l1In (x lo hi : Int) (b : Bool) (h : inR x lo hi = b) (w : World) (n : Nat) :
    Calls Try.prog 57 #[.int .i64 x, .int .i64 lo, .int .i64 hi] (w.drewN n) fun e w'' => e = .returned (.bool b) ∧ ∃ m, w'' = w.drewN m :=
  (l1In_c x lo hi _).mono fun _ _ ⟨he, hw⟩ => ⟨by rw [← h]; exact he, n, hw⟩
theorem q9_abs (x z : Int) (h : iabs9 x = z) (h1 : -9223372036854775808 < x) (h2 : x ≤ 9223372036854775807) (w : World) (n : Nat) :
    Calls Try.prog 51 #[.int .i64 x] (w.drewN n) fun e w'' => e = .returned (.int .i64 z) ∧ ∃ m, w'' = w.drewN m :=
  (abs9_c x _ h1 h2).mono fun _ _ ⟨he, hw⟩ => ⟨by rw [← h]; exact he, n, hw⟩
theorem dk_no1 {l : List Int} {a : Int} (h : p9V l = false) : dkV l a = false ∧ dkOk l a = false := by simp [dkV, dkOk, h]
theorem dk_no2 {l : List Int} {a : Int} (h : inR a 1 20 = false) : dkV l a = false ∧ dkOk l a = false := by simp [dkV, dkOk, h]
theorem dk_yes {l : List Int} {a : Int} (h : p9V l = true) (g : inR a 1 20 = true) : dkV l a = p9K l a ∧ dkOk l a = true := by simp [dkV, dkOk, h, g]
set_option maxRecDepth 100000 in
set_option maxHeartbeats 4000000 in
theorem implDoesKeep_c (v : Value) (l : List Int) (a : Int) (w : World) (hr : Rd w v (intVs l)) (hn : l.length ≤ 1048576) :
    Calls Try.prog 13 #[v, .int .i64 a] w fun e w' => e = .returned (.tuple #[.bool (dkV l a), .bool (dkOk l a)]) ∧ Below w.heap.size w w' := by
  have E0 := Lib.hid (fun W h => implIsProfile_c v l W h hn)
  have E1 := Lib.hid (fun W => rate_c a W)
  have HR := Lib.hid hr
  obtain ⟨ao, b, ob, ca, rfl, hao, hat⟩ := hr.formR
  have HA := Lib.hid hao
  have HL := Lib.hid hat
  clear hr hao hat
  cases hk : p9V l with
  | false =>
    rw [hk] at E0
    have HX := Lib.hid (dk_no1 (a := a) hk)
    clear hk
    go_enter Try.func13, Try.ntmps13
    go_wp2_with fail
    refine (E0.out _ HR.out).mono ?_
    rintro e w1 ⟨rfl, b1⟩
    go_wp2
    go_ret2
    exact ⟨ret_bb9 HX.out.1.symm HX.out.2.symm, b1⟩
  | true =>
    cases hm : inR a 1 20 with
    | false =>
      rw [hk] at E0
      rw [hm] at E1
      have HX := Lib.hid (dk_no2 (l := l) hm)
      clear hk hm
      go_enter Try.func13, Try.ntmps13
      go_wp2_with fail
      refine (E0.out _ HR.out).mono ?_
      rintro e w1 ⟨rfl, b1⟩
      go_wp2_with fail
      refine (E1.out _).mono ?_
      rintro e w2 ⟨rfl, rfl⟩
      go_wp2
      go_ret2
      exact ⟨ret_bb9 HX.out.1.symm HX.out.2.symm, b1⟩
    | true =>
      have HX := Lib.hid (dk_yes hk hm)
      obtain ⟨hl30, hv⟩ := (p9V_iff l).1 hk
      have HV := Lib.hid hv
      have ha := (inR_iff _ _ _).1 hm
      rw [hk] at E0
      rw [hm] at E1
      clear hk hm hv
      go_enter Try.func13, Try.ntmps13
      go_wp2_with fail
      refine (E0.out _ HR.out).mono ?_
      rintro e w1 ⟨rfl, b1⟩
      go_wp2_with fail
      refine (E1.out _).mono ?_
      rintro e w2 ⟨rfl, rfl⟩
      have HB := Lib.hid b1
      clear b1
      go_wp2
      go_loopw [6] (fun i wr => ∃ k : Nat, 0 < k ∧ k ≤ l.length ∧ i = .int .i64 k ∧ Hid (Below w.heap.size w wr) ∧ Hid (∀ j, 0 < j → j < k → -a ≤ l.getD j 0 - l.getD (j - 1) 0 ∧ l.getD j 0 - l.getD (j - 1) 0 ≤ a)) (fun i _ => l.length - (intOf i).toNat)
      case atStart => exact ⟨1, by omega, by omega, rfl, HB, Lib.hid (fun j h h2 => by omega)⟩
      case round =>
        obtain ⟨k, h0, hk, rfl, hbel, hno⟩ := hrel
        by_cases hlt : k < l.length
        · obtain ⟨rfl, hla, hlm⟩ := HA.out (by omega)
          have c0 := (HL.out.below hbel.out hla) k hlt
          have c1 := (HL.out.below hbel.out hla) (k - 1) (by omega)
          have hx := HV.out k hlt
          have hy := HV.out (k - 1) (by omega)
          have HBAD := Lib.hid (p9K_bad (l := l) (a := a) h0 hlt)
          have HNO : Hid ((-a ≤ l.getD k 0 - l.getD (k - 1) 0 ∧ l.getD k 0 - l.getD (k - 1) 0 ≤ a) → ∀ j, 0 < j → j < k + 1 → -a ≤ l.getD j 0 - l.getD (j - 1) 0 ∧ l.getD j 0 - l.getD (j - 1) 0 ≤ a) := Lib.hid (fun h j hj hj2 => by
            by_cases e : j = k
            · subst e; exact h
            · exact hno.out j hj (by omega))
          obtain ⟨p1, p2, p3⟩ := pred_in k h0 (by omega)
          generalize l.getD k 0 = X at *
          generalize l.getD (k - 1) 0 = Y at *
          have q1 : IntKind.i64.wrap (X - Y) = X - Y := IntWalk.i64_in _ (by omega)
          have HAB : Hid (iabs9 (X - Y) = iabs9 (X - Y)) := Lib.hid rfl
          have hab : (a < iabs9 (X - Y)) ↔ ¬ (-a ≤ X - Y ∧ X - Y ≤ a) := by unfold iabs9; split <;> omega
          generalize hZ : iabs9 (X - Y) = Z at HAB hab
          have HZ := Lib.hid hZ
          clear hZ HAB
          by_cases hst : a < Z
          · have HX2 := Lib.hid (HBAD.out (hab.1 hst))
            have t1 : decide (a < Z) = true := by simpa using hst
            clear hab
            go_wp2_with fail
            go_quiet ((go_at_call 51; exact q9_abs _ _ HZ.out (by omega) (by omega) _ _))
            go_wp2
            go_ret2
            exact ⟨ret_bb9 (by rw [HX.out.1, HX2.out]) HX.out.2.symm, below_drewN hbel.out _⟩
          · have HN2 := Lib.hid (HNO.out (Classical.byContradiction fun g => hst (hab.2 g)))
            have t1 : decide (a < Z) = false := by simpa using hst
            clear hab
            go_wp2_with fail
            go_quiet ((go_at_call 51; exact q9_abs _ _ HZ.out (by omega) (by omega) _ _))
            clear p1 p2 p3
            go_wp2
            go_roundw
            case rel => exact ⟨k + 1, by omega, by omega, by go_num, Lib.hid (below_drewN hbel.out _), HN2⟩
            case measure => simp [intOf]; omega
        · obtain rfl : k = l.length := by omega
          have HY := Lib.hid ((p9K_iff l a).2 (fun j h h2 => hno.out j h h2))
          go_wp2
          go_ret2
          exact ⟨ret_bb9 (by rw [HX.out.1, HY.out]) HX.out.2.symm, hbel.out⟩
set_option maxRecDepth 100000 in
set_option maxHeartbeats 4000000 in
theorem l9Keeps_c (v : Value) (l : List Int) (a : Int) (w : World) (hr : Rd w v (intVs l)) (hn : l.length ≤ 30) (hv : ∀ i, i < l.length → 0 ≤ l.getD i 0 ∧ l.getD i 0 ≤ 100) (ha : 1 ≤ a ∧ a ≤ 20) :
    Calls Try.prog 50 #[v, .int .i64 a] w fun e w' => e = .returned (.bool (p9K l a)) ∧ Below w.heap.size w w' := by
  obtain ⟨ao, b, ob, ca, rfl, hao, hat⟩ := hr.formR
  have HA := Lib.hid hao
  have HL := Lib.hid hat
  have HV := Lib.hid hv
  clear hr hao hat hv
  go_enter Try.func50, Try.ntmps50
  go_wp2
  go_loopw [5] (fun i wr => ∃ k : Nat, 0 < k ∧ (k ≤ l.length ∨ k = 1) ∧ i = .int .i64 k ∧ Hid (Below w.heap.size w wr) ∧ Hid (∀ j, 0 < j → j < k → -a ≤ l.getD j 0 - l.getD (j - 1) 0 ∧ l.getD j 0 - l.getD (j - 1) 0 ≤ a)) (fun i _ => l.length - (intOf i).toNat)
  case atStart => exact ⟨1, by omega, by omega, rfl, Lib.hid (Below.refl _ _), Lib.hid (fun j h h2 => by omega)⟩
  case round =>
    obtain ⟨k, h0, hk, rfl, hbel, hno⟩ := hrel
    by_cases hlt : k < l.length
    · obtain ⟨rfl, hla, hlm⟩ := HA.out (by omega)
      have c0 := (HL.out.below hbel.out hla) k hlt
      have c1 := (HL.out.below hbel.out hla) (k - 1) (by omega)
      have hx := HV.out k hlt
      have hy := HV.out (k - 1) (by omega)
      have HBAD := Lib.hid (p9K_bad (l := l) (a := a) h0 hlt)
      have HNO : Hid ((-a ≤ l.getD k 0 - l.getD (k - 1) 0 ∧ l.getD k 0 - l.getD (k - 1) 0 ≤ a) → ∀ j, 0 < j → j < k + 1 → -a ≤ l.getD j 0 - l.getD (j - 1) 0 ∧ l.getD j 0 - l.getD (j - 1) 0 ≤ a) := Lib.hid (fun h j hj hj2 => by
        by_cases e : j = k
        · subst e; exact h
        · exact hno.out j hj (by omega))
      obtain ⟨p1, p2, p3⟩ := pred_in k h0 (by omega)
      generalize l.getD k 0 = X at *
      generalize l.getD (k - 1) 0 = Y at *
      have q1 : IntKind.i64.wrap (X - Y) = X - Y := IntWalk.i64_in _ (by omega)
      have q2 : IntKind.i64.wrap (-a) = -a := IntWalk.i64_in _ (by omega)
      cases hst : inR (X - Y) (-a) a with
      | false =>
        have HX2 := Lib.hid (HBAD.out (fun g => by rw [(inR_iff _ _ _).2 g] at hst; cases hst)).symm
        have HS := Lib.hid hst
        clear hst
        go_wp2_with fail
        go_quiet ((go_at_call 57; exact q9_l1In _ _ _ _ HS.out _ _))
        go_wp2
        go_ret
        exact ⟨ret_b HX2.out, below_drewN hbel.out _⟩
      | true =>
        have HN2 := Lib.hid (HNO.out ((inR_iff _ _ _).1 hst))
        have HS := Lib.hid hst
        clear hst
        go_wp2_with fail
        go_quiet ((go_at_call 57; exact q9_l1In _ _ _ _ HS.out _ _))
        clear p1 p2 p3
        go_wp2
        go_roundw
        case rel => exact ⟨k + 1, by omega, by omega, by go_num, Lib.hid (below_drewN hbel.out _), HN2⟩
        case measure => simp [intOf]; omega
    · have HY := Lib.hid ((p9K_iff l a).2 (fun j h h2 => hno.out j h (by omega))).symm
      have hge : ¬ ((k : Int) < (l.length : Int)) := by omega
      go_wp2
      go_ret
      exact ⟨ret_b HY.out, hbel.out⟩
set_option maxHeartbeats 2000000 in
theorem specDoesKeep_c (v : Value) (l : List Int) (a : Int) (w : World) (hr : Rd w v (intVs l)) (hn : l.length ≤ 1048576) :
    Calls Try.prog 19 #[v, .int .i64 a] w fun e w' => e = .returned (.tuple #[.bool (dkV l a), .bool (dkOk l a)]) ∧ Below w.heap.size w w' := by
  have E0 := Lib.hid (fun W h => l9Good_c v l W h hn)
  have E1 := Lib.hid (fun W => l9Rate_c a W)
  have HR := Lib.hid hr
  clear hr
  cases hk : p9V l with
  | false =>
    rw [hk] at E0
    have HX := Lib.hid (dk_no1 (a := a) hk)
    clear hk
    go_enter Try.func19, Try.ntmps19
    go_wp2_with fail
    refine (E0.out _ HR.out).mono ?_
    rintro e w1 ⟨rfl, b1⟩
    go_wp2
    go_ret2
    exact ⟨ret_bb9 HX.out.1.symm HX.out.2.symm, b1⟩
  | true =>
    cases hm : inR a 1 20 with
    | false =>
      rw [hk] at E0
      rw [hm] at E1
      have HX := Lib.hid (dk_no2 (l := l) hm)
      clear hk hm
      go_enter Try.func19, Try.ntmps19
      go_wp2_with fail
      refine (E0.out _ HR.out).mono ?_
      rintro e w1 ⟨rfl, b1⟩
      go_wp2_with fail
      refine (E1.out _).mono ?_
      rintro e w2 ⟨rfl, rfl⟩
      go_wp2
      go_ret2
      exact ⟨ret_bb9 HX.out.1.symm HX.out.2.symm, b1⟩
    | true =>
      have HX := Lib.hid (dk_yes hk hm)
      have HV := Lib.hid ((p9V_iff l).1 hk)
      have HM := Lib.hid ((inR_iff _ _ _).1 hm)
      rw [hk] at E0
      rw [hm] at E1
      clear hk hm
      go_enter Try.func19, Try.ntmps19
      go_wp2_with fail
      refine (E0.out _ HR.out).mono ?_
      rintro e w1 ⟨rfl, b1⟩
      go_wp2_with fail
      refine (E1.out _).mono ?_
      rintro e w2 ⟨rfl, rfl⟩
      go_wp2_with fail
      refine (l9Keeps_c v l a _ (HR.out.below b1 rfl) HV.out.1.2 HV.out.2 HM.out).mono ?_
      rintro e w3 ⟨rfl, b3⟩
      have HB := Lib.hid (b1.trans (b3.mono b1.size))
      clear b1 b3
      go_wp2
      go_ret2
      exact ⟨ret_bb9 HX.out.1.symm HX.out.2.symm, HB.out⟩
theorem dw_no {l : List Int} (h : p9V l = false) : dwV l = 0 := by simp [dwV, h]
theorem dw_yes {l : List Int} (h : p9V l = true) : dwV l = p9Way l := by simp [dwV, h]
set_option maxRecDepth 100000 in
set_option maxHeartbeats 4000000 in
theorem means9_c (v : Value) (l : List Int) (w : World) (hr : Rd w v (intVs l)) (hk : p9V l = true) :
    Calls Try.prog 52 #[v] w fun e w' => e = .returned (.int .i64 (p9Way l)) ∧ Below w.heap.size w w' := by
  obtain ⟨ao, b, ob, ca, rfl, hao, hat⟩ := hr.formR
  have HA := Lib.hid hao
  have HL := Lib.hid hat
  obtain ⟨hl30, hv⟩ := (p9V_iff l).1 hk
  have HV := Lib.hid hv
  have HW := Lib.hid (wayTo_bd hv)
  clear hk hv hr hao hat
  go_enter Try.func52, Try.ntmps52
  go_wp2
  go_loopw [3, 4] (fun s i wr => ∃ k : Nat, 0 < k ∧ k ≤ l.length ∧ i = .int .i64 k ∧ s = .int .i64 (wayTo l (k - 1)) ∧ Hid (Below w.heap.size w wr)) (fun _ i _ => l.length - (intOf i).toNat)
  case atStart => exact ⟨1, by omega, by omega, rfl, rfl, Lib.hid (Below.refl _ _)⟩
  case round =>
    obtain ⟨k, h0, hk, rfl, rfl, hbel⟩ := hrel
    by_cases hlt : k < l.length
    · obtain ⟨rfl, hla, hlm⟩ := HA.out (by omega)
      have c0 := (HL.out.below hbel.out hla) k hlt
      have c1 := (HL.out.below hbel.out hla) (k - 1) (by omega)
      have hx := HV.out k hlt
      have hy := HV.out (k - 1) (by omega)
      have hw0 := HW.out (k - 1) (by omega)
      have HS := Lib.hid (wayTo_step l h0)
      obtain ⟨p1, p2, p3⟩ := pred_in k h0 (by omega)
      generalize l.getD k 0 = X at *
      generalize l.getD (k - 1) 0 = Y at *
      generalize wayTo l (k - 1) = Z at *
      have q1 : IntKind.i64.wrap (Y + X) = Y + X := IntWalk.i64_in _ (by omega)
      have q2 : IntKind.i64.wrap (Z + (Y + X)) = Z + (Y + X) := IntWalk.i64_in _ (by omega)
      go_wp2_with fail
      go_quiet (fail)
      clear p1 p2 p3
      go_wp2
      go_roundw
      case rel => exact ⟨k + 1, by omega, by omega, by go_num, by rw [Nat.add_sub_cancel, HS.out], Lib.hid (below_drewN hbel.out _)⟩
      case measure => simp [intOf]; omega
    · obtain rfl : k = l.length := by omega
      go_wp2
      go_ret
      exact ⟨rfl, hbel.out⟩
set_option maxRecDepth 100000 in
set_option maxHeartbeats 4000000 in
theorem implDoubleWay_c (v : Value) (l : List Int) (w : World) (hr : Rd w v (intVs l)) (hn : l.length ≤ 1048576) :
    Calls Try.prog 17 #[v] w fun e w' => e = .returned (.tuple #[.int .i64 (dwV l), .bool (p9V l)]) ∧ Below w.heap.size w w' := by
  have E0 := Lib.hid (fun W h => implIsProfile_c v l W h hn)
  have HR := Lib.hid hr
  obtain ⟨ao, b, ob, ca, rfl, hao, hat⟩ := hr.formR
  have HA := Lib.hid hao
  have HL := Lib.hid hat
  clear hr hao hat
  cases hk : p9V l with
  | false =>
    rw [hk] at E0
    have HX := Lib.hid (dw_no hk)
    clear hk
    go_enter Try.func17, Try.ntmps17
    go_wp2_with fail
    refine (E0.out _ HR.out).mono ?_
    rintro e w1 ⟨rfl, b1⟩
    go_wp2
    go_ret2
    exact ⟨ret_ib9 HX.out.symm rfl, b1⟩
  | true =>
    have HX := Lib.hid (dw_yes hk)
    have HK := Lib.hid hk
    rw [hk] at E0
    clear hk
    go_enter Try.func17, Try.ntmps17
    go_wp2_with fail
    refine (E0.out _ HR.out).mono ?_
    rintro e w1 ⟨rfl, b1⟩
    go_wp2_with fail
    refine (means9_c (.slice ao l.length ca) l _ (HR.out.below b1 rfl) HK.out).mono ?_
    rintro e w2 ⟨rfl, b2⟩
    have HB := Lib.hid (b1.trans (b2.mono b1.size))
    clear b1 b2
    go_wp2
    go_ret2
    exact ⟨ret_ib9 HX.out.symm rfl, HB.out⟩
set_option maxRecDepth 100000 in
set_option maxHeartbeats 4000000 in
theorem l9Way_c (v : Value) (l : List Int) (w : World) (hr : Rd w v (intVs l)) (hk : p9V l = true) :
    Calls Try.prog 58 #[v] w fun e w' => e = .returned (.int .i64 (p9Way l)) ∧ Below w.heap.size w w' := by
  obtain ⟨ao, b, ob, ca, rfl, hao, hat⟩ := hr.formR
  have HA := Lib.hid hao
  have HL := Lib.hid hat
  obtain ⟨hl30, hv⟩ := (p9V_iff l).1 hk
  have HV := Lib.hid hv
  have HW := Lib.hid (wayTo_bd hv)
  clear hk hv hr hao hat
  go_enter Try.func58, Try.ntmps58
  go_wp2
  go_loopw [3, 4] (fun s i wr => ∃ k : Nat, 0 < k ∧ k ≤ l.length ∧ i = .int .i64 k ∧ s = .int .i64 (wayTo l (k - 1)) ∧ Hid (Below w.heap.size w wr)) (fun _ i _ => l.length - (intOf i).toNat)
  case atStart => exact ⟨1, by omega, by omega, rfl, rfl, Lib.hid (Below.refl _ _)⟩
  case round =>
    obtain ⟨k, h0, hk, rfl, rfl, hbel⟩ := hrel
    by_cases hlt : k < l.length
    · obtain ⟨rfl, hla, hlm⟩ := HA.out (by omega)
      have c0 := (HL.out.below hbel.out hla) k hlt
      have c1 := (HL.out.below hbel.out hla) (k - 1) (by omega)
      have hx := HV.out k hlt
      have hy := HV.out (k - 1) (by omega)
      have hw0 := HW.out (k - 1) (by omega)
      have HS := Lib.hid (wayTo_step l h0)
      obtain ⟨p1, p2, p3⟩ := pred_in k h0 (by omega)
      generalize l.getD k 0 = X at *
      generalize l.getD (k - 1) 0 = Y at *
      generalize wayTo l (k - 1) = Z at *
      have q1 : IntKind.i64.wrap (Z + Y) = Z + Y := IntWalk.i64_in _ (by omega)
      have q2 : IntKind.i64.wrap (Z + Y + X) = Z + Y + X := IntWalk.i64_in _ (by omega)
      go_wp2_with fail
      go_quiet (fail)
      clear p1 p2 p3
      go_wp2
      go_roundw
      case rel => exact ⟨k + 1, by omega, by omega, by go_num, by rw [Nat.add_sub_cancel, HS.out]; exact congrArg _ (by omega), Lib.hid (below_drewN hbel.out _)⟩
      case measure => simp [intOf]; omega
    · obtain rfl : k = l.length := by omega
      go_wp2
      go_ret
      exact ⟨rfl, hbel.out⟩
set_option maxHeartbeats 2000000 in
theorem specDoubleWay_c (v : Value) (l : List Int) (w : World) (hr : Rd w v (intVs l)) (hn : l.length ≤ 1048576) :
    Calls Try.prog 34 #[v] w fun e w' => e = .returned (.tuple #[.int .i64 (dwV l), .bool (p9V l)]) ∧ Below w.heap.size w w' := by
  have E0 := Lib.hid (fun W h => l9Good_c v l W h hn)
  have HR := Lib.hid hr
  clear hr
  cases hk : p9V l with
  | false =>
    rw [hk] at E0
    have HX := Lib.hid (dw_no hk)
    clear hk
    go_enter Try.func34, Try.ntmps34
    go_wp2_with fail
    refine (E0.out _ HR.out).mono ?_
    rintro e w1 ⟨rfl, b1⟩
    go_wp2
    go_ret2
    exact ⟨ret_ib9 HX.out.symm rfl, b1⟩
  | true =>
    have HX := Lib.hid (dw_yes hk)
    have HK := Lib.hid hk
    rw [hk] at E0
    clear hk
    go_enter Try.func34, Try.ntmps34
    go_wp2_with fail
    refine (E0.out _ HR.out).mono ?_
    rintro e w1 ⟨rfl, b1⟩
    go_wp2_with fail
    refine (l9Way_c v l _ (HR.out.below b1 rfl) HK.out).mono ?_
    rintro e w2 ⟨rfl, b2⟩
    have HB := Lib.hid (b1.trans (b2.mono b1.size))
    clear b1 b2
    go_wp2
    go_ret2
    exact ⟨ret_ib9 HX.out.symm rfl, HB.out⟩
end Go.Proofs.Ytklfipmjdhkkiaa
