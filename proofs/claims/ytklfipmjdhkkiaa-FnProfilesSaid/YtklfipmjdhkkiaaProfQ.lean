/- What a profile is, told without a change of the world; two profiles joined. Condition: sizes. -/
import Derived.Test.YtklfipmjdhkkiaaProfV
import Derived.Deep.RegionHeld3
namespace Go.Proofs.Ytklfipmjdhkkiaa
open Go.RowKit
set_option linter.unusedVariables false
set_option maxRecDepth 100000 in
set_option maxHeartbeats 2000000 in
theorem idx9_q (v : Value) (l : List Int) (w : World) (hr : Rd w v (intVs l)) (hn : l.length ≤ 1048576) :
    Calls Try.prog 62 #[v, .func (.func 54) #[] #[]] w fun e w' => e = .returned (.int .i64 (wrI l)) ∧ w' = w := by
  obtain ⟨ao, a, oa, ca, rfl, hao, hat⟩ := hr.formR
  have HA := Lib.hid hao
  have HL := Lib.hid hat
  clear hr hao hat
  go_enter Try.func62, Try.ntmps62
  go_wp2
  go_loopw [8] (fun i wr => ∃ k : Nat, k ≤ l.length ∧ i = .int .i64 k ∧ wr = w ∧ Hid (∀ j, j < k → inR (l.getD j 0) 0 100 = true)) (fun i _ => l.length - (intOf i).toNat)
  case atStart => exact ⟨0, by omega, rfl, rfl, Lib.hid (fun j h => by omega)⟩
  case round =>
    obtain ⟨k, hk, rfl, hww, hno⟩ := hrel
    subst hww
    by_cases hlt : k < l.length
    · obtain ⟨rfl, hla, hlm⟩ := HA.out (by omega)
      have c0 := HL.out k hlt
      have HIS := Lib.hid (fun h : inR (l.getD k 0) 0 100 = false => wr_hit hlt hno.out h)
      have HNO : Hid (inR (l.getD k 0) 0 100 = true → ∀ j, j < k + 1 → inR (l.getD j 0) 0 100 = true) := Lib.hid (fun h j hj => by
        by_cases e : j = k
        · subst e; exact h
        · exact hno.out j (by omega))
      generalize l.getD k 0 = D at *
      go_wp2_with fail
      refine (wrong_c D _).mono ?_
      rintro e w1 ⟨rfl, rfl⟩
      cases hst : inR D 0 100 with
      | false =>
        have HX := Lib.hid (HIS.out hst).symm
        clear hst
        go_wp2
        go_ret
        exact ⟨ret_i9 HX.out, rfl⟩
      | true =>
        have HN2 := Lib.hid (HNO.out hst)
        clear hst
        go_wp2
        go_roundw
        case rel => exact ⟨k + 1, by omega, by go_num, (by first | rfl | trivial), HN2⟩
        case measure => simp [intOf]; omega
    · obtain rfl : k = l.length := by omega
      have HX : Hid (-1 = wrI l) := Lib.hid (wr_none hno.out).symm
      go_wp2
      go_ret
      exact ⟨ret_i9 HX.out, rfl⟩
set_option maxRecDepth 100000 in
set_option maxHeartbeats 2000000 in
theorem has9_q (v : Value) (l : List Int) (w : World) (hr : Rd w v (intVs l)) (hn : l.length ≤ 1048576) :
    Calls Try.prog 55 #[v, .func (.func 54) #[] #[]] w fun e w' => e = .returned (.bool (decide (0 ≤ wrI l))) ∧ w' = w := by
  have E0 := Lib.hid (fun W h => idx9_q v l W h hn)
  have HR := Lib.hid hr
  clear hr
  go_enter Try.func55, Try.ntmps55
  go_wp2_with fail
  refine (E0.out _ HR.out).mono ?_
  rintro e w1 ⟨rfl, rfl⟩
  go_wp2
  go_ret
  exact ⟨rfl, rfl⟩
set_option maxRecDepth 100000 in
set_option maxHeartbeats 2000000 in
theorem implIsProfile_q (v : Value) (l : List Int) (w : World) (hr : Rd w v (intVs l)) (hn : l.length ≤ 1048576) :
    Calls Try.prog 23 #[v] w fun e w' => e = .returned (.bool (p9V l)) ∧ w' = w := by
  have E0 := Lib.hid (fun W h => has9_q v l W h hn)
  have E1 := Lib.hid (fun W => within_c (l.length : Int) 1 30 W)
  have HR := Lib.hid hr
  obtain ⟨ao, a, oa, ca, rfl, hao, hat⟩ := hr.formR
  clear hr hao hat
  cases hk : inR (l.length : Int) 1 30 with
  | false =>
    rw [hk] at E1
    have HX : Hid (false = p9V l) := Lib.hid (p9V_len hk).symm
    clear hk
    go_enter Try.func23, Try.ntmps23
    go_wp2_with fail
    refine (E1.out _).mono ?_
    rintro e w1 ⟨rfl, rfl⟩
    go_wp2
    go_ret
    exact ⟨ret_b HX.out, rfl⟩
  | true =>
    rw [hk] at E1
    have HX := Lib.hid (wr_v hk)
    clear hk
    go_enter Try.func23, Try.ntmps23
    go_wp2_with fail
    refine (E1.out _).mono ?_
    rintro e w1 ⟨rfl, rfl⟩
    go_wp2_with fail
    refine (E0.out _ HR.out).mono ?_
    rintro e w2 ⟨rfl, rfl⟩
    generalize decide (0 ≤ wrI l) = X at *
    go_wp2
    go_ret
    exact ⟨ret_b HX.out, rfl⟩
set_option maxRecDepth 100000 in
set_option maxHeartbeats 2000000 in
theorem l9Good_q (v : Value) (l : List Int) (w : World) (hr : Rd w v (intVs l)) (hn : l.length ≤ 1048576) :
    Calls Try.prog 46 #[v] w fun e w' => e = .returned (.bool (p9V l)) ∧ w' = w := by
  have E1 := Lib.hid (fun W => l1In_c (l.length : Int) 1 30 W)
  obtain ⟨ao, a, oa, ca, rfl, hao, hat⟩ := hr.formR
  have HA := Lib.hid hao
  have HL := Lib.hid hat
  clear hr hao hat
  go_enter Try.func46, Try.ntmps46
  go_wp2
  go_loopw [3] (fun i wr => ∃ k : Nat, k ≤ l.length ∧ i = .int .i64 k ∧ wr = w ∧ Hid (∀ j, j < k → inR (l.getD j 0) 0 100 = true)) (fun i _ => l.length - (intOf i).toNat)
  case atStart => exact ⟨0, by omega, rfl, rfl, Lib.hid (fun j h => by omega)⟩
  case round =>
    obtain ⟨k, hk, rfl, hww, hno⟩ := hrel
    subst hww
    by_cases hlt : k < l.length
    · obtain ⟨rfl, hla, hlm⟩ := HA.out (by omega)
      have c0 := HL.out k hlt
      have HIS := Lib.hid (fun h : inR (l.getD k 0) 0 100 = false => p9V_bad hlt h)
      have HNO : Hid (inR (l.getD k 0) 0 100 = true → ∀ j, j < k + 1 → inR (l.getD j 0) 0 100 = true) := Lib.hid (fun h j hj => by
        by_cases e : j = k
        · subst e; exact h
        · exact hno.out j (by omega))
      generalize l.getD k 0 = D at *
      go_wp2_with fail
      refine (l9Speed_c D _).mono ?_
      rintro e w1 ⟨rfl, rfl⟩
      cases hst : inR D 0 100 with
      | false =>
        have HX := Lib.hid (HIS.out hst).symm
        clear hst
        go_wp2
        go_ret
        exact ⟨ret_b HX.out, rfl⟩
      | true =>
        have HN2 := Lib.hid (HNO.out hst)
        clear hst
        go_wp2
        go_roundw
        case rel => exact ⟨k + 1, by omega, by go_num, (by first | rfl | trivial), HN2⟩
        case measure => simp [intOf]; omega
    · obtain rfl : k = l.length := by omega
      have HX : Hid (inR (l.length : Int) 1 30 = p9V l) := Lib.hid (by
        cases e : inR (l.length : Int) 1 30 with
        | true => exact (p9V_good e hno.out).symm
        | false => exact (p9V_len e).symm)
      go_wp2_with fail
      refine (E1.out _).mono ?_
      rintro e w1 ⟨rfl, rfl⟩
      go_wp2
      go_ret
      exact ⟨ret_b HX.out, rfl⟩
end Go.Proofs.Ytklfipmjdhkkiaa
