/- What a profile is: the program's and the specification's answer as one function. Condition: sizes. -/
import Derived.Test.YtklfipmjdhkkiaaProfK
namespace Go.Proofs.Ytklfipmjdhkkiaa
open Go.RowKit
set_option linter.unusedVariables false
theorem rate_c (a : Int) (w : World) :
    Calls Try.prog 42 #[.int .i64 a] w fun e w' => e = .returned (.bool (inR a 1 20)) ∧ w' = w := by
  have E0 := Lib.hid (fun W => within_c a 1 20 W)
  go_enter Try.func42, Try.ntmps42
  go_wp2_with fail
  refine (E0.out _).mono ?_
  rintro e w1 ⟨rfl, rfl⟩
  go_wp2
  go_ret
  exact ⟨rfl, rfl⟩
theorem l9Rate_c (a : Int) (w : World) :
    Calls Try.prog 48 #[.int .i64 a] w fun e w' => e = .returned (.bool (inR a 1 20)) ∧ w' = w := by
  have E0 := Lib.hid (fun W => l1In_c a 1 20 W)
  go_enter Try.func48, Try.ntmps48
  go_wp2_with fail
  refine (E0.out _).mono ?_
  rintro e w1 ⟨rfl, rfl⟩
  go_wp2
  go_ret
  exact ⟨rfl, rfl⟩
theorem l9Speed_c (a : Int) (w : World) :
    Calls Try.prog 47 #[.int .i64 a] w fun e w' => e = .returned (.bool (inR a 0 100)) ∧ w' = w := by
  have E0 := Lib.hid (fun W => l1In_c a 0 100 W)
  go_enter Try.func47, Try.ntmps47
  go_wp2_with fail
  refine (E0.out _).mono ?_
  rintro e w1 ⟨rfl, rfl⟩
  go_wp2
  go_ret
  exact ⟨rfl, rfl⟩
theorem wrong_c (a : Int) (w : World) :
    Calls Try.prog 54 #[.int .i64 a] w fun e w' => e = .returned (.bool (!inR a 0 100)) ∧ w' = w := by
  have E0 := Lib.hid (fun W => within_c a 0 100 W)
  go_enter Try.func54, Try.ntmps54
  go_wp2_with fail
  refine (E0.out _).mono ?_
  rintro e w1 ⟨rfl, rfl⟩
  go_wp2
  go_ret
  exact ⟨rfl, rfl⟩
/-- The first speed that is out of bounds. -/
def wrI (l : List Int) : Int := if l.findIdx (fun v => !inR v 0 100) < l.length then (l.findIdx (fun v => !inR v 0 100) : Int) else -1
theorem wr_hit {l : List Int} {k : Nat} (hk : k < l.length) (h0 : ∀ j, j < k → inR (l.getD j 0) 0 100 = true) (h : inR (l.getD k 0) 0 100 = false) : wrI l = k := by
  have e : l.findIdx (fun v => !inR v 0 100) = k := by
    refine (List.findIdx_eq hk).2 ⟨by rw [← at_get hk, h]; rfl, fun j hj => ?_⟩
    have := h0 j hj
    rw [at_get (by omega)] at this
    rw [this]; rfl
  unfold wrI
  rw [e, if_pos hk]
theorem wr_none {l : List Int} (h0 : ∀ j, j < l.length → inR (l.getD j 0) 0 100 = true) : wrI l = -1 := by
  have e : l.findIdx (fun v => !inR v 0 100) = l.length := by
    rw [List.findIdx_eq_length]
    intro x hx
    obtain ⟨i, hi, rfl⟩ := List.getElem_of_mem hx
    have := h0 i hi
    rw [at_get hi] at this
    rw [this]; rfl
  unfold wrI
  rw [e, if_neg (by omega)]
theorem ret_i9 {a b : Int} (h : a = b) : Ending.returned (.int .i64 a) = .returned (.int .i64 b) := by rw [h]
set_option maxRecDepth 100000 in
set_option maxHeartbeats 2000000 in
theorem idx9_c (v : Value) (l : List Int) (w : World) (hr : Rd w v (intVs l)) (hn : l.length ≤ 1048576) :
    Calls Try.prog 62 #[v, .func (.func 54) #[] #[]] w fun e w' => e = .returned (.int .i64 (wrI l)) ∧ Below w.heap.size w w' := by
  obtain ⟨ao, a, oa, ca, rfl, hao, hat⟩ := hr.formR
  have HA := Lib.hid hao
  have HL := Lib.hid hat
  clear hr hao hat
  go_enter Try.func62, Try.ntmps62
  go_wp2
  go_loopw [8] (fun i wr => ∃ k : Nat, k ≤ l.length ∧ i = .int .i64 k ∧ Hid (Below w.heap.size w wr) ∧ Hid (∀ j, j < k → inR (l.getD j 0) 0 100 = true)) (fun i _ => l.length - (intOf i).toNat)
  case atStart => exact ⟨0, by omega, rfl, Lib.hid (Below.refl _ _), Lib.hid (fun j h => by omega)⟩
  case round =>
    obtain ⟨k, hk, rfl, hbel, hno⟩ := hrel
    by_cases hlt : k < l.length
    · obtain ⟨rfl, hla, hlm⟩ := HA.out (by omega)
      have c0 := (HL.out.below hbel.out hla) k hlt
      have HIS := Lib.hid (fun h : inR (l.getD k 0) 0 100 = false => wr_hit hlt hno.out h)
      have HNO : Hid (inR (l.getD k 0) 0 100 = true → ∀ j, j < k + 1 → inR (l.getD j 0) 0 100 = true) := Lib.hid (fun h j hj => by
        by_cases e : j = k
        · subst e; exact h
        · exact hno.out j (by omega))
      generalize l.getD k 0 = D at *
      go_wp2_with fail
      refine (wrong_c D _).mono ?_
      rintro e w1 ⟨rfl, rfl⟩
      cases hst : inR D 0 100 with
      | false =>
        have HX := Lib.hid (HIS.out hst).symm
        clear hst
        go_wp2
        go_ret
        exact ⟨ret_i9 HX.out, hbel.out⟩
      | true =>
        have HN2 := Lib.hid (HNO.out hst)
        clear hst
        go_wp2
        go_roundw
        case rel => exact ⟨k + 1, by omega, by go_num, hbel, HN2⟩
        case measure => simp [intOf]; omega
    · obtain rfl : k = l.length := by omega
      have HX : Hid (-1 = wrI l) := Lib.hid (wr_none hno.out).symm
      go_wp2
      go_ret
      exact ⟨ret_i9 HX.out, hbel.out⟩
theorem wr_v {l : List Int} (h : inR (l.length : Int) 1 30 = true) : (!decide (0 ≤ wrI l)) = p9V l := by
  cases e : p9V l with
  | true =>
    have h1 := (p9V_iff l).1 e
    rw [wr_none (fun j hj => (inR_iff _ _ _).2 (h1.2 j hj))]
    rfl
  | false =>
    by_cases g : ∀ j, j < l.length → inR (l.getD j 0) 0 100 = true
    · rw [p9V_good h g] at e
      cases e
    · obtain ⟨n, hn⟩ := Classical.not_forall.1 g
      have hn2 : n < l.length ∧ ¬ inR (l.getD n 0) 0 100 = true := by
        by_cases hl : n < l.length
        · exact ⟨hl, fun hx => hn (fun _ => hx)⟩
        · exact absurd (fun hx => absurd hx hl) hn
      obtain ⟨k, hk, h1, h2⟩ := least_of (P := fun n => n < l.length ∧ ¬ inR (l.getD n 0) 0 100 = true) n hn2
      have h3 := wr_hit h1.1 (fun j hj => by
        cases f : inR (l.getD j 0) 0 100 with
        | true => rfl
        | false => exact absurd ⟨by omega, by rw [f]; simp⟩ (h2 j hj)) (by simpa using h1.2)
      rw [h3]
      simp
set_option maxRecDepth 100000 in
set_option maxHeartbeats 2000000 in
theorem has9_c (v : Value) (l : List Int) (w : World) (hr : Rd w v (intVs l)) (hn : l.length ≤ 1048576) :
    Calls Try.prog 55 #[v, .func (.func 54) #[] #[]] w fun e w' => e = .returned (.bool (decide (0 ≤ wrI l))) ∧ Below w.heap.size w w' := by
  have E0 := Lib.hid (fun W h => idx9_c v l W h hn)
  have HR := Lib.hid hr
  clear hr
  go_enter Try.func55, Try.ntmps55
  go_wp2_with fail
  refine (E0.out _ HR.out).mono ?_
  rintro e w1 ⟨rfl, b1⟩
  go_wp2
  go_ret
  exact ⟨rfl, b1⟩
set_option maxRecDepth 100000 in
set_option maxHeartbeats 2000000 in
theorem implIsProfile_c (v : Value) (l : List Int) (w : World) (hr : Rd w v (intVs l)) (hn : l.length ≤ 1048576) :
    Calls Try.prog 23 #[v] w fun e w' => e = .returned (.bool (p9V l)) ∧ Below w.heap.size w w' := by
  have E0 := Lib.hid (fun W h => has9_c v l W h hn)
  have E1 := Lib.hid (fun W => within_c (l.length : Int) 1 30 W)
  have HR := Lib.hid hr
  obtain ⟨ao, a, oa, ca, rfl, hao, hat⟩ := hr.formR
  clear hr hao hat
  cases hk : inR (l.length : Int) 1 30 with
  | false =>
    rw [hk] at E1
    have HX : Hid (false = p9V l) := Lib.hid (p9V_len hk).symm
    clear hk
    go_enter Try.func23, Try.ntmps23
    go_wp2_with fail
    refine (E1.out _).mono ?_
    rintro e w1 ⟨rfl, rfl⟩
    go_wp2
    go_ret
    exact ⟨ret_b HX.out, Below.refl _ _⟩
  | true =>
    rw [hk] at E1
    have HX := Lib.hid (wr_v hk)
    clear hk
    go_enter Try.func23, Try.ntmps23
    go_wp2_with fail
    refine (E1.out _).mono ?_
    rintro e w1 ⟨rfl, rfl⟩
    go_wp2_with fail
    refine (E0.out _ HR.out).mono ?_
    rintro e w2 ⟨rfl, b2⟩
    generalize decide (0 ≤ wrI l) = X at *
    go_wp2
    go_ret
    exact ⟨ret_b HX.out, b2⟩
set_option maxRecDepth 100000 in
set_option maxHeartbeats 2000000 in
theorem l9Good_c (v : Value) (l : List Int) (w : World) (hr : Rd w v (intVs l)) (hn : l.length ≤ 1048576) :
    Calls Try.prog 46 #[v] w fun e w' => e = .returned (.bool (p9V l)) ∧ Below w.heap.size w w' := by
  have E1 := Lib.hid (fun W => l1In_c (l.length : Int) 1 30 W)
  obtain ⟨ao, a, oa, ca, rfl, hao, hat⟩ := hr.formR
  have HA := Lib.hid hao
  have HL := Lib.hid hat
  clear hr hao hat
  go_enter Try.func46, Try.ntmps46
  go_wp2
  go_loopw [3] (fun i wr => ∃ k : Nat, k ≤ l.length ∧ i = .int .i64 k ∧ Hid (Below w.heap.size w wr) ∧ Hid (∀ j, j < k → inR (l.getD j 0) 0 100 = true)) (fun i _ => l.length - (intOf i).toNat)
  case atStart => exact ⟨0, by omega, rfl, Lib.hid (Below.refl _ _), Lib.hid (fun j h => by omega)⟩
  case round =>
    obtain ⟨k, hk, rfl, hbel, hno⟩ := hrel
    by_cases hlt : k < l.length
    · obtain ⟨rfl, hla, hlm⟩ := HA.out (by omega)
      have c0 := (HL.out.below hbel.out hla) k hlt
      have HIS := Lib.hid (fun h : inR (l.getD k 0) 0 100 = false => p9V_bad hlt h)
      have HNO : Hid (inR (l.getD k 0) 0 100 = true → ∀ j, j < k + 1 → inR (l.getD j 0) 0 100 = true) := Lib.hid (fun h j hj => by
        by_cases e : j = k
        · subst e; exact h
        · exact hno.out j (by omega))
      generalize l.getD k 0 = D at *
      go_wp2_with fail
      refine (l9Speed_c D _).mono ?_
      rintro e w1 ⟨rfl, rfl⟩
      cases hst : inR D 0 100 with
      | false =>
        have HX := Lib.hid (HIS.out hst).symm
        clear hst
        go_wp2
        go_ret
        exact ⟨ret_b HX.out, hbel.out⟩
      | true =>
        have HN2 := Lib.hid (HNO.out hst)
        clear hst
        go_wp2
        go_roundw
        case rel => exact ⟨k + 1, by omega, by go_num, hbel, HN2⟩
        case measure => simp [intOf]; omega
    · obtain rfl : k = l.length := by omega
      have HX : Hid (inR (l.length : Int) 1 30 = p9V l) := Lib.hid (by
        cases e : inR (l.length : Int) 1 30 with
        | true => exact (p9V_good e hno.out).symm
        | false => exact (p9V_len e).symm)
      go_wp2_with fail
      refine (E1.out _).mono ?_
      rintro e w1 ⟨rfl, rfl⟩
      go_wp2
      go_ret
      exact ⟨ret_b HX.out, hbel.out⟩
end Go.Proofs.Ytklfipmjdhkkiaa
