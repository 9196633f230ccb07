/- What a valid circle is: the specification's and the program's answer as one function. Condition: sizes. -/
import Derived.Test.YtmmjbdffpgohdaaCirS
import Derived.Test.YtmmjbdffpgohdaaCircGap
import Derived.Test.YtmmjbdffpgohdaaAft
namespace Go.Proofs.Ytmmjbdffpgohdaa
open Go.RowKit
set_option linter.unusedVariables false
/-- the row at off in b holds l -/
def IntAt (w : World) (b off : Nat) (l : List Int) : Prop := ∀ i, i < l.length → w.cell? ⟨b, off + i, none⟩ = some (.int .i64 (l.getD i 0))
theorem IntAt.below {w w' : World} {b off : Nat} {l : List Int} (h : IntAt w b off l) (hb : Below w.heap.size w w') (hl : b < w.heap.size) : IntAt w' b off l := fun i hi => (hb.cell (p := ⟨b, off + i, none⟩) hl).trans (h i hi)
theorem IntAt.drew {w w' : World} {b off : Nat} {l : List Int} (h : IntAt w b off l) (hd : Drew w w') : IntAt w' b off l := fun i hi => by rw [hd.cell]; exact h i hi
theorem Rd.form8 {w : World} {v : Value} {l : List Int} (h : Rd w v (intVs l)) :
    ∃ ao b off cap, v = .slice ao l.length cap ∧ (0 < l.length → ao = some ⟨b, off, none⟩ ∧ b < w.heap.size ∧ l.length ≤ maxLen) ∧ IntAt w b off l := by
  by_cases h0 : l = []
  · subst h0
    obtain ⟨a, ca, hv⟩ := h.iv0
    exact ⟨a, 0, 0, ca, hv, fun h => by simp at h, fun i hi => by simp at hi⟩
  · obtain ⟨b, off, cap, hv, hb, hm, hx⟩ := h.iv h0
    exact ⟨_, b, off, cap, hv, fun _ => ⟨rfl, hb, hm⟩, hx⟩
theorem rise_false {s : List Int} {lo hi : Int} {k : Nat} (h : riseN s lo hi k = false) : ∀ n, k ≤ n → riseN s lo hi n = false
  | 0, hn => by
    have : k = 0 := by omega
    subst this
    exact h
  | n + 1, hn => by
    by_cases e : k = n + 1
    · subst e
      exact h
    · simp only [riseN, rise_false h n (by omega), Bool.false_and]
theorem rise_succ {s : List Int} {lo hi : Int} {k : Nat} (h : riseN s lo hi k = true) : riseN s lo hi (k + 1) = (inR (s.getD k 0) lo hi && (k == 0 || decide (s.getD (k - 1) 0 < s.getD k 0))) := by
  simp only [riseN, h, Bool.true_and]
theorem rise_zero {s : List Int} {lo hi : Int} : riseN s lo hi 1 = inR (s.getD 0 0) lo hi := by simp [riseN]
theorem qq_l1In (x lo hi : Int) (b : Bool) (h : inR x lo hi = b) (w : World) (n : Nat) :
    Calls Try.prog 65 #[.int .i64 x, .int .i64 lo, .int .i64 hi] (w.drewN n) fun e w'' => e = .returned (.bool b) ∧ ∃ m, w'' = w.drewN m :=
  (l1In_c x lo hi _).mono fun _ _ ⟨he, hw⟩ => ⟨by rw [← h]; exact he, n, hw⟩
set_option maxRecDepth 100000 in
set_option maxHeartbeats 4000000 in
theorem l1Rising_c (v : Value) (l : List Int) (lo hi : Int) (w : World) (hr : Rd w v (intVs l)) (hn : l.length ≤ 1048576) :
    Calls Try.prog 104 #[v, .int .i64 lo, .int .i64 hi] w fun e w' => e = .returned (.bool (riseN l lo hi l.length)) ∧ Drew w w' := by
  obtain ⟨ao, a, oa, ca, rfl, hao, hat⟩ := hr.form8
  have HA := Lib.hid hao
  have HL := Lib.hid hat
  clear hr hao hat
  go_enter Try.func104, Try.ntmps104
  go_wp2
  go_loopw [7] (fun i wr => ∃ j : Nat, j ≤ l.length ∧ i = .int .i64 j ∧ Drew w wr ∧ Hid (riseN l lo hi j = true)) (fun i _ => l.length - (intOf i).toNat)
  case atStart => exact ⟨0, Nat.zero_le _, rfl, Drew.refl _, Lib.hid rfl⟩
  case round =>
    obtain ⟨j, hj, rfl, hd, HO⟩ := hrel
    by_cases hlt : j < l.length
    · obtain ⟨rfl, hla, hlm⟩ := HA.out (by omega)
      have HLW := Lib.hid (HL.out.drew hd)
      have c0 := HLW.out j hlt
      have HF := Lib.hid (fun h : riseN l lo hi (j + 1) = false => rise_false h l.length (by omega))
      have HS := Lib.hid (rise_succ HO.out)
      have HZ := Lib.hid (fun h : j = 0 => (by subst h; exact rise_zero : riseN l lo hi (j + 1) = inR (l.getD j 0) lo hi))
      have HP := Lib.hid (fun hp : 0 < j => HLW.out (j - 1) (by omega))
      generalize hX : l.getD j 0 = X at *
      generalize hY : l.getD (j - 1) 0 = Y at *
      clear hX hY HLW
      cases hin : inR X lo hi with
      | false =>
        have HR : Hid (riseN l lo hi l.length = false) := Lib.hid (HF.out (by rw [HS.out, hin]; rfl))
        have HIN := Lib.hid hin
        clear hin HS HF HZ HP
        go_wp2_with fail
        go_quiet ((go_at_call 65; exact qq_l1In _ _ _ _ HIN.out _ _))
        go_wp2
        go_ret
        exact ⟨ret_b HR.out.symm, hd.more _⟩
      | true =>
        have HIN := Lib.hid hin
        by_cases hp : 0 < j
        · have b0 := HP.out hp
          obtain ⟨p1, p2, p3⟩ := pred_in j hp (by omega)
          have hpi : (0 : Int) < (j : Int) := by omega
          have hji : (j : Int) - 1 < (l.length : Int) := by omega
          have hjn : j - 1 < l.length := by omega
          have hjb : (j == 0) = false := by rw [beq_eq_false_iff_ne]; omega
          by_cases hyx : Y < X
          · have HR : Hid (riseN l lo hi (j + 1) = true) := Lib.hid (by rw [HS.out, hin, hjb]; simp; exact hyx)
            have t1 : decide (X ≤ Y) = false := by simp; omega
            clear hin HS HF HZ HP hyx hjb
            go_wp2_with fail
            go_quiet ((go_at_call 65; exact qq_l1In _ _ _ _ HIN.out _ _))
            clear p1 p2 p3
            go_wp2
            go_roundw
            case rel => exact ⟨j + 1, by omega, by go_num, hd.more _, HR⟩
            case measure => simp [intOf]; omega
          · have HR : Hid (riseN l lo hi l.length = false) := Lib.hid (HF.out (by rw [HS.out, hin, hjb]; simp; omega))
            have t1 : decide (X ≤ Y) = true := by simp; omega
            clear hin HS HF HZ HP hyx hjb
            go_wp2_with fail
            go_quiet ((go_at_call 65; exact qq_l1In _ _ _ _ HIN.out _ _))
            clear p1 p2 p3
            go_wp2
            go_ret
            exact ⟨ret_b HR.out.symm, hd.more _⟩
        · have hj0 : (j : Int) ≤ 0 := by omega
          have HR : Hid (riseN l lo hi (j + 1) = true) := Lib.hid (by rw [HZ.out (by omega)]; exact hin)
          clear hin HS HF HZ HP
          go_wp2_with fail
          go_quiet ((go_at_call 65; exact qq_l1In _ _ _ _ HIN.out _ _))
          go_wp2
          go_roundw
          case rel => exact ⟨j + 1, by omega, by go_num, hd.more _, HR⟩
          case measure => simp [intOf]; omega
    · obtain rfl : j = l.length := by omega
      have hjj : ¬ l.length < l.length := by omega
      go_wp2
      go_ret
      exact ⟨ret_b HO.out.symm, hd⟩

set_option maxHeartbeats 1000000 in
theorem l8Good_c (L S : Int) (v : Value) (l : List Int) (w : World) (hr : Rd w v (intVs l)) (hn : l.length ≤ 1048576) :
    Calls Try.prog 84 #[.agg #[.int .i64 L, .int .i64 S, v]] w fun e w' => e = .returned (.bool (cirV L S l)) ∧ Below w.heap.size w w' := by
  have HR := Lib.hid hr
  obtain ⟨a, ca, rfl⟩ := hr.isl
  clear hr
  have E1 := Lib.hid (fun W => l1In_c L 10 4000 W)
  have E2 := Lib.hid (fun W => l1In_c S 1 100 W)
  have hd : cirV L S l = (inR L 10 4000 && (inR S 1 100 && (riseN l 0 (L - 1) l.length && decide (l.length ≤ 12)))) := rfl
  have HB := Lib.hid ((Below.refl w.heap.size w).alloc (Nat.le_refl _) (.cells #[.int .i64 L, .int .i64 S, .slice a l.length ca] 55))
  have hb0 := blk_new3 w (.int .i64 L) (.int .i64 S) (.slice a l.length ca) 55
  have HB0 := Lib.hid hb0
  clear hb0
  cases h1 : inR L 10 4000 with
  | false =>
    rw [h1] at E1 hd
    have HD := Lib.hid hd
    clear h1 hd
    go_enter Try.func84, Try.ntmps84
    go_wp2_with fail
    refine (E1.out _).mono ?_
    rintro e w1 ⟨rfl, rfl⟩
    go_wp2
    go_ret
    exact ⟨ret_b HD.out.symm, HB.out⟩
  | true =>
    have hL := (inR_iff L 10 4000).1 h1
    cases h2 : inR S 1 100 with
    | false =>
      rw [h1] at E1
      rw [h2] at E2
      rw [h1, h2] at hd
      have HD := Lib.hid hd
      clear h1 h2 hd
      go_enter Try.func84, Try.ntmps84
      go_wp2_with fail
      refine (E1.out _).mono ?_
      rintro e w1 ⟨rfl, rfl⟩
      go_wp2_with fail
      refine (E2.out _).mono ?_
      rintro e w2 ⟨rfl, rfl⟩
      go_wp2
      go_ret
      exact ⟨ret_b HD.out.symm, HB.out⟩
    | true =>
      rw [h1] at E1
      rw [h2] at E2
      rw [h1, h2] at hd
      have hw1 : IntKind.i64.wrap (L - 1) = L - 1 := IntWalk.i64_in _ (by omega)
      have E3 := Lib.hid (fun W h => l1Rising_c (.slice a l.length ca) l 0 (L - 1) W h hn)
      generalize riseN l 0 (L - 1) l.length = R at *
      have HD := Lib.hid hd
      clear h1 h2 hd
      go_enter Try.func84, Try.ntmps84
      go_wp2_with fail
      refine (E1.out _).mono ?_
      rintro e w1 ⟨rfl, rfl⟩
      go_wp2_with fail
      refine (E2.out _).mono ?_
      rintro e w2 ⟨rfl, rfl⟩
      go_wp2_with fail
      refine (E3.out _ (HR.out.below HB.out rfl)).mono ?_
      rintro e w3 ⟨rfl, d3⟩
      have HT := Lib.hid (HB.out.trans (d3.below w.heap.size))
      have c2 := (d3.cell _).trans (blk_cell3 HB0.out).2.2
      clear d3
      cases R with
      | false =>
        go_wp2
        go_ret
        exact ⟨ret_b HD.out.symm, HT.out⟩
      | true =>
        have HD2 : Hid (cirV L S l = decide ((l.length : Int) ≤ 12)) := Lib.hid (by rw [HD.out]; simp; omega)
        go_wp2
        go_ret
        exact ⟨ret_b HD2.out.symm, HT.out⟩
set_option maxHeartbeats 1000000 in
theorem specIsCircle_c (L S : Int) (v : Value) (l : List Int) (w : World) (hr : Rd w v (intVs l)) (hn : l.length ≤ 1048576) :
    Calls Try.prog 42 #[.agg #[.int .i64 L, .int .i64 S, v]] w fun e w' => e = .returned (.bool (cirV L S l)) ∧ Below w.heap.size w w' := by
  have HR := Lib.hid hr
  obtain ⟨a, ca, rfl⟩ := hr.isl
  clear hr
  have HB := Lib.hid ((Below.refl w.heap.size w).alloc (Nat.le_refl _) (.cells #[.int .i64 L, .int .i64 S, .slice a l.length ca] 55))
  go_enter Try.func42, Try.ntmps42
  go_wp2_with fail
  refine (l8Good_c L S _ l _ (HR.out.below HB.out rfl) hn).mono ?_
  rintro e w1 ⟨rfl, b1⟩
  have HT := Lib.hid (HB.out.trans (b1.mono HB.out.size))
  clear b1
  go_wp2
  go_ret
  exact ⟨rfl, HT.out⟩
/-! The program's. -/
theorem startIn_c (x L S : Int) (P : Nat) (w : World) (h0 : w.cell? ⟨P, 0, none⟩ = some (.int .i64 L)) (hL : 1 ≤ L ∧ L ≤ 4000) :
    Calls Try.prog 90 #[.int .i64 x, .pointer (some ⟨P, 0, none⟩)] w fun e w' => e = .returned (.bool (inR x 0 (L - 1))) ∧ w' = w := by
  have hw1 : IntKind.i64.wrap (L - 1) = L - 1 := IntWalk.i64_in _ (by omega)
  have E1 := Lib.hid (fun W => within_c x 0 (L - 1) W)
  generalize inR x 0 (L - 1) = b at *
  go_enter Try.func90, Try.ntmps90
  go_wp2_with fail
  refine (E1.out _).mono ?_
  rintro e w1 ⟨rfl, rfl⟩
  go_wp2
  go_ret
  exact ⟨rfl, rfl⟩
theorem startKey_c (x : Int) (w : World) :
    Calls Try.prog 92 #[.int .i64 x] w fun e w' => e = .returned (.int .i64 x) ∧ w' = w := by
  go_enter Try.func92, Try.ntmps92
  go_wp2
  go_ret
  exact ⟨rfl, rfl⟩
theorem q_startIn (x L S : Int) (P : Nat) (b : Bool) (h : inR x 0 (L - 1) = b) (w : World) (n : Nat) (h0 : w.cell? ⟨P, 0, none⟩ = some (.int .i64 L)) (hL : 1 ≤ L ∧ L ≤ 4000) :
    Calls Try.prog 90 #[.int .i64 x, .pointer (some ⟨P, 0, none⟩)] (w.drewN n) fun e w'' => e = .returned (.bool b) ∧ ∃ m, w'' = w.drewN m :=
  (startIn_c x L S P _ (by rw [World.cell?_drewN]; exact h0) hL).mono fun _ _ ⟨he, hw⟩ => ⟨by rw [← h]; exact he, n, hw⟩
theorem q_startKey (x : Int) (w : World) (n : Nat) :
    Calls Try.prog 92 #[.int .i64 x] (w.drewN n) fun e w'' => e = .returned (.int .i64 x) ∧ ∃ m, w'' = w.drewN m :=
  (startKey_c x _).mono fun _ _ ⟨he, hw⟩ => ⟨he, n, hw⟩
set_option maxRecDepth 100000 in
set_option maxHeartbeats 4000000 in
theorem ascInt_c (v : Value) (l : List Int) (L S : Int) (P : Nat) (w : World) (hr : Rd w v (intVs l)) (hn : l.length ≤ 1048576) (hP : w.cell? ⟨P, 0, none⟩ = some (.int .i64 L)) (hL : 1 ≤ L ∧ L ≤ 4000) :
    Calls Try.prog 91 #[v, .int .i64 12, .func (.func 90) #[] #[.pointer (some ⟨P, 0, none⟩)], .func (.func 92) #[] #[]] w fun e w' => e = .returned (.bool (riseN l 0 (L - 1) l.length && decide (l.length ≤ 12))) ∧ Drew w w' := by
  obtain ⟨ao, a, oa, ca, rfl, hao, hat⟩ := hr.form8
  have HA := Lib.hid hao
  have HL := Lib.hid hat
  have HPL := Lib.hid hP
  clear hr hao hat hP
  by_cases h12 : l.length ≤ 12
  · have HRB : Hid ((riseN l 0 (L - 1) l.length && decide (l.length ≤ 12)) = riseN l 0 (L - 1) l.length) := Lib.hid (by simp [h12])
    go_enter Try.func91, Try.ntmps91
    go_wp2
    go_loopw [17] (fun i wr => ∃ j : Nat, j ≤ l.length ∧ i = .int .i64 j ∧ Drew w wr ∧ Hid (riseN l 0 (L - 1) j = true)) (fun i _ => l.length - (intOf i).toNat)
    case atStart => exact ⟨0, Nat.zero_le _, rfl, Drew.refl _, Lib.hid rfl⟩
    case round =>
      obtain ⟨j, hj, rfl, hd, HO⟩ := hrel
      by_cases hlt : j < l.length
      · obtain ⟨rfl, hla, hlm⟩ := HA.out (by omega)
        have HLW := Lib.hid (HL.out.drew hd)
        have HPW : Hid (wr.cell? ⟨P, 0, none⟩ = some (.int .i64 L)) := Lib.hid ((hd.cell _).trans HPL.out)
        have c0 := HLW.out j hlt
        have HF := Lib.hid (fun h : riseN l 0 (L - 1) (j + 1) = false => rise_false h l.length (by omega))
        have HS := Lib.hid (rise_succ HO.out)
        have HZ := Lib.hid (fun h : j = 0 => (by subst h; exact rise_zero : riseN l 0 (L - 1) (j + 1) = inR (l.getD j 0) 0 (L - 1)))
        have HPP := Lib.hid (fun hp : 0 < j => HLW.out (j - 1) (by omega))
        generalize hX : l.getD j 0 = X at *
        generalize hY : l.getD (j - 1) 0 = Y at *
        clear hX hY HLW
        cases hin : inR X 0 (L - 1) with
        | false =>
          have HR : Hid (riseN l 0 (L - 1) l.length = false) := Lib.hid (HF.out (by rw [HS.out, hin]; rfl))
          have HIN := Lib.hid hin
          clear hin HS HF HZ HPP
          go_wp2_with fail
          go_quiet (first | (go_at_call 90; exact q_startIn _ L S _ _ HIN.out _ _ HPW.out hL) | (go_at_call 92; exact q_startKey _ _ _))
          go_wp2
          go_ret
          exact ⟨ret_b (HRB.out.trans HR.out).symm, hd.more _⟩
        | true =>
          have HIN := Lib.hid hin
          by_cases hp : 0 < j
          · have b0 := HPP.out hp
            obtain ⟨p1, p2, p3⟩ := pred_in j hp (by omega)
            have hpi : (0 : Int) < (j : Int) := by omega
            have hji : (j : Int) - 1 < (l.length : Int) := by omega
            have hjn : j - 1 < l.length := by omega
            have hjb : (j == 0) = false := by rw [beq_eq_false_iff_ne]; omega
            by_cases hyx : Y < X
            · have HR : Hid (riseN l 0 (L - 1) (j + 1) = true) := Lib.hid (by rw [HS.out, hin, hjb]; simp; exact hyx)
              have t1 : decide (X ≤ Y) = false := by simp; omega
              clear hin HS HF HZ HPP hyx hjb
              go_wp2_with fail
              go_quiet (first | (go_at_call 90; exact q_startIn _ L S _ _ HIN.out _ _ HPW.out hL) | (go_at_call 92; exact q_startKey _ _ _))
              clear p1 p2 p3
              go_wp2
              go_roundw
              case rel => exact ⟨j + 1, by omega, by go_num, hd.more _, HR⟩
              case measure => simp [intOf]; omega
            · have HR : Hid (riseN l 0 (L - 1) l.length = false) := Lib.hid (HF.out (by rw [HS.out, hin, hjb]; simp; omega))
              have t1 : decide (X ≤ Y) = true := by simp; omega
              clear hin HS HF HZ HPP hyx hjb
              go_wp2_with fail
              go_quiet (first | (go_at_call 90; exact q_startIn _ L S _ _ HIN.out _ _ HPW.out hL) | (go_at_call 92; exact q_startKey _ _ _))
              clear p1 p2 p3
              go_wp2
              go_ret
              exact ⟨ret_b (HRB.out.trans HR.out).symm, hd.more _⟩
          · have hj0 : (j : Int) ≤ 0 := by omega
            have hgt : decide ((0 : Int) < (j : Int)) = false := by simp; omega
            have HR : Hid (riseN l 0 (L - 1) (j + 1) = true) := Lib.hid (by rw [HZ.out (by omega)]; exact hin)
            clear hin HS HF HZ HPP
            go_wp2_with fail
            go_quiet (first | (go_at_call 90; exact q_startIn _ L S _ _ HIN.out _ _ HPW.out hL) | (go_at_call 92; exact q_startKey _ _ _))
            go_wp2
            go_roundw
            case rel => exact ⟨j + 1, by omega, by go_num, hd.more _, HR⟩
            case measure => simp [intOf]; omega
      · obtain rfl : j = l.length := by omega
        have hjj : ¬ l.length < l.length := by omega
        go_wp2
        go_ret
        exact ⟨ret_b (HRB.out.trans HO.out).symm, hd⟩
  · have HRB : Hid ((riseN l 0 (L - 1) l.length && decide (l.length ≤ 12)) = false) := Lib.hid (by simp [h12])
    go_enter Try.func91, Try.ntmps91
    go_wp2
    go_ret
    exact ⟨ret_b HRB.out.symm, Drew.refl _⟩
set_option maxHeartbeats 1000000 in
theorem implIsCircle_c (L S : Int) (v : Value) (l : List Int) (w : World) (hr : Rd w v (intVs l)) (hn : l.length ≤ 1048576) :
    Calls Try.prog 41 #[.agg #[.int .i64 L, .int .i64 S, v]] w fun e w' => e = .returned (.bool (cirV L S l)) ∧ Below w.heap.size w w' := by
  have HR := Lib.hid hr
  obtain ⟨a, ca, rfl⟩ := hr.isl
  clear hr
  have E1 := Lib.hid (fun W => within_c L 10 4000 W)
  have E2 := Lib.hid (fun W => within_c S 1 100 W)
  have hd : cirV L S l = (inR L 10 4000 && (inR S 1 100 && (riseN l 0 (L - 1) l.length && decide (l.length ≤ 12)))) := rfl
  have HB := Lib.hid ((Below.refl w.heap.size w).alloc (Nat.le_refl _) (.cells #[.int .i64 L, .int .i64 S, .slice a l.length ca] 55))
  have HB0 := Lib.hid (blk_new3 w (.int .i64 L) (.int .i64 S) (.slice a l.length ca) 55)
  cases h1 : inR L 10 4000 with
  | false =>
    rw [h1] at E1 hd
    have HD := Lib.hid hd
    clear h1 hd
    go_enter Try.func41, Try.ntmps41
    go_wp2_with fail
    refine (E1.out _).mono ?_
    rintro e w1 ⟨rfl, rfl⟩
    go_wp2
    go_ret
    exact ⟨ret_b HD.out.symm, HB.out⟩
  | true =>
    have hL := (inR_iff L 10 4000).1 h1
    cases h2 : inR S 1 100 with
    | false =>
      rw [h1] at E1
      rw [h2] at E2
      rw [h1, h2] at hd
      have HD := Lib.hid hd
      clear h1 h2 hd
      go_enter Try.func41, Try.ntmps41
      go_wp2_with fail
      refine (E1.out _).mono ?_
      rintro e w1 ⟨rfl, rfl⟩
      go_wp2_with fail
      refine (E2.out _).mono ?_
      rintro e w2 ⟨rfl, rfl⟩
      go_wp2
      go_ret
      exact ⟨ret_b HD.out.symm, HB.out⟩
    | true =>
      rw [h1] at E1
      rw [h2] at E2
      rw [h1, h2] at hd
      have HD := Lib.hid hd
      clear h1 h2 hd
      go_enter Try.func41, Try.ntmps41
      go_wp2_with fail
      refine (E1.out _).mono ?_
      rintro e w1 ⟨rfl, rfl⟩
      go_wp2_with fail
      refine (E2.out _).mono ?_
      rintro e w2 ⟨rfl, rfl⟩
      go_wp2_with fail
      refine (ascInt_c _ l L S w.heap.size _ (HR.out.below HB.out rfl) hn (blk_cell3 HB0.out).1 (by omega)).mono ?_
      rintro e w3 ⟨rfl, d3⟩
      have HT := Lib.hid (HB.out.trans (d3.below w.heap.size))
      clear d3
      go_wp2
      go_ret
      exact ⟨ret_b HD.out.symm, HT.out⟩
end Go.Proofs.Ytmmjbdffpgohdaa
