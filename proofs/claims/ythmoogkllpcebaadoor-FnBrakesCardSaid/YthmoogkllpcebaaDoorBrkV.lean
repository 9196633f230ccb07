/- What a valid drive is: the program's and the specification's answer as one function. Condition: sizes. -/
import Derived.Test.YthmoogkllpcebaaDoorBrkSet
import Derived.Test.YthmoogkllpcebaaDoorBlk3
namespace Go.Proofs.YthmoogkllpcebaaDoor
open Go.RowKit
set_option linter.unusedVariables false
theorem ret_ix10 {a b : Int} (h : a = b) : Ending.returned (.int .i64 a) = .returned (.int .i64 b) := by rw [h]
set_option maxHeartbeats 1000000 in
theorem wrong10_c (b : Brk) (w : World) :
    Calls Tryd.prog 59 #[.agg #[.int .i64 b.f, .int .i64 b.d]] w fun e w' => e = .returned (.bool (!bkOk b)) ∧ Below w.heap.size w w' := by
  have E0 := Lib.hid (fun W => within_c b.f 0 100000 W)
  have E1 := Lib.hid (fun W => within_c b.d 0 10 W)
  have hd : bkOk b = (inR b.f 0 100000 && inR b.d 0 10) := rfl
  cases h1 : inR b.f 0 100000 with
  | false =>
    rw [h1] at E0 hd
    have HD : Hid ((!bkOk b) = true) := Lib.hid (by rw [hd]; rfl)
    clear h1 hd
    go_enter Tryd.func59, Tryd.ntmps59
    go_wp2_with fail
    refine (E0.out _).mono ?_
    rintro e w1 ⟨rfl, rfl⟩
    go_wp2
    go_ret
    exact ⟨ret_b HD.out.symm, (Below.refl _ _).alloc (Nat.le_refl _) _⟩
  | true =>
    rw [h1] at E0 hd
    have HD : Hid ((!bkOk b) = (!inR b.d 0 10)) := Lib.hid (by rw [hd]; rfl)
    clear h1 hd
    generalize inR b.d 0 10 = X at *
    go_enter Tryd.func59, Tryd.ntmps59
    go_wp2_with fail
    refine (E0.out _).mono ?_
    rintro e w1 ⟨rfl, rfl⟩
    go_wp2_with fail
    refine (E1.out _).mono ?_
    rintro e w2 ⟨rfl, rfl⟩
    go_wp2
    go_ret
    exact ⟨ret_b HD.out.symm, (Below.refl _ _).alloc (Nat.le_refl _) _⟩
/-- The first brake that is not valid, or -1. -/
def wrI10 (l : List Brk) : Int := if l.findIdx (fun b => !bkOk b) < l.length then (l.findIdx (fun b => !bkOk b) : Int) else -1
theorem wr_hit10 {l : List Brk} {k : Nat} (hk : k < l.length) (h0 : ∀ j, j < k → bkOk (gth l j) = true) (h : bkOk (gth l k) = false) : wrI10 l = k := by
  have e : l.findIdx (fun b => !bkOk b) = k := by
    refine (List.findIdx_eq hk).2 ⟨by rw [← gth_get hk, h]; rfl, fun j hj => ?_⟩
    have := h0 j hj
    rw [gth_get (by omega)] at this
    rw [this]; rfl
  unfold wrI10
  rw [e, if_pos hk]
theorem wr_none10 {l : List Brk} (h0 : ∀ j, j < l.length → bkOk (gth l j) = true) : wrI10 l = -1 := by
  have e : l.findIdx (fun b => !bkOk b) = l.length := by
    rw [List.findIdx_eq_length]
    intro x hx
    obtain ⟨i, hi, rfl⟩ := List.getElem_of_mem hx
    have := h0 i hi
    rw [gth_get hi] at this
    rw [this]; rfl
  unfold wrI10
  rw [e, if_neg (by omega)]
theorem wr_all10 (l : List Brk) : (!decide (0 ≤ wrI10 l)) = l.all bkOk := by
  cases e : l.all bkOk with
  | true =>
    rw [wr_none10 ((all_gth l bkOk).1 e)]
    rfl
  | false =>
    have hlt : l.findIdx (fun b => !bkOk b) < l.length := by
      rw [List.findIdx_lt_length]
      rw [List.all_eq_false] at e
      obtain ⟨x, hx, hb⟩ := e
      exact ⟨x, hx, by simpa using hb⟩
    unfold wrI10
    rw [if_pos hlt]
    simp
set_option maxRecDepth 100000 in
set_option maxHeartbeats 2000000 in
theorem idx10_c (v : Value) (l : List Brk) (w : World) (hr : Rs w v l.length (brks l)) (hn : l.length ≤ 1048576) :
    Calls Tryd.prog 85 #[v, .func (.func 59) #[] #[]] w fun e w' => e = .returned (.int .i64 (wrI10 l)) ∧ Below w.heap.size w w' := by
  obtain ⟨ao, a, oa, ca, rfl, hao, hat⟩ := hr.form_Brk
  have HA := Lib.hid hao
  have HL := Lib.hid hat
  clear hr hao hat
  go_enter Tryd.func85, Tryd.ntmps85
  go_wp2
  go_loopw [8] (fun i wr => ∃ k : Nat, k ≤ l.length ∧ i = .int .i64 k ∧ Hid (Below w.heap.size w wr) ∧ Hid (∀ j, j < k → bkOk (gth l j) = true)) (fun i _ => l.length - (intOf i).toNat)
  case atStart => exact ⟨0, by omega, rfl, Lib.hid (Below.refl _ _), Lib.hid (fun j h => by omega)⟩
  case round =>
    obtain ⟨k, hk, rfl, hbel, hno⟩ := hrel
    by_cases hlt : k < l.length
    · obtain ⟨rfl, hla, hlm⟩ := HA.out (by omega)
      obtain ⟨c0, c1⟩ := (HL.out.below hbel.out hla) k hlt
      have HIS := Lib.hid (fun h : bkOk (gth l k) = false => wr_hit10 hlt hno.out h)
      have HNO : Hid (bkOk (gth l k) = true → ∀ j, j < k + 1 → bkOk (gth l j) = true) := Lib.hid (fun h j hj => by
        by_cases e : j = k
        · subst e; exact h
        · exact hno.out j (by omega))
      generalize gth l k = D at *
      go_wp2_with fail
      refine (wrong10_c D _).mono ?_
      rintro e w1 ⟨rfl, b1⟩
      have HB := Lib.hid (hbel.out.trans (b1.mono hbel.out.size))
      clear b1 c0 c1
      cases hst : bkOk D with
      | false =>
        have HX := Lib.hid (HIS.out hst).symm
        clear hst
        go_wp2
        go_ret
        exact ⟨ret_ix10 HX.out, HB.out⟩
      | true =>
        have HN2 := Lib.hid (HNO.out hst)
        clear hst
        go_wp2
        go_roundw
        case rel => exact ⟨k + 1, by omega, by go_num, HB, HN2⟩
        case measure => simp [intOf]; omega
    · obtain rfl : k = l.length := by omega
      have HX : Hid (-1 = wrI10 l) := Lib.hid (wr_none10 hno.out).symm
      go_wp2
      go_ret
      exact ⟨ret_ix10 HX.out, hbel.out⟩
set_option maxRecDepth 100000 in
set_option maxHeartbeats 2000000 in
theorem has10_c (v : Value) (l : List Brk) (w : World) (hr : Rs w v l.length (brks l)) (hn : l.length ≤ 1048576) :
    Calls Tryd.prog 61 #[v, .func (.func 59) #[] #[]] w fun e w' => e = .returned (.bool (decide (0 ≤ wrI10 l))) ∧ Below w.heap.size w w' := by
  have E0 := Lib.hid (fun W h => idx10_c v l W h hn)
  have HR := Lib.hid hr
  clear hr
  go_enter Tryd.func61, Tryd.ntmps61
  go_wp2_with fail
  refine (E0.out _ HR.out).mono ?_
  rintro e w1 ⟨rfl, b1⟩
  go_wp2
  go_ret
  exact ⟨rfl, b1⟩
set_option maxRecDepth 100000 in
set_option maxHeartbeats 2000000 in
theorem implIsDrive_c (L S : Int) (v : Value) (l : List Brk) (w : World) (hr : Rs w v l.length (brks l)) (hn : l.length ≤ 1048576) :
    Calls Tryd.prog 18 #[.agg #[.int .i64 L, .int .i64 S, v]] w fun e w' => e = .returned (.bool (drvOk L S l)) ∧ Below w.heap.size w w' := by
  have HR := Lib.hid hr
  obtain ⟨a, ca, rfl⟩ := hr.shape
  clear hr
  have E1 := Lib.hid (fun W => within_c L 1 100000 W)
  have E2 := Lib.hid (fun W => within_c S (-100000) 100000 W)
  have E3 := Lib.hid (fun W h => has10_c (.slice a l.length ca) l W h hn)
  have hd : drvOk L S l = (inR L 1 100000 && inR S (-100000) 100000 && decide (l.length ≤ 4) && l.all bkOk) := rfl
  have HB := Lib.hid ((Below.refl w.heap.size w).alloc (Nat.le_refl _) (.cells #[.int .i64 L, .int .i64 S, .slice a l.length ca] 26))
  cases h1 : inR L 1 100000 with
  | false =>
    rw [h1] at E1 hd
    have HD : Hid (drvOk L S l = false) := Lib.hid (by rw [hd]; rfl)
    clear h1 hd
    go_enter Tryd.func18, Tryd.ntmps18
    go_wp2_with fail
    refine (E1.out _).mono ?_
    rintro e w1 ⟨rfl, rfl⟩
    go_wp2
    go_ret
    exact ⟨ret_b HD.out.symm, HB.out⟩
  | true =>
    cases h2 : inR S (-100000) 100000 with
    | false =>
      rw [h1] at E1 hd
      rw [h2] at E2 hd
      have HD : Hid (drvOk L S l = false) := Lib.hid (by rw [hd]; rfl)
      clear h1 h2 hd
      go_enter Tryd.func18, Tryd.ntmps18
      go_wp2_with fail
      refine (E1.out _).mono ?_
      rintro e w1 ⟨rfl, rfl⟩
      go_wp2_with fail
      refine (E2.out _).mono ?_
      rintro e w2 ⟨rfl, rfl⟩
      go_wp2
      go_ret
      exact ⟨ret_b HD.out.symm, HB.out⟩
    | true =>
      by_cases h4 : l.length ≤ 4
      · rw [h1] at E1 hd
        rw [h2, decide_eq_true h4, ← wr_all10] at hd
        rw [h2] at E2
        have HD : Hid (drvOk L S l = !decide (0 ≤ wrI10 l)) := Lib.hid (by rw [hd]; rfl)
        have t4 : decide ((l.length : Int) ≤ 4) = true := by simp; omega
        clear h1 h2 hd
        go_enter Tryd.func18, Tryd.ntmps18
        go_wp2_with fail
        refine (E1.out _).mono ?_
        rintro e w1 ⟨rfl, rfl⟩
        go_wp2_with fail
        refine (E2.out _).mono ?_
        rintro e w2 ⟨rfl, rfl⟩
        go_wp2_with fail
        refine (E3.out _ (HR.out.below HB.out rfl)).mono ?_
        rintro e w3 ⟨rfl, b3⟩
        have HT := Lib.hid (HB.out.trans (b3.mono HB.out.size))
        clear b3
        generalize decide (0 ≤ wrI10 l) = X at *
        go_wp2
        go_ret
        exact ⟨ret_b HD.out.symm, HT.out⟩
      · rw [h1] at E1 hd
        rw [h2, decide_eq_false h4] at hd
        rw [h2] at E2
        have HD : Hid (drvOk L S l = false) := Lib.hid (by rw [hd]; rfl)
        have t4 : decide ((l.length : Int) ≤ 4) = false := by simp; omega
        clear h1 h2 hd
        go_enter Tryd.func18, Tryd.ntmps18
        go_wp2_with fail
        refine (E1.out _).mono ?_
        rintro e w1 ⟨rfl, rfl⟩
        go_wp2_with fail
        refine (E2.out _).mono ?_
        rintro e w2 ⟨rfl, rfl⟩
        go_wp2
        go_ret
        exact ⟨ret_b HD.out.symm, HB.out⟩
theorem q10_l1In (x lo hi : Int) (b : Bool) (h : inR x lo hi = b) (w : World) (n : Nat) :
    Calls Tryd.prog 64 #[.int .i64 x, .int .i64 lo, .int .i64 hi] (w.drewN n) fun e w'' => e = .returned (.bool b) ∧ ∃ m, w'' = w.drewN m :=
  (l1In_c x lo hi _).mono fun _ _ ⟨he, hw⟩ => ⟨by rw [← h]; exact he, n, hw⟩
set_option maxRecDepth 100000 in
set_option maxHeartbeats 4000000 in
theorem l10Good_c (L S : Int) (v : Value) (l : List Brk) (w : World) (hr : Rs w v l.length (brks l)) (hn : l.length ≤ 1048576) :
    Calls Tryd.prog 62 #[.agg #[.int .i64 L, .int .i64 S, v]] w fun e w' => e = .returned (.bool (drvOk L S l)) ∧ Below w.heap.size w w' := by
  obtain ⟨ao, a, oa, ca, rfl, hao, hat⟩ := hr.form_Brk
  have HA := Lib.hid hao
  have HL := Lib.hid hat
  clear hr hao hat
  have E1 := Lib.hid (fun W => l1In_c L 1 100000 W)
  have E2 := Lib.hid (fun W => l1In_c S (-100000) 100000 W)
  have hd : drvOk L S l = (inR L 1 100000 && inR S (-100000) 100000 && decide (l.length ≤ 4) && l.all bkOk) := rfl
  have HB := Lib.hid ((Below.refl w.heap.size w).alloc (Nat.le_refl _) (.cells #[.int .i64 L, .int .i64 S, .slice ao l.length ca] 26))
  have HB0 := Lib.hid (blk_new3 w (.int .i64 L) (.int .i64 S) (.slice ao l.length ca) 26)
  cases h1 : inR L 1 100000 with
  | false =>
    rw [h1] at E1 hd
    have HD : Hid (drvOk L S l = false) := Lib.hid (by rw [hd]; rfl)
    clear h1 hd
    go_enter Tryd.func62, Tryd.ntmps62
    go_wp2_with fail
    refine (E1.out _).mono ?_
    rintro e w1 ⟨rfl, rfl⟩
    go_wp2
    go_ret
    exact ⟨ret_b HD.out.symm, HB.out⟩
  | true =>
    cases h2 : inR S (-100000) 100000 with
    | false =>
      rw [h1] at E1 hd
      rw [h2] at E2 hd
      have HD : Hid (drvOk L S l = false) := Lib.hid (by rw [hd]; rfl)
      clear h1 h2 hd
      go_enter Tryd.func62, Tryd.ntmps62
      go_wp2_with fail
      refine (E1.out _).mono ?_
      rintro e w1 ⟨rfl, rfl⟩
      go_wp2_with fail
      refine (E2.out _).mono ?_
      rintro e w2 ⟨rfl, rfl⟩
      go_wp2
      go_ret
      exact ⟨ret_b HD.out.symm, HB.out⟩
    | true =>
      by_cases h4 : l.length ≤ 4
      · rw [h1] at E1 hd
        rw [h2, decide_eq_true h4] at hd
        rw [h2] at E2
        have HD : Hid (drvOk L S l = l.all bkOk) := Lib.hid (by rw [hd]; rfl)
        have t4 : decide ((4 : Int) < (l.length : Int)) = false := by simp; omega
        clear h1 h2 hd
        go_enter Tryd.func62, Tryd.ntmps62
        go_wp2_with fail
        refine (E1.out _).mono ?_
        rintro e w1 ⟨rfl, rfl⟩
        go_wp2_with fail
        refine (E2.out _).mono ?_
        rintro e w2 ⟨rfl, rfl⟩
        go_wp2
        generalize hW0 : w.alloc (.cells #[.int .i64 L, .int .i64 S, .slice ao l.length ca] 26) = W0 at *
        clear hW0
        go_loopw [3] (fun i wr => ∃ k : Nat, k ≤ l.length ∧ i = .int .i64 k ∧ wr = W0 ∧ Hid (∀ j, j < k → bkOk (gth l j) = true)) (fun i _ => l.length - (intOf i).toNat)
        case atStart => exact ⟨0, by omega, rfl, rfl, Lib.hid (fun j h => by omega)⟩
        case round =>
          obtain ⟨k, hk, rfl, rfl, hno⟩ := hrel
          obtain ⟨b0, b1, b2⟩ := blk_cell3 HB0.out
          by_cases hlt : k < l.length
          · obtain ⟨rfl, hla, hlm⟩ := HA.out (by omega)
            obtain ⟨c0, c1⟩ := (HL.out.below HB.out hla) k hlt
            have F0 := Lib.hid (fun W => l1In_c (gth l k).f 0 100000 W)
            have F1 := Lib.hid (fun W => l1In_c (gth l k).d 0 10 W)
            have HBAD : Hid (bkOk (gth l k) = false → l.all bkOk = false) := Lib.hid (fun h => by
              cases e : l.all bkOk with
              | false => rfl
              | true => rw [(all_gth l bkOk).1 e k hlt] at h; cases h)
            have HNO : Hid (bkOk (gth l k) = true → ∀ j, j < k + 1 → bkOk (gth l j) = true) := Lib.hid (fun h j hj => by
              by_cases e : j = k
              · subst e; exact h
              · exact hno.out j (by omega))
            have hx : bkOk (gth l k) = (inR (gth l k).f 0 100000 && inR (gth l k).d 0 10) := rfl
            generalize gth l k = D at *
            cases g1 : inR D.f 0 100000 with
            | false =>
              rw [g1] at F0 hx
              have HX : Hid (false = drvOk L S l) := Lib.hid (by rw [HD.out, HBAD.out (by rw [hx]; rfl)])
              clear g1 hx
              go_wp2_with fail
              refine (F0.out _).mono ?_
              rintro e w1 ⟨rfl, rfl⟩
              go_wp2
              go_ret
              exact ⟨ret_b HX.out, HB.out⟩
            | true =>
              cases g2 : inR D.d 0 10 with
              | false =>
                rw [g1] at F0 hx
                rw [g2] at F1 hx
                have HX : Hid (false = drvOk L S l) := Lib.hid (by rw [HD.out, HBAD.out (by rw [hx]; rfl)])
                clear g1 g2 hx
                go_wp2_with fail
                refine (F0.out _).mono ?_
                rintro e w1 ⟨rfl, rfl⟩
                go_wp2_with fail
                refine (F1.out _).mono ?_
                rintro e w2 ⟨rfl, rfl⟩
                go_wp2
                go_ret
                exact ⟨ret_b HX.out, HB.out⟩
              | true =>
                rw [g1] at F0 hx
                rw [g2] at F1 hx
                have HN2 := Lib.hid (HNO.out (by rw [hx]; rfl))
                clear g1 g2 hx
                go_wp2_with fail
                refine (F0.out _).mono ?_
                rintro e w1 ⟨rfl, rfl⟩
                go_wp2_with fail
                refine (F1.out _).mono ?_
                rintro e w2 ⟨rfl, rfl⟩
                go_wp2
                go_roundw
                case rel => exact ⟨k + 1, by omega, by go_num, by trivial, HN2⟩
                case measure => simp [intOf]; omega
          · obtain rfl : k = l.length := by omega
            have HX : Hid (true = drvOk L S l) := Lib.hid (by rw [HD.out, (all_gth l bkOk).2 hno.out])
            go_wp2
            go_ret
            exact ⟨ret_b HX.out, HB.out⟩
      · rw [h1] at E1 hd
        rw [h2, decide_eq_false h4] at hd
        rw [h2] at E2
        have HD : Hid (drvOk L S l = false) := Lib.hid (by rw [hd]; rfl)
        have t4 : decide ((4 : Int) < (l.length : Int)) = true := by simp; omega
        clear h1 h2 hd
        go_enter Tryd.func62, Tryd.ntmps62
        go_wp2_with fail
        refine (E1.out _).mono ?_
        rintro e w1 ⟨rfl, rfl⟩
        go_wp2_with fail
        refine (E2.out _).mono ?_
        rintro e w2 ⟨rfl, rfl⟩
        go_wp2
        go_ret
        exact ⟨ret_b HD.out.symm, HB.out⟩
set_option maxHeartbeats 2000000 in
theorem specIsDrive_c (L S : Int) (v : Value) (l : List Brk) (w : World) (hr : Rs w v l.length (brks l)) (hn : l.length ≤ 1048576) :
    Calls Tryd.prog 19 #[.agg #[.int .i64 L, .int .i64 S, v]] w fun e w' => e = .returned (.bool (drvOk L S l)) ∧ Below w.heap.size w w' := by
  have E0 := Lib.hid (fun W v h => l10Good_c L S v l W h hn)
  have HR := Lib.hid hr
  obtain ⟨a, ca, rfl⟩ := hr.shape
  clear hr
  have HB := Lib.hid ((Below.refl w.heap.size w).alloc (Nat.le_refl _) (.cells #[.int .i64 L, .int .i64 S, .slice a l.length ca] 26))
  go_enter Tryd.func19, Tryd.ntmps19
  go_wp2_with fail
  refine (E0.out _ _ (HR.out.below HB.out rfl)).mono ?_
  rintro e w1 ⟨rfl, b1⟩
  have HT := Lib.hid (HB.out.trans (b1.mono HB.out.size))
  clear b1
  go_wp2
  go_ret
  exact ⟨rfl, HT.out⟩
end Go.Proofs.YthmoogkllpcebaaDoor
