/- The shortest profile to a speed: the program's and the specification's answer as one function. Condition: sizes. -/
import Derived.Test.YtklfipmjdhkkiaaProfD
namespace Go.Proofs.Ytklfipmjdhkkiaa
open Go.RowKit
set_option linter.unusedVariables false
theorem own_lit1 (w : World) (v : Value) (e : TypeId) : (w.alloc (.cells #[v] e)).ownsRow w.heap.size e 1 (.slice (some ⟨w.heap.size, 0, none⟩) 1 1) 1 [v] :=
  ⟨by simp, .inr ⟨w.heap.size, 1, #[v], rfl, Nat.le_refl _, heap_alloc_new w _, Nat.le_refl _, by decide, rfl, by simp⟩⟩
theorem nx_mm {t a v : Int} (ha : 1 ≤ a) (h : v ≠ t) : min (max t (v - a)) (v + a) = nx t a v := by
  unfold nx
  split <;> split <;> omega
theorem nx_near {t a v : Int} (ha : 1 ≤ a) (h : v ≠ t) : (nx t a v - t).natAbs < (v - t).natAbs := by
  unfold nx
  split <;> split <;> omega
theorem sk_lt {f t a : Int} {k : Nat} (hi : stIn f t a = true) (hno : ∀ j, j < k → spd f t a j ≠ t) : k ≤ stK9 f t a := by
  obtain ⟨⟨h1, _⟩, _⟩ := stK_ex hi
  by_cases h : k ≤ stK9 f t a
  · exact h
  · exact absurd h1 (hno _ (by omega))
set_option maxRecDepth 100000 in
set_option maxHeartbeats 4000000 in
theorem implShortestTo_c (f t a : Int) (w : World) :
    Calls Try.prog 31 #[.int .i64 f, .int .i64 t, .int .i64 a] w fun e w' => ∃ g, e = .returned (.tuple #[g, .bool (stOk f t a)]) ∧ w'.ownsRow w.heap.size 3 1 g (stR f t a).length (intVs (stR f t a)) ∧ Below w.heap.size w w' := by
  obtain ⟨i0, hi, hz0, hz1, hz2⟩ := info_parts Try.infoIntR
  have E0 := Lib.hid (fun W => within_c f 0 100 W)
  have E1 := Lib.hid (fun W => within_c t 0 100 W)
  have E2 := Lib.hid (fun W => rate_c a W)
  have hd : stIn f t a = (inR f 0 100 && (inR t 0 100 && inR a 1 20)) := rfl
  cases hk : inR f 0 100 with
  | false =>
    rw [hk] at E0 hd
    have HX := Lib.hid (st9_no hd)
    clear hk hd
    go_enter Try.func31, Try.ntmps31
    go_wp2_with fail
    refine (E0.out _).mono ?_
    rintro e w1 ⟨rfl, rfl⟩
    go_wp2
    go_ret2
    exact ⟨_, ret_vR HX.out.1.symm, by rw [HX.out.2]; exact World.ownsRow_made _ #[] 0 (Nat.le_refl _) (by decide) rfl, (Below.refl _ _).alloc (Nat.le_refl _) _⟩
  | true =>
    cases hm : inR t 0 100 with
    | false =>
      rw [hk] at E0
      rw [hm] at E1
      rw [hk, hm] at hd
      have HX := Lib.hid (st9_no hd)
      clear hk hm hd
      go_enter Try.func31, Try.ntmps31
      go_wp2_with fail
      refine (E0.out _).mono ?_
      rintro e w1 ⟨rfl, rfl⟩
      go_wp2_with fail
      refine (E1.out _).mono ?_
      rintro e w2 ⟨rfl, rfl⟩
      go_wp2
      go_ret2
      exact ⟨_, ret_vR HX.out.1.symm, by rw [HX.out.2]; exact World.ownsRow_made _ #[] 0 (Nat.le_refl _) (by decide) rfl, (Below.refl _ _).alloc (Nat.le_refl _) _⟩
    | true =>
      cases hn : inR a 1 20 with
      | false =>
        rw [hk] at E0
        rw [hm] at E1
        rw [hn] at E2
        rw [hk, hm, hn] at hd
        have HX := Lib.hid (st9_no hd)
        clear hk hm hn hd
        go_enter Try.func31, Try.ntmps31
        go_wp2_with fail
        refine (E0.out _).mono ?_
        rintro e w1 ⟨rfl, rfl⟩
        go_wp2_with fail
        refine (E1.out _).mono ?_
        rintro e w2 ⟨rfl, rfl⟩
        go_wp2_with fail
        refine (E2.out _).mono ?_
        rintro e w3 ⟨rfl, rfl⟩
        go_wp2
        go_ret2
        exact ⟨_, ret_vR HX.out.1.symm, by rw [HX.out.2]; exact World.ownsRow_made _ #[] 0 (Nat.le_refl _) (by decide) rfl, (Below.refl _ _).alloc (Nat.le_refl _) _⟩
      | true =>
        have hf := (inR_iff _ _ _).1 hk
        have ht := (inR_iff _ _ _).1 hm
        have ha := (inR_iff _ _ _).1 hn
        rw [hk] at E0
        rw [hm] at E1
        rw [hn] at E2
        rw [hk, hm, hn] at hd
        have HI := Lib.hid hd
        have HSP := Lib.hid (spd_in hf ht ha)
        clear hk hm hn hd
        go_enter Try.func31, Try.ntmps31
        go_wp2_with fail
        refine (E0.out _).mono ?_
        rintro e w1 ⟨rfl, rfl⟩
        go_wp2_with fail
        refine (E1.out _).mono ?_
        rintro e w2 ⟨rfl, rfl⟩
        go_wp2_with fail
        refine (E2.out _).mono ?_
        rintro e w3 ⟨rfl, rfl⟩
        go_wp2
        go_loopw [8, 9] (fun o s wr => ∃ k : Nat, k ≤ 100 ∧ s = .int .i64 (spd f t a k) ∧ wr.ownsRow w3.heap.size 3 1 o (k + 1) (intVs (spTo f t a k)) ∧ Hid (Below w3.heap.size w3 wr) ∧ Hid (∀ j, j < k → spd f t a j ≠ t)) (fun _ s _ => (intOf s - t).natAbs)
        case atStart => exact ⟨0, by omega, rfl, by rw [spTo_zero]; exact own_lit1 _ _ _, Lib.hid ((Below.refl _ _).alloc (Nat.le_refl _) _), Lib.hid (fun j h => by omega)⟩
        case round =>
          obtain ⟨k, hk, rfl, hown, hbel, hno⟩ := hrel
          have hbs := hbel.out.size
          by_cases hst : spd f t a k = t
          · have HIS : Hid (IsSK f t a k) := Lib.hid ⟨hst, hno.out⟩
            have HE := Lib.hid (st_end HI.out HIS.out)
            have HLK : Hid (k + 1 = (stL f t a).length) := Lib.hid (by rw [← HE.out, spTo_len])
            rw [HE.out] at hown
            have hlen : k + 1 ≤ 1048576 := by omega
            have t1 : (spd f t a k == t) = true := by simpa using hst
            have HOW := Lib.hid hown
            clear hown
            generalize spd f t a k = X at *
            have EP := Lib.hid (fun W v h => implIsProfile_c v (stL f t a) W h (by rw [← HLK.out]; exact hlen))
            rw [st_p9 HI.out] at EP
            cases hok : stOk f t a with
            | false =>
              have HN := Lib.hid (stR_no hok)
              have HOK := Lib.hid hok
              rw [hok] at EP
              clear hok
              go_wp2_with fail
              refine (EP.out _ _ (Rd.of_own HOW.out)).mono ?_
              rintro e w4 ⟨rfl, b4⟩
              have HT := Lib.hid (hbel.out.trans (b4.mono hbel.out.size))
              clear b4
              go_wp2
              go_ret2
              exact ⟨_, ret_vR HOK.out.symm, by rw [HN.out]; exact World.ownsRow_made _ #[] 0 HT.out.size (by decide) rfl, HT.out.alloc HT.out.size _⟩
            | true =>
              have HN := Lib.hid (stR_yes hok)
              have HOK := Lib.hid hok
              rw [hok] at EP
              clear hok
              go_wp2_with fail
              refine (EP.out _ _ (Rd.of_own HOW.out)).mono ?_
              rintro e w4 ⟨rfl, b4⟩
              have HT := Lib.hid (hbel.out.trans (b4.mono hbel.out.size))
              have HO4 := Lib.hid (owns_below HOW.out b4)
              clear b4
              go_wp2
              go_ret2
              exact ⟨_, ret_vR HOK.out.symm, by rw [HN.out, ← HLK.out]; exact HO4.out, HT.out⟩
          · have HNX : Hid (∀ j, j < k + 1 → spd f t a j ≠ t) := Lib.hid (fun j hj => by
              by_cases e : j = k
              · subst e; exact hst
              · exact hno.out j (by omega))
            have hk2 : k + 1 ≤ 100 := by
              have h1 := sk_lt HI.out HNX.out
              have h2 := (stK_ex HI.out).2
              omega
            have HS := Lib.hid (spTo_succ f t a k)
            have HSN : Hid (spd f t a (k + 1) = nx t a (spd f t a k)) := Lib.hid rfl
            have hx := HSP.out k
            have hmx := nx_mm (a := a) ha.1 hst
            have HNR := Lib.hid (nx_near (a := a) ha.1 hst)
            have t1 : (spd f t a k == t) = false := by simpa using hst
            have HO := Lib.hid hown
            clear hown hst
            generalize nx t a (spd f t a k) = Y at *
            generalize spd f t a k = X at *
            go_wp2_with (at_builtin; go_loud (refine wpList_append_own _ rfl _ _ 24 rfl w3.heap.size 3 i0 (.int .i64 0) 1 8 Try.underlying24 hi hz0 hz1 hz2 rfl (by decide) _ _ _ rfl (HO.out.alloc _) ⟨wr.heap.size, 0, none⟩ 1 1 [.int .i64 Y] rfl rfl (cell_one_new _ _ _) (by simp [Value.oneCell']) (by unfold maxLen; omega) (by omega) (by simp; omega) ?_; intro v' w5 hown' hgrow _))
            go_roundw
            case rel => exact ⟨k + 1, by omega, by rw [HSN.out], by rw [HS.out, iv_one]; exact hown', Lib.hid ((hbel.out.alloc hbs _).grown hgrow (by simp; omega) (fun j hj => (HO.out.lt j hj).1)), HNX⟩
            case measure => simp [intOf]; have := HNR.out; omega
set_option maxRecDepth 100000 in
set_option maxHeartbeats 4000000 in
theorem l9To_c (f t a : Int) (w : World) (hI : stIn f t a = true) :
    Calls Try.prog 59 #[.int .i64 f, .int .i64 t, .int .i64 a] w fun e w' => ∃ g, e = .returned g ∧ w'.ownsRow w.heap.size 3 1 g (stL f t a).length (intVs (stL f t a)) ∧ Below w.heap.size w w' := by
  obtain ⟨i0, hi, hz0, hz1, hz2⟩ := info_parts Try.infoIntR
  obtain ⟨hf, ht, ha⟩ := stIn_parts hI
  have HI := Lib.hid hI
  have HSP := Lib.hid (spd_in hf ht ha)
  clear hI
  go_enter Try.func59, Try.ntmps59
  go_wp2
  go_loopw [7, 8] (fun o s wr => ∃ k : Nat, k ≤ 100 ∧ s = .int .i64 (spd f t a k) ∧ wr.ownsRow w.heap.size 3 1 o (k + 1) (intVs (spTo f t a k)) ∧ Hid (Below w.heap.size w wr) ∧ Hid (∀ j, j < k → spd f t a j ≠ t)) (fun _ s _ => (intOf s - t).natAbs)
  case atStart => exact ⟨0, by omega, rfl, by rw [spTo_zero]; exact own_lit1 _ _ _, Lib.hid ((Below.refl _ _).alloc (Nat.le_refl _) _), Lib.hid (fun j h => by omega)⟩
  case round =>
    obtain ⟨k, hk, rfl, hown, hbel, hno⟩ := hrel
    have hbs := hbel.out.size
    by_cases hst : spd f t a k = t
    · have HIS : Hid (IsSK f t a k) := Lib.hid ⟨hst, hno.out⟩
      have HE := Lib.hid (st_end HI.out HIS.out)
      have HLK : Hid (k + 1 = (stL f t a).length) := Lib.hid (by rw [← HE.out, spTo_len])
      rw [HE.out] at hown
      have t1 : (spd f t a k == t) = true := by simpa using hst
      have HOW := Lib.hid hown
      clear hown
      generalize spd f t a k = X at *
      go_wp2
      go_ret
      exact ⟨_, rfl, by rw [← HLK.out]; exact HOW.out, hbel.out⟩
    · have HNX : Hid (∀ j, j < k + 1 → spd f t a j ≠ t) := Lib.hid (fun j hj => by
        by_cases e : j = k
        · subst e; exact hst
        · exact hno.out j (by omega))
      have hk2 : k + 1 ≤ 100 := by
        have h1 := sk_lt HI.out HNX.out
        have h2 := (stK_ex HI.out).2
        omega
      have HS := Lib.hid (spTo_succ f t a k)
      have HSN : Hid (spd f t a (k + 1) = nx t a (spd f t a k)) := Lib.hid rfl
      have hx := HSP.out k
      have HNR := Lib.hid (nx_near (a := a) ha.1 hst)
      have HO := Lib.hid hown
      have HNE : Hid (∀ X, spd f t a k = X → nx t a X = nx t a X) := Lib.hid (fun _ _ => rfl)
      by_cases hlt : spd f t a k < t
      · have HC : Hid ((if t < spd f t a k + a then t else spd f t a k + a) = nx t a (spd f t a k)) := Lib.hid (by unfold nx; rw [if_pos hlt])
        have t1 : (spd f t a k == t) = false := by simpa using hst
        have t2 : decide (spd f t a k < t) = true := by simpa using hlt
        clear hown hst hlt HNE
        generalize nx t a (spd f t a k) = Y at *
        generalize spd f t a k = X at *
        go_wp2_with fail
        refine (least9_c t (X + a) _).mono ?_
        rintro e w4 ⟨rfl, rfl⟩
        rw [HC.out]
        go_wp2_with (at_builtin; go_loud (refine wpList_append_own _ rfl _ _ 24 rfl w.heap.size 3 i0 (.int .i64 0) 1 8 Try.underlying24 hi hz0 hz1 hz2 rfl (by decide) _ _ _ rfl (HO.out.alloc _) ⟨_, 0, none⟩ 1 1 [.int .i64 Y] rfl rfl (cell_one_new _ _ _) (by simp [Value.oneCell']) (by unfold maxLen; omega) (by omega) (by simp; omega) ?_; intro v' w5 hown' hgrow _))
        go_roundw
        case rel => exact ⟨k + 1, by omega, by rw [HSN.out], by rw [HS.out, iv_one]; exact hown', Lib.hid ((hbel.out.alloc hbs _).grown hgrow (by simp; omega) (fun j hj => (HO.out.lt j hj).1)), HNX⟩
        case measure => simp [intOf]; have := HNR.out; omega
      · have HC : Hid ((if spd f t a k - a < t then t else spd f t a k - a) = nx t a (spd f t a k)) := Lib.hid (by unfold nx; rw [if_neg hlt])
        have HC2 : Hid ((if t < spd f t a k - a then spd f t a k - a else t) = nx t a (spd f t a k)) := Lib.hid (by rw [← HC.out]; split <;> split <;> omega)
        have HC3 : Hid ((if spd f t a k - a < t then t else spd f t a k - a) = nx t a (spd f t a k)) := HC
        have t1 : (spd f t a k == t) = false := by simpa using hst
        have t2 : decide (spd f t a k < t) = false := by simpa using hlt
        clear hown hst hlt HNE HC
        generalize nx t a (spd f t a k) = Y at *
        generalize spd f t a k = X at *
        go_wp2_with fail
        refine (most9_c t (X - a) _).mono ?_
        rintro e w4 ⟨rfl, rfl⟩
        rw [HC3.out]
        go_wp2_with (at_builtin; go_loud (refine wpList_append_own _ rfl _ _ 24 rfl w.heap.size 3 i0 (.int .i64 0) 1 8 Try.underlying24 hi hz0 hz1 hz2 rfl (by decide) _ _ _ rfl (HO.out.alloc _) ⟨_, 0, none⟩ 1 1 [.int .i64 Y] rfl rfl (cell_one_new _ _ _) (by simp [Value.oneCell']) (by unfold maxLen; omega) (by omega) (by simp; omega) ?_; intro v' w5 hown' hgrow _))
        go_roundw
        case rel => exact ⟨k + 1, by omega, by rw [HSN.out], by rw [HS.out, iv_one]; exact hown', Lib.hid ((hbel.out.alloc hbs _).grown hgrow (by simp; omega) (fun j hj => (HO.out.lt j hj).1)), HNX⟩
        case measure => simp [intOf]; have := HNR.out; omega
set_option maxRecDepth 100000 in
set_option maxHeartbeats 4000000 in
theorem specShortestTo_c (f t a : Int) (w : World) :
    Calls Try.prog 32 #[.int .i64 f, .int .i64 t, .int .i64 a] w fun e w' => ∃ g, e = .returned (.tuple #[g, .bool (stOk f t a)]) ∧ w'.ownsRow w.heap.size 3 1 g (stR f t a).length (intVs (stR f t a)) ∧ Below w.heap.size w w' := by
  have E0 := Lib.hid (fun W => l9Speed_c f W)
  have E1 := Lib.hid (fun W => l9Speed_c t W)
  have E2 := Lib.hid (fun W => l9Rate_c a W)
  have hd : stIn f t a = (inR f 0 100 && (inR t 0 100 && inR a 1 20)) := rfl
  cases hk : inR f 0 100 with
  | false =>
    rw [hk] at E0 hd
    have HX := Lib.hid (st9_no hd)
    clear hk hd
    go_enter Try.func32, Try.ntmps32
    go_wp2_with fail
    refine (E0.out _).mono ?_
    rintro e w1 ⟨rfl, rfl⟩
    go_wp2
    go_ret2
    exact ⟨_, ret_vR HX.out.1.symm, by rw [HX.out.2]; exact World.ownsRow_made _ #[] 0 (Nat.le_refl _) (by decide) rfl, (Below.refl _ _).alloc (Nat.le_refl _) _⟩
  | true =>
    cases hm : inR t 0 100 with
    | false =>
      rw [hk] at E0
      rw [hm] at E1
      rw [hk, hm] at hd
      have HX := Lib.hid (st9_no hd)
      clear hk hm hd
      go_enter Try.func32, Try.ntmps32
      go_wp2_with fail
      refine (E0.out _).mono ?_
      rintro e w1 ⟨rfl, rfl⟩
      go_wp2_with fail
      refine (E1.out _).mono ?_
      rintro e w2 ⟨rfl, rfl⟩
      go_wp2
      go_ret2
      exact ⟨_, ret_vR HX.out.1.symm, by rw [HX.out.2]; exact World.ownsRow_made _ #[] 0 (Nat.le_refl _) (by decide) rfl, (Below.refl _ _).alloc (Nat.le_refl _) _⟩
    | true =>
      cases hn : inR a 1 20 with
      | false =>
        rw [hk] at E0
        rw [hm] at E1
        rw [hn] at E2
        rw [hk, hm, hn] at hd
        have HX := Lib.hid (st9_no hd)
        clear hk hm hn hd
        go_enter Try.func32, Try.ntmps32
        go_wp2_with fail
        refine (E0.out _).mono ?_
        rintro e w1 ⟨rfl, rfl⟩
        go_wp2_with fail
        refine (E1.out _).mono ?_
        rintro e w2 ⟨rfl, rfl⟩
        go_wp2_with fail
        refine (E2.out _).mono ?_
        rintro e w3 ⟨rfl, rfl⟩
        go_wp2
        go_ret2
        exact ⟨_, ret_vR HX.out.1.symm, by rw [HX.out.2]; exact World.ownsRow_made _ #[] 0 (Nat.le_refl _) (by decide) rfl, (Below.refl _ _).alloc (Nat.le_refl _) _⟩
      | true =>
        rw [hk] at E0
        rw [hm] at E1
        rw [hn] at E2
        rw [hk, hm, hn] at hd
        have HI := Lib.hid hd
        have HLL : Hid ((stL f t a).length ≤ 101 ∧ stOk f t a = decide ((stL f t a).length ≤ 30)) := Lib.hid (by
          have h2 := (stK_ex hd).2
          have h3 : (stL f t a).length = stK9 f t a + 1 := spTo_len _ _ _ _
          rw [h3]
          exact ⟨by omega, by unfold stOk; rw [hd]; rfl⟩)
        clear hk hm hn hd
        go_enter Try.func32, Try.ntmps32
        go_wp2_with fail
        refine (E0.out _).mono ?_
        rintro e w1 ⟨rfl, rfl⟩
        go_wp2_with fail
        refine (E1.out _).mono ?_
        rintro e w2 ⟨rfl, rfl⟩
        go_wp2_with fail
        refine (E2.out _).mono ?_
        rintro e w3 ⟨rfl, rfl⟩
        go_wp2_with fail
        refine (l9To_c f t a _ HI.out).mono ?_
        rintro e w4 ⟨g, rfl, o4, b4⟩
        obtain ⟨ga, gc, rfl⟩ := (Rs.of_own o4).shape
        clear o4
        have HB := Lib.hid b4
        clear b4
        obtain ⟨h101, hdec⟩ := HLL.out
        generalize hL : (stL f t a).length = L at *
        have HEL := Lib.hid hL
        clear hL
        by_cases hok : L ≤ 30
        · have HOK : Hid (stOk f t a = true) := Lib.hid (by rw [hdec]; simpa using hok)
          have HN := Lib.hid (stR_yes HOK.out)
          have t1 : decide ((30 : Int) < (L : Int)) = false := by simp; omega
          clear hdec
          go_wp2_with fail
          refine (l9To_c f t a _ HI.out).mono ?_
          rintro e w5 ⟨g, rfl, o5, b5⟩
          have HT := Lib.hid (HB.out.trans (b5.mono HB.out.size))
          have HO5 := Lib.hid (own_mono o5 HB.out.size)
          clear b5 o5
          go_wp2
          go_ret2
          exact ⟨_, ret_vR HOK.out.symm, by rw [HN.out]; exact HO5.out, HT.out⟩
        · have HOK : Hid (stOk f t a = false) := Lib.hid (by rw [hdec]; simpa using hok)
          have HN := Lib.hid (stR_no HOK.out)
          have t1 : decide ((30 : Int) < (L : Int)) = true := by simp; omega
          clear hdec
          go_wp2
          go_ret2
          exact ⟨_, ret_vR HOK.out.symm, by rw [HN.out]; exact World.ownsRow_made _ #[] 0 HB.out.size (by decide) rfl, HB.out.alloc HB.out.size _⟩
end Go.Proofs.Ytklfipmjdhkkiaa
