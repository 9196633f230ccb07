/- PressAt: the program's and the specification's answer as one function. Condition: sizes. -/
import Derived.Test.YtdnmmafnjhgeiaaSlopeC
namespace Go.Proofs.Ytdnmmafnjhgeiaa
open Go.RowKit
set_option linter.unusedVariables false
noncomputable def paOk (l : List Sup) (x : LC) (s : Int) : Bool := tenOk l x x.r && inR s 1 ((l.length : Int) - 2)
noncomputable def paV (l : List Sup) (x : LC) (s : Int) : Int := if paOk l x s then Int.tdiv (ten l x x.r s.toNat * (slp l (s.toNat - 1) - slp l s.toNat)) 1000 else 0
theorem pa_no {l : List Sup} {x : LC} {s : Int} (h : paOk l x s = false) : paV l x s = 0 ∧ paOk l x s = false := by simp [paV, h]
theorem pa_no1 {l : List Sup} {x : LC} {s : Int} (h : tenOk l x x.r = false) : paOk l x s = false := by simp [paOk, h]
theorem pa_no2 {l : List Sup} {x : LC} {s : Int} (h : inR s 1 ((l.length : Int) - 2) = false) : paOk l x s = false := by simp [paOk, h]
theorem pa_yes {l : List Sup} {x : LC} {s : Int} (h1 : tenOk l x x.r = true) (h2 : inR s 1 ((l.length : Int) - 2) = true) :
    paV l x s = Int.tdiv (ten l x x.r s.toNat * (slp l (s.toNat - 1) - slp l s.toNat)) 1000 ∧ paOk l x s = true := by
  have : paOk l x s = true := by simp [paOk, h1, h2]
  simp [paV, this]
theorem td_bd {T D : Int} (h0 : 0 ≤ T) (h1 : T ≤ 17000000) (h2 : -4000000 ≤ D) (h3 : D ≤ 4000000) : -68000000000000 ≤ T * D ∧ T * D ≤ 68000000000000 := by
  have a : 0 ≤ T * (D + 4000000) := Int.mul_nonneg h0 (by omega)
  have b : 0 ≤ T * (4000000 - D) := Int.mul_nonneg h0 (by omega)
  rw [Int.mul_add] at a
  rw [Int.mul_sub] at b
  omega
set_option maxRecDepth 100000 in
set_option maxHeartbeats 2000000 in
theorem implPressAt_c (v : Value) (l : List Sup) (x : LC) (s : Int) (w : World) (hr : Rs w v l.length (sups l)) (hn : l.length ≤ 1048576) (hs : (Lit.int .i64 s).wf = true) :
    Calls Try.prog 29 #[v, .agg #[.int .i64 x.w, .int .i64 x.c, .int .i64 x.r], .int .i64 s] w fun e w' => e = .returned (.tuple #[.int .i64 (paV l x s), .bool (paOk l x s)]) ∧ Below w.heap.size w w' := by
  clear hs
  have HX := Lib.hid (fun W h => lcBox w x W h)
  have HR := Lib.hid (hr.below ((Below.refl _ _).alloc (Nat.le_refl _) (.cells #[.int .i64 x.w, .int .i64 x.c, .int .i64 x.r] 26)) rfl)
  have HB0 : Hid (Below w.heap.size w (w.alloc (.cells #[.int .i64 x.w, .int .i64 x.c, .int .i64 x.r] 26))) := Lib.hid ((Below.refl _ _).alloc (Nat.le_refl _) _)
  have EU := Lib.hid (fun W hW => implUpTensions_c v l x W hW hn)
  cases hu : tenOk l x x.r with
  | false =>
    have HV := Lib.hid (pa_no (pa_no1 (s := s) hu))
    rw [HV.out.1, HV.out.2]
    rw [hu] at EU
    clear hu HV hr
    go_enter Try.func29, Try.ntmps29
    go_wp2_with fail
    refine (EU.out _ HR.out).mono ?_
    rintro e w1 ⟨g, rfl, o1, b1⟩
    have B1 := Lib.hid (HB0.out.trans (b1.mono HB0.out.size))
    have HR1 := Lib.hid (HR.out.below b1 rfl)
    have O1 := Lib.hid o1
    clear b1 o1
    go_wp2
    go_ret2
    exact ⟨rfl, B1.out⟩
  | true =>
    obtain ⟨hl, hxx, hpos⟩ := tenOk_yes hu
    have h2 := hl.two
    have h8 := hl.eight
    rw [hu, tenL_yes hu, tenK_len] at EU
    have E1 := Lib.hid (fun W => within_c s 1 ((l.length : Int) - 2) W)
    have p1 : IntKind.i64.wrap ((l.length : Int) - 2) = (l.length : Int) - 2 := IntWalk.i64_in _ (by omega)
    cases h1 : inR s 1 ((l.length : Int) - 2) with
    | false =>
      have HV := Lib.hid (pa_no (pa_no2 (x := x) h1))
      rw [HV.out.1, HV.out.2]
      rw [h1] at E1
      obtain ⟨a, oa, ca, rfl, hla, hm, hsc⟩ := hr.sup (by omega)
      clear hu HV h1 hl hxx hpos hsc hr
      go_enter Try.func29, Try.ntmps29
      go_wp2_with fail
      refine (EU.out _ HR.out).mono ?_
      rintro e w1 ⟨g, rfl, o1, b1⟩
      have B1 := Lib.hid (HB0.out.trans (b1.mono HB0.out.size))
      have HR1 := Lib.hid (HR.out.below b1 rfl)
      have O1 := Lib.hid o1
      clear b1 o1
      obtain ⟨ga, cpa, rfl, hga, hca, hma⟩ := own_shapeT O1.out (by omega)
      go_wp2_with fail
      refine (E1.out _).mono ?_
      rintro e w2 ⟨rfl, rfl⟩
      go_wp2
      go_ret2
      exact ⟨rfl, B1.out⟩
    | true =>
      have h1b := (inR_iff _ _ _).1 h1
      obtain ⟨y, hy⟩ : ∃ y : Nat, s = (y : Int) + 1 := ⟨(s - 1).toNat, by omega⟩
      subst hy
      have hz : y + 1 < l.length := by omega
      have hz2 : y + 1 + 1 < l.length := by omega
      have hzi : (y : Int) + 1 < (l.length : Int) := by omega
      have ht := ten_in hl hxx (f := x.r) (by omega) hz
      have ht0 := hpos (y + 1) hz
      have HTV : Hid ((intVs (tenK l x x.r l.length))[y + 1]? = some (.int .i64 (ten l x x.r (y + 1)))) := Lib.hid (tenV_at hz)
      have HV := Lib.hid (pa_yes hu h1)
      rw [HV.out.1, HV.out.2]
      have p3 : ((y : Int) + 1).toNat = y + 1 := by omega
      have p4 : (0 : Int) ≤ (y : Int) + 1 := by omega
      have p5 : IntKind.i64.wrap ((y : Int) + 1 - 1) = (y : Int) := by rw [Int.add_sub_cancel]; exact IntWalk.i64_in _ (by omega)
      rw [p3, Nat.add_sub_cancel]
      have HS0 := Lib.hid (fun W hW => slope_c v l y W hW hl hz)
      have HS1 : Hid (∀ W, Rs W v l.length (sups l) → Calls Try.prog 79 #[v, .int .i64 ((y : Int) + 1)] W fun e w' => e = .returned (.int .i64 (slp l (y + 1))) ∧ Drew W w') := Lib.hid (fun W hW => slope_c v l (y + 1) W hW hl hz2)
      obtain ⟨a, oa, ca, rfl, hla, hm, hsc⟩ := hr.sup (by omega)
      have sb0 := slp_bd hl hz
      have sb1 := slp_bd hl hz2
      rw [h1] at E1
      clear hu h1 hl hxx hpos h1b HV hsc hr
      generalize intVs (tenK l x x.r l.length) = LV at *
      generalize ten l x x.r (y + 1) = T at *
      generalize slp l (y + 1) = S1 at *
      generalize slp l y = S0 at *
      have m0 := td_bd ht0 ht.2 (D := S0 - S1) (by omega) (by omega)
      have m1 := tdiv_bd (n := T * (S0 - S1)) (d := 1000) (B := 68000000000000) (by omega) m0.1 m0.2
      have q1 : IntKind.i64.wrap (S0 - S1) = S0 - S1 := IntWalk.i64_in _ (by omega)
      have q2 : IntKind.i64.wrap (T * (S0 - S1)) = T * (S0 - S1) := IntWalk.i64_in _ (by omega)
      have q3 : IntKind.i64.wrap (Int.tdiv (T * (S0 - S1)) 1000) = Int.tdiv (T * (S0 - S1)) 1000 := IntWalk.i64_in _ (by omega)
      go_enter Try.func29, Try.ntmps29
      go_wp2_with fail
      refine (EU.out _ HR.out).mono ?_
      rintro e w1 ⟨g, rfl, o1, b1⟩
      have B1 := Lib.hid (HB0.out.trans (b1.mono HB0.out.size))
      have HR1 := Lib.hid (HR.out.below b1 rfl)
      have O1 := Lib.hid o1
      clear b1 o1
      obtain ⟨ga, cpa, rfl, hga, hca, hma⟩ := own_shapeT O1.out (by omega)
      have c0 := (O1.out.cellAt (y + 1) (by omega)).trans HTV.out
      go_wp2_with fail
      refine (E1.out _).mono ?_
      rintro e w2 ⟨rfl, rfl⟩
      go_wp2_with fail
      refine (HS0.out _ HR1.out).mono ?_
      rintro e w3 ⟨rfl, d3⟩
      have HR3 := Lib.hid (d3.rs HR1.out)
      have D3 := Lib.hid d3
      clear d3
      go_wp2_with fail
      refine (HS1.out _ HR3.out).mono ?_
      rintro e w4 ⟨rfl, d4⟩
      have D4 := Lib.hid (D3.out.trans d4)
      have B4 := Lib.hid (Drew.below_trans B1.out D4.out)
      have c1 := (D4.out.cell ⟨ga, y + 1, none⟩).trans c0
      clear d4 c0
      go_wp2
      go_ret2
      exact ⟨rfl, B4.out⟩
set_option maxRecDepth 100000 in
set_option maxHeartbeats 2000000 in
theorem specPressAt_c (v : Value) (l : List Sup) (x : LC) (s : Int) (w : World) (hr : Rs w v l.length (sups l)) (hn : l.length ≤ 1048576) (hs : (Lit.int .i64 s).wf = true) :
    Calls Try.prog 30 #[v, .agg #[.int .i64 x.w, .int .i64 x.c, .int .i64 x.r], .int .i64 s] w fun e w' => e = .returned (.tuple #[.int .i64 (paV l x s), .bool (paOk l x s)]) ∧ Below w.heap.size w w' := by
  clear hs
  have HX := Lib.hid (fun W h => lcBox w x W h)
  have HR := Lib.hid (hr.below ((Below.refl _ _).alloc (Nat.le_refl _) (.cells #[.int .i64 x.w, .int .i64 x.c, .int .i64 x.r] 26)) rfl)
  have HB0 : Hid (Below w.heap.size w (w.alloc (.cells #[.int .i64 x.w, .int .i64 x.c, .int .i64 x.r] 26))) := Lib.hid ((Below.refl _ _).alloc (Nat.le_refl _) _)
  have EU := Lib.hid (fun W hW => specUpTensions_c v l x W hW hn)
  cases hu : tenOk l x x.r with
  | false =>
    have HV := Lib.hid (pa_no (pa_no1 (s := s) hu))
    rw [HV.out.1, HV.out.2]
    rw [hu] at EU
    clear hu HV hr
    go_enter Try.func30, Try.ntmps30
    go_wp2_with fail
    refine (EU.out _ HR.out).mono ?_
    rintro e w1 ⟨g, rfl, o1, b1⟩
    have B1 := Lib.hid (HB0.out.trans (b1.mono HB0.out.size))
    have HR1 := Lib.hid (HR.out.below b1 rfl)
    have O1 := Lib.hid o1
    clear b1 o1
    go_wp2
    go_ret2
    exact ⟨rfl, B1.out⟩
  | true =>
    obtain ⟨hl, hxx, hpos⟩ := tenOk_yes hu
    have h2 := hl.two
    have h8 := hl.eight
    rw [hu, tenL_yes hu, tenK_len] at EU
    have E1 := Lib.hid (fun W => l1In_c s 1 ((l.length : Int) - 2) W)
    have p1 : IntKind.i64.wrap ((l.length : Int) - 2) = (l.length : Int) - 2 := IntWalk.i64_in _ (by omega)
    cases h1 : inR s 1 ((l.length : Int) - 2) with
    | false =>
      have HV := Lib.hid (pa_no (pa_no2 (x := x) h1))
      rw [HV.out.1, HV.out.2]
      rw [h1] at E1
      obtain ⟨a, oa, ca, rfl, hla, hm, hsc⟩ := hr.sup (by omega)
      clear hu HV h1 hl hxx hpos hsc hr
      go_enter Try.func30, Try.ntmps30
      go_wp2_with fail
      refine (EU.out _ HR.out).mono ?_
      rintro e w1 ⟨g, rfl, o1, b1⟩
      have B1 := Lib.hid (HB0.out.trans (b1.mono HB0.out.size))
      have HR1 := Lib.hid (HR.out.below b1 rfl)
      have O1 := Lib.hid o1
      clear b1 o1
      obtain ⟨ga, cpa, rfl, hga, hca, hma⟩ := own_shapeT O1.out (by omega)
      go_wp2_with fail
      refine (E1.out _).mono ?_
      rintro e w2 ⟨rfl, rfl⟩
      go_wp2
      go_ret2
      exact ⟨rfl, B1.out⟩
    | true =>
      have h1b := (inR_iff _ _ _).1 h1
      obtain ⟨y, hy⟩ : ∃ y : Nat, s = (y : Int) + 1 := ⟨(s - 1).toNat, by omega⟩
      subst hy
      have hz : y + 1 < l.length := by omega
      have hz2 : y + 1 + 1 < l.length := by omega
      have hzi : (y : Int) + 1 < (l.length : Int) := by omega
      have ht := ten_in hl hxx (f := x.r) (by omega) hz
      have ht0 := hpos (y + 1) hz
      have HTV : Hid ((intVs (tenK l x x.r l.length))[y + 1]? = some (.int .i64 (ten l x x.r (y + 1)))) := Lib.hid (tenV_at hz)
      have HV := Lib.hid (pa_yes hu h1)
      rw [HV.out.1, HV.out.2]
      have p3 : ((y : Int) + 1).toNat = y + 1 := by omega
      have p4 : (0 : Int) ≤ (y : Int) + 1 := by omega
      have p5 : IntKind.i64.wrap ((y : Int) + 1 - 1) = (y : Int) := by rw [Int.add_sub_cancel]; exact IntWalk.i64_in _ (by omega)
      rw [p3, Nat.add_sub_cancel]
      have HS0 := Lib.hid (fun W hW => l6Slope_c v l y W hW hl hz)
      have HS1 : Hid (∀ W, Rs W v l.length (sups l) → Calls Try.prog 80 #[v, .int .i64 ((y : Int) + 1)] W fun e w' => e = .returned (.int .i64 (slp l (y + 1))) ∧ Drew W w') := Lib.hid (fun W hW => l6Slope_c v l (y + 1) W hW hl hz2)
      obtain ⟨a, oa, ca, rfl, hla, hm, hsc⟩ := hr.sup (by omega)
      have sb0 := slp_bd hl hz
      have sb1 := slp_bd hl hz2
      rw [h1] at E1
      clear hu h1 hl hxx hpos h1b HV hsc hr
      generalize intVs (tenK l x x.r l.length) = LV at *
      generalize ten l x x.r (y + 1) = T at *
      generalize slp l (y + 1) = S1 at *
      generalize slp l y = S0 at *
      have m0 := td_bd ht0 ht.2 (D := S0 - S1) (by omega) (by omega)
      have m1 := tdiv_bd (n := T * (S0 - S1)) (d := 1000) (B := 68000000000000) (by omega) m0.1 m0.2
      have q1 : IntKind.i64.wrap (S0 - S1) = S0 - S1 := IntWalk.i64_in _ (by omega)
      have q2 : IntKind.i64.wrap (T * (S0 - S1)) = T * (S0 - S1) := IntWalk.i64_in _ (by omega)
      have q3 : IntKind.i64.wrap (Int.tdiv (T * (S0 - S1)) 1000) = Int.tdiv (T * (S0 - S1)) 1000 := IntWalk.i64_in _ (by omega)
      go_enter Try.func30, Try.ntmps30
      go_wp2_with fail
      refine (EU.out _ HR.out).mono ?_
      rintro e w1 ⟨g, rfl, o1, b1⟩
      have B1 := Lib.hid (HB0.out.trans (b1.mono HB0.out.size))
      have HR1 := Lib.hid (HR.out.below b1 rfl)
      have O1 := Lib.hid o1
      clear b1 o1
      obtain ⟨ga, cpa, rfl, hga, hca, hma⟩ := own_shapeT O1.out (by omega)
      have c0 := (O1.out.cellAt (y + 1) (by omega)).trans HTV.out
      go_wp2_with fail
      refine (E1.out _).mono ?_
      rintro e w2 ⟨rfl, rfl⟩
      go_wp2_with fail
      go_quiet ((first
        | (go_at_call_of 80 (Value.int IntKind.i64 (y : Int)); exact quiet_drew (HS0.out _ (HR1.out.drewN _)))
        | (go_at_call 80; exact quiet_drew (HS1.out _ (HR1.out.drewN _)))))
      have B4 := Lib.hid (Drew.below_trans B1.out (c := w2.drewN nq) ⟨nq, rfl⟩)
      clear c0
      generalize w2.drewN nq = wq at *
      go_wp2
      go_ret2
      exact ⟨rfl, B4.out⟩
end Go.Proofs.Ytdnmmafnjhgeiaa
