/- The least pull for a sag: the program's and the specification's answer as one function. Condition: sizes. -/
import Derived.Test.YtmmjbdffpgohdaaSagSpecC
namespace Go.Proofs.Ytmmjbdffpgohdaa
open Go.RowKit
set_option linter.unusedVariables false
noncomputable def pfB (l : List Sup) (wt p sg : Int) : Bool := onL l p && inR wt 1 200 && inR sg 0 100
/-- The pull for a sag, where the place's distances from the span's ends make E together. -/
def pfQ (wt E sg : Int) : Int := (wt * E + 2 * sg - 1) / (2 * sg)
noncomputable def pfOk (l : List Sup) (wt p sg : Int) : Bool := pfB l wt p sg && (decide (pX l p * pY l p = 0) || (!decide (sg = 0) && decide (pfQ wt (pX l p * pY l p) sg ≤ 100000)))
noncomputable def pfV (l : List Sup) (wt p sg : Int) : Int := if pfOk l wt p sg then (if pX l p * pY l p = 0 then 1 else pfQ wt (pX l p * pY l p) sg) else 0
theorem pf_no {l : List Sup} {wt p sg : Int} (h : pfB l wt p sg = false) : pfV l wt p sg = 0 ∧ pfOk l wt p sg = false := by simp [pfV, pfOk, h]
theorem pf_e0 {l : List Sup} {wt p sg : Int} (h : pfB l wt p sg = true) (h0 : pX l p * pY l p = 0) : pfV l wt p sg = 1 ∧ pfOk l wt p sg = true := by simp [pfV, pfOk, h, h0]
theorem pf_s0 {l : List Sup} {wt p sg : Int} (h : pfB l wt p sg = true) (h0 : pX l p * pY l p ≠ 0) (h1 : sg = 0) : pfV l wt p sg = 0 ∧ pfOk l wt p sg = false := by simp [pfV, pfOk, h0, h1]
theorem pf_big {l : List Sup} {wt p sg : Int} (h : pfB l wt p sg = true) (h0 : pX l p * pY l p ≠ 0) (h1 : sg ≠ 0) (h2 : ¬ pfQ wt (pX l p * pY l p) sg ≤ 100000) : pfV l wt p sg = 0 ∧ pfOk l wt p sg = false := by simp [pfV, pfOk, h, h0, h1, h2]
theorem pf_yes {l : List Sup} {wt p sg : Int} (h : pfB l wt p sg = true) (h0 : pX l p * pY l p ≠ 0) (h1 : sg ≠ 0) (h2 : pfQ wt (pX l p * pY l p) sg ≤ 100000) : pfV l wt p sg = pfQ wt (pX l p * pY l p) sg ∧ pfOk l wt p sg = true := by simp [pfV, pfOk, h, h0, h1, h2]
theorem pfQ_bd {wt E sg : Int} (h1 : 1 ≤ wt ∧ wt ≤ 200) (h2 : 0 < E ∧ E ≤ 9000000) (h3 : 0 < sg ∧ sg ≤ 100) : 1 ≤ pfQ wt E sg ∧ pfQ wt E sg ≤ 2000000000 ∧ (0 < wt * E ∧ wt * E ≤ 1800000000) ∧ Int.tdiv (wt * E + 2 * sg - 1) (2 * sg) = pfQ wt E sg := by
  have m := mulBd (A := 200) (B := 9000000) (by omega : 0 ≤ wt) h1.2 (by omega : 0 ≤ E) h2.2
  have m0 := Int.mul_pos (by omega : 0 < wt) h2.1
  unfold pfQ
  refine ⟨?_, ?_, by omega, ?_⟩
  · rw [Int.le_ediv_iff_mul_le (by omega)]; omega
  · have := Int.ediv_le_self (a := wt * E + 2 * sg - 1) (2 * sg) (by omega); omega
  · exact Int.tdiv_eq_ediv_of_nonneg (by omega)
theorem ret2 {a b : Int} {c d : Bool} (h : a = b) (g : c = d) : Ending.returned (.tuple #[.int .i64 a, .bool c]) = .returned (.tuple #[.int .i64 b, .bool d]) := by rw [h, g]
set_option maxRecDepth 100000 in
set_option maxHeartbeats 4000000 in
theorem implPullFor_c (v : Value) (l : List Sup) (wt p sg : Int) (w : World) (hr : Rs w v l.length (sups l)) (hn : l.length ≤ 1048576) (hwt : (Lit.int .i64 wt).wf = true) (hp : (Lit.int .i64 p).wf = true) (hsg : (Lit.int .i64 sg).wf = true) :
    Calls Try.prog 15 #[v, .int .i64 wt, .int .i64 p, .int .i64 sg] w fun e w' => e = .returned (.tuple #[.int .i64 (pfV l wt p sg), .bool (pfOk l wt p sg)]) ∧ Below w.heap.size w w' := by
  have HB := Lib.hid (implSpanAt_c v l p w hr hn hp)
  have E1 := Lib.hid (fun W => within_c wt 1 200 W)
  have E2 := Lib.hid (fun W => within_c sg 0 100 W)
  have hD : pfB l wt p sg = (onL l p && inR wt 1 200 && inR sg 0 100) := rfl
  have HR := Lib.hid hr
  clear hp hr
  cases hb : pfB l wt p sg with
  | false =>
    obtain ⟨z1, z2⟩ := pf_no hb
    have HZ := Lib.hid (And.intro z1 z2)
    rw [hb] at hD
    have HD := Lib.hid hD.symm
    clear z1 z2 hb hD HR
    cases ho : onL l p with
    | false =>
      rw [ho] at HB
      clear E1 E2 HD ho
      generalize spanOf l p = sp at *
      go_enter Try.func15, Try.ntmps15
      go_wp2_with fail
      refine HB.out.mono ?_
      rintro e w1 ⟨rfl, b1⟩
      go_wp2
      go_ret2
      exact ⟨ret2 HZ.out.1.symm HZ.out.2.symm, b1⟩
    | true =>
      rw [ho] at HB HD
      generalize spanOf l p = sp at *
      clear ho
      cases hi : inR wt 1 200 with
      | false =>
        rw [hi] at E1
        clear E2 HD hi
        go_enter Try.func15, Try.ntmps15
        go_wp2_with fail
        refine HB.out.mono ?_
        rintro e w1 ⟨rfl, b1⟩
        go_wp2_with fail
        refine (E1.out _).mono ?_
        rintro e w2 ⟨rfl, rfl⟩
        go_wp2
        go_ret2
        exact ⟨ret2 HZ.out.1.symm HZ.out.2.symm, b1⟩
      | true =>
        rw [hi] at E1 HD
        have hq : inR sg 0 100 = false := by simpa using HD.out
        rw [hq] at E2
        clear HD hq hi
        go_enter Try.func15, Try.ntmps15
        go_wp2_with fail
        refine HB.out.mono ?_
        rintro e w1 ⟨rfl, b1⟩
        go_wp2_with fail
        refine (E1.out _).mono ?_
        rintro e w2 ⟨rfl, rfl⟩
        go_wp2_with fail
        refine (E2.out _).mono ?_
        rintro e w2 ⟨rfl, rfl⟩
        go_wp2
        go_ret2
        exact ⟨ret2 HZ.out.1.symm HZ.out.2.symm, b1⟩
  | true =>
    have hD' := hD
    rw [hb, eq_comm, Bool.and_eq_true, Bool.and_eq_true] at hD'
    obtain ⟨⟨ho, hi⟩, hq⟩ := hD'
    have hwb := (inR_iff _ _ _).1 hi
    have hsb := (inR_iff _ _ _).1 hq
    have hE := (xyOk (onAt ho)).bd
    have HDP := Lib.hid (fun W hW => distancesProduct_c v l p W hW (onAt ho))
    have H0 := Lib.hid (pf_e0 hb)
    have H1 := Lib.hid (pf_s0 hb)
    have H2 := Lib.hid (pf_big hb)
    have H3 := Lib.hid (pf_yes hb)
    have hsp : spanOf l p = ((spanN l p : Nat) : Int) := by simp [spanOf, ho]
    rw [hsp, ho] at HB
    rw [hi] at E1
    rw [hq] at E2
    clear hsp ho hi hq hD hb
    generalize spanN l p = z at *
    generalize pX l p * pY l p = E at *
    by_cases hE0 : E = 0
    · subst hE0
      have HZ := Lib.hid (H0.out rfl)
      clear H0 H1 H2 H3
      go_enter Try.func15, Try.ntmps15
      go_wp2_with fail
      refine HB.out.mono ?_
      rintro e w1 ⟨rfl, b1⟩
      go_wp2_with fail
      refine (E1.out _).mono ?_
      rintro e w2 ⟨rfl, rfl⟩
      go_wp2_with fail
      refine (E2.out _).mono ?_
      rintro e w2 ⟨rfl, rfl⟩
      go_wp2_with fail
      refine (HDP.out _ (HR.out.below b1 rfl)).mono ?_
      rintro e w3 ⟨rfl, d3⟩
      go_wp2
      go_ret2
      exact ⟨ret2 HZ.out.1.symm HZ.out.2.symm, Drew.below_trans b1 d3⟩
    · have hEb : (E == 0) = false := by simpa using hE0
      by_cases hs0 : sg = 0
      · have HZ := Lib.hid (H1.out hE0 hs0)
        subst hs0
        clear H0 H1 H2 H3
        go_enter Try.func15, Try.ntmps15
        go_wp2_with fail
        refine HB.out.mono ?_
        rintro e w1 ⟨rfl, b1⟩
        go_wp2_with fail
        refine (E1.out _).mono ?_
        rintro e w2 ⟨rfl, rfl⟩
        go_wp2_with fail
        refine (E2.out _).mono ?_
        rintro e w2 ⟨rfl, rfl⟩
        go_wp2_with fail
        refine (HDP.out _ (HR.out.below b1 rfl)).mono ?_
        rintro e w3 ⟨rfl, d3⟩
        go_wp2
        go_ret2
        exact ⟨ret2 HZ.out.1.symm HZ.out.2.symm, Drew.below_trans b1 d3⟩
      · have hsb' : (sg == 0) = false := by simpa using hs0
        obtain ⟨q1, q2, q3, q4⟩ := pfQ_bd (wt := wt) (E := E) (sg := sg) hwb (by omega) (by omega)
        have s1 : IntKind.i64.wrap (wt * E) = wt * E := IntWalk.i64_in _ (by omega)
        have s2 : IntKind.i64.wrap (2 * sg) = 2 * sg := IntWalk.i64_in _ (by omega)
        have s3 : IntKind.i64.wrap (wt * E + 2 * sg) = wt * E + 2 * sg := IntWalk.i64_in _ (by omega)
        have s4 : IntKind.i64.wrap (wt * E + 2 * sg - 1) = wt * E + 2 * sg - 1 := IntWalk.i64_in _ (by omega)
        have s5 : ((2 * sg) == 0) = false := by rw [beq_eq_false_iff_ne]; omega
        have q5 : (wt * E + 2 * sg - 1) / (2 * sg) = pfQ wt E sg := rfl
        have s6 : IntKind.i64.wrap (pfQ wt E sg) = pfQ wt E sg := IntWalk.i64_in _ (by omega)
        by_cases hq : pfQ wt E sg ≤ 100000
        · have HZ := Lib.hid (H3.out hE0 hs0 hq)
          clear H0 H1 H2 H3
          generalize pfQ wt E sg = Q at *
          go_enter Try.func15, Try.ntmps15
          go_wp2_with fail
          refine HB.out.mono ?_
          rintro e w1 ⟨rfl, b1⟩
          go_wp2_with fail
          refine (E1.out _).mono ?_
          rintro e w2 ⟨rfl, rfl⟩
          go_wp2_with fail
          refine (E2.out _).mono ?_
          rintro e w2 ⟨rfl, rfl⟩
          go_wp2_with fail
          refine (HDP.out _ (HR.out.below b1 rfl)).mono ?_
          rintro e w3 ⟨rfl, d3⟩
          go_wp2
          go_ret2
          exact ⟨ret2 HZ.out.1.symm HZ.out.2.symm, Drew.below_trans b1 d3⟩
        · have HZ := Lib.hid (H2.out hE0 hs0 hq)
          clear H0 H1 H2 H3
          generalize pfQ wt E sg = Q at *
          go_enter Try.func15, Try.ntmps15
          go_wp2_with fail
          refine HB.out.mono ?_
          rintro e w1 ⟨rfl, b1⟩
          go_wp2_with fail
          refine (E1.out _).mono ?_
          rintro e w2 ⟨rfl, rfl⟩
          go_wp2_with fail
          refine (E2.out _).mono ?_
          rintro e w2 ⟨rfl, rfl⟩
          go_wp2_with fail
          refine (HDP.out _ (HR.out.below b1 rfl)).mono ?_
          rintro e w3 ⟨rfl, d3⟩
          go_wp2
          go_ret2
          exact ⟨ret2 HZ.out.1.symm HZ.out.2.symm, Drew.below_trans b1 d3⟩
set_option maxRecDepth 100000 in
set_option maxHeartbeats 4000000 in
theorem specPullFor_c (v : Value) (l : List Sup) (wt p sg : Int) (w : World) (hr : Rs w v l.length (sups l)) (hn : l.length ≤ 1048576) (hwt : (Lit.int .i64 wt).wf = true) (hp : (Lit.int .i64 p).wf = true) (hsg : (Lit.int .i64 sg).wf = true) :
    Calls Try.prog 16 #[v, .int .i64 wt, .int .i64 p, .int .i64 sg] w fun e w' => e = .returned (.tuple #[.int .i64 (pfV l wt p sg), .bool (pfOk l wt p sg)]) ∧ Below w.heap.size w w' := by
  have HB := Lib.hid (l4Asked_c v l ⟨wt, 1⟩ p w hr hn)
  have E2 := Lib.hid (fun W => l1In_c sg 0 100 W)
  have hS : sgOk l ⟨wt, 1⟩ p = (onL l p && inR wt 1 200) := by simp [sgOk, isR, inR]
  have hD : pfB l wt p sg = (sgOk l ⟨wt, 1⟩ p && inR sg 0 100) := by rw [hS]; rfl
  have HR := Lib.hid hr
  clear hp hr
  cases hb : pfB l wt p sg with
  | false =>
    obtain ⟨z1, z2⟩ := pf_no hb
    have HZ := Lib.hid (And.intro z1 z2)
    rw [hb] at hD
    have HD := Lib.hid hD.symm
    clear z1 z2 hb hD HR hS
    cases ho : sgOk l ⟨wt, 1⟩ p with
    | false =>
      rw [ho] at HB
      clear E2 HD ho
      go_enter Try.func16, Try.ntmps16
      go_wp2_with fail
      refine HB.out.mono ?_
      rintro e w1 ⟨rfl, b1⟩
      go_wp2
      go_ret2
      exact ⟨ret2 HZ.out.1.symm HZ.out.2.symm, b1⟩
    | true =>
      rw [ho] at HB HD
      have hq : inR sg 0 100 = false := by simpa using HD.out
      rw [hq] at E2
      clear HD hq ho
      go_enter Try.func16, Try.ntmps16
      go_wp2_with fail
      refine HB.out.mono ?_
      rintro e w1 ⟨rfl, b1⟩
      go_wp2_with fail
      refine (E2.out _).mono ?_
      rintro e w2 ⟨rfl, rfl⟩
      go_wp2
      go_ret2
      exact ⟨ret2 HZ.out.1.symm HZ.out.2.symm, b1⟩
  | true =>
    have hD' := hD
    rw [hb, eq_comm, Bool.and_eq_true] at hD'
    obtain ⟨hso, hq⟩ := hD'
    have hso' := hso
    rw [hS, Bool.and_eq_true] at hso'
    obtain ⟨ho, hi⟩ := hso'
    have hwb := (inR_iff _ _ _).1 hi
    have hsb := (inR_iff _ _ _).1 hq
    have hxy := xyOk (onAt ho)
    have hE := hxy.bd
    have hx0 := hxy.x0
    have hy0 := hxy.y0
    have hsm := hxy.sum
    have hs1 := hxy.s1
    have HDP := Lib.hid (fun W hW => l4Parts_c v l p W hW ho)
    have H0 := Lib.hid (pf_e0 hb)
    have H1 := Lib.hid (pf_s0 hb)
    have H2 := Lib.hid (pf_big hb)
    have H3 := Lib.hid (pf_yes hb)
    rw [hso] at HB
    rw [hq] at E2
    clear hso ho hi hq hD hb hS hxy
    generalize slen l (spanN l p) = S at *
    generalize pX l p = X at *
    generalize pY l p = Y at *
    obtain ⟨E, hEd⟩ : ∃ E, E = X * Y := ⟨_, rfl⟩
    rw [← hEd] at hE H0 H1 H2 H3
    have m0 := mulBd (A := 200) (B := 3000) (by omega : 0 ≤ wt) hwb.2 hx0 (by omega)
    have s0 : IntKind.i64.wrap (X * Y) = E := by rw [← hEd]; exact IntWalk.i64_in _ (by omega)
    have s7 : IntKind.i64.wrap (wt * X) = wt * X := IntWalk.i64_in _ (by omega)
    have a1 : wt * X * Y = wt * E := by rw [hEd]; exact Int.mul_assoc _ _ _
    clear hsm hEd
    by_cases hE0 : E = 0
    · subst hE0
      have HZ := Lib.hid (H0.out rfl)
      clear H0 H1 H2 H3 a1
      go_enter Try.func16, Try.ntmps16
      go_wp2_with fail
      refine HB.out.mono ?_
      rintro e w1 ⟨rfl, b1⟩
      go_wp2_with fail
      refine (E2.out _).mono ?_
      rintro e w2 ⟨rfl, rfl⟩
      go_wp2_with fail
      refine (HDP.out _ (HR.out.below b1 rfl)).mono ?_
      rintro e w3 ⟨rfl, d3⟩
      go_wp2
      go_ret2
      exact ⟨ret2 HZ.out.1.symm HZ.out.2.symm, Drew.below_trans b1 d3⟩
    · have hEb : (E == 0) = false := by simpa using hE0
      by_cases hs0 : sg = 0
      · have HZ := Lib.hid (H1.out hE0 hs0)
        subst hs0
        clear H0 H1 H2 H3 a1
        go_enter Try.func16, Try.ntmps16
        go_wp2_with fail
        refine HB.out.mono ?_
        rintro e w1 ⟨rfl, b1⟩
        go_wp2_with fail
        refine (E2.out _).mono ?_
        rintro e w2 ⟨rfl, rfl⟩
        go_wp2_with fail
        refine (HDP.out _ (HR.out.below b1 rfl)).mono ?_
        rintro e w3 ⟨rfl, d3⟩
        go_wp2
        go_ret2
        exact ⟨ret2 HZ.out.1.symm HZ.out.2.symm, Drew.below_trans b1 d3⟩
      · have hsb' : (sg == 0) = false := by simpa using hs0
        obtain ⟨q1, q2, q3, q4⟩ := pfQ_bd (wt := wt) (E := E) (sg := sg) hwb (by omega) (by omega)
        have s1 : IntKind.i64.wrap (wt * X * Y) = wt * E := by rw [a1]; exact IntWalk.i64_in _ (by omega)
        have s2 : IntKind.i64.wrap (2 * sg) = 2 * sg := IntWalk.i64_in _ (by omega)
        have s3 : IntKind.i64.wrap (wt * E + 2 * sg) = wt * E + 2 * sg := IntWalk.i64_in _ (by omega)
        have s4 : IntKind.i64.wrap (wt * E + 2 * sg - 1) = wt * E + 2 * sg - 1 := IntWalk.i64_in _ (by omega)
        have s5 : ((2 * sg) == 0) = false := by rw [beq_eq_false_iff_ne]; omega
        have q5 : (wt * E + 2 * sg - 1) / (2 * sg) = pfQ wt E sg := rfl
        have s6 : IntKind.i64.wrap (pfQ wt E sg) = pfQ wt E sg := IntWalk.i64_in _ (by omega)
        clear a1
        by_cases hq : pfQ wt E sg ≤ 100000
        · have HZ := Lib.hid (H3.out hE0 hs0 hq)
          have HM : Hid (imax 1 (pfQ wt E sg) = pfQ wt E sg) := Lib.hid (by unfold imax; split <;> omega)
          clear H0 H1 H2 H3
          generalize pfQ wt E sg = Q at *
          go_enter Try.func16, Try.ntmps16
          go_wp2_with fail
          refine HB.out.mono ?_
          rintro e w1 ⟨rfl, b1⟩
          go_wp2_with fail
          refine (E2.out _).mono ?_
          rintro e w2 ⟨rfl, rfl⟩
          go_wp2_with fail
          refine (HDP.out _ (HR.out.below b1 rfl)).mono ?_
          rintro e w3 ⟨rfl, d3⟩
          go_wp2_with fail
          refine (l1Most_c 1 Q _).mono ?_
          rw [HM.out]
          rintro e w' ⟨rfl, rfl⟩
          go_wp2
          go_ret2
          exact ⟨ret2 HZ.out.1.symm HZ.out.2.symm, Drew.below_trans b1 d3⟩
        · have HZ := Lib.hid (H2.out hE0 hs0 hq)
          clear H0 H1 H2 H3
          generalize pfQ wt E sg = Q at *
          go_enter Try.func16, Try.ntmps16
          go_wp2_with fail
          refine HB.out.mono ?_
          rintro e w1 ⟨rfl, b1⟩
          go_wp2_with fail
          refine (E2.out _).mono ?_
          rintro e w2 ⟨rfl, rfl⟩
          go_wp2_with fail
          refine (HDP.out _ (HR.out.below b1 rfl)).mono ?_
          rintro e w3 ⟨rfl, d3⟩
          go_wp2
          go_ret2
          exact ⟨ret2 HZ.out.1.symm HZ.out.2.symm, Drew.below_trans b1 d3⟩
end Go.Proofs.Ytmmjbdffpgohdaa
