/- What sags keep: less with a greater pull, more with a load, the greatest one, the pull for a sag. No condition. -/
import Derived.Test.YtmmjbdffpgohdaaSagSpecC
import Derived.Test.YtmmjbdffpgohdaaGreatCE
import Derived.Test.YtmmjbdffpgohdaaGreatSE
import Derived.Test.YtmmjbdffpgohdaaPullForC
namespace Go.Proofs.Ytmmjbdffpgohdaa
open Go.RowKit
set_option linter.unusedVariables false
theorem mxN_max (l : List Sup) : ∀ k i, i ≤ k → sE l i ≤ sE l (mxN l k)
  | 0, i, h => by
    obtain rfl : i = 0 := by omega
    exact Int.le_refl _
  | k + 1, i, h => by
    have ih := mxN_max l k
    unfold mxN
    split
    · rename_i hlt
      by_cases e : i = k + 1
      · subst e; exact Int.le_refl _
      · have := ih i (by omega)
        omega
    · rename_i hlt
      by_cases e : i = k + 1
      · subst e; omega
      · exact ih i (by omega)
theorem sg_of_on {l : List Sup} {r : Rp} {p : Int} (h : onL l p = true) (h1 : 1 ≤ r.w ∧ r.w ≤ 200) (h2 : 1 ≤ r.p ∧ r.p ≤ 100000) : sgOk l r p = true := by
  unfold sgOk isR
  rw [h, Bool.true_and, Bool.and_eq_true, inR_iff, inR_iff]
  exact ⟨h1, h2⟩
/-- A sag in lowest terms. -/
theorem sg_terms {l : List Sup} {r : Rp} {p : Int} (h : sgOk l r p = true) :
    sgN l r p = rN (r.w * (pX l p * pY l p)) (2 * r.p) ∧ sgD l r p = rD (r.w * (pX l p * pY l p)) (2 * r.p) ∧ (0 ≤ pX l p * pY l p ∧ pX l p * pY l p ≤ 9000000) ∧ (0 ≤ r.w * (pX l p * pY l p) ∧ r.w * (pX l p * pY l p) ≤ 1800000000) ∧
    (0 ≤ sgN l r p ∧ sgN l r p ≤ 1800000000) ∧ (0 < sgD l r p ∧ sgD l r p ≤ 200000) := by
  obtain ⟨ho, hw, hp⟩ := sgOk_yes h
  have hE := (xyOk (onAt ho)).bd
  have hm := mulBd (show 0 ≤ r.w by omega) hw.2 hE.1 hE.2
  have e1 : sgN l r p = rN (r.w * (pX l p * pY l p)) (2 * r.p) := by unfold sgN; rw [if_pos h]
  have e2 : sgD l r p = rD (r.w * (pX l p * pY l p)) (2 * r.p) := by unfold sgD; rw [if_pos h]
  have hn := rN_bd (n := r.w * (pX l p * pY l p)) (d := 2 * r.p) (B := 1800000000) (by omega) (by omega) (by omega)
  have hd := rD_pos (n := r.w * (pX l p * pY l p)) (d := 2 * r.p) (by omega)
  have hd2 := rD_le (n := r.w * (pX l p * pY l p)) (d := 2 * r.p) (by omega)
  have hcr := r_cross (r.w * (pX l p * pY l p)) (2 * r.p)
  have h0 : 0 ≤ rN (r.w * (pX l p * pY l p)) (2 * r.p) := by
    have h1 : 0 ≤ r.w * (pX l p * pY l p) * rD (r.w * (pX l p * pY l p)) (2 * r.p) := Int.mul_nonneg hm.1 (by omega)
    rw [← hcr] at h1
    by_cases hneg : 0 ≤ rN (r.w * (pX l p * pY l p)) (2 * r.p)
    · exact hneg
    · have h2 := Int.mul_neg_of_neg_of_pos (show rN (r.w * (pX l p * pY l p)) (2 * r.p) < 0 by omega) (show 0 < 2 * r.p by omega)
      omega
  rw [e1, e2]
  exact ⟨rfl, rfl, hE, hm, ⟨h0, hn.2⟩, ⟨hd, by omega⟩⟩
theorem not_lt_r {a b c d : Int} (hb : 0 < b) (hd : 0 < d) (h : c * b ≤ a * d) : rN c d * rD a b ≤ rN a b * rD c d := by
  have := (not_congr (frLt_r (a := a) (b := b) (c := c) (d := d) hb hd)).2 (by unfold frLt; omega)
  unfold frLt at this
  omega
/-- What the law asks of a sag with a load. -/
theorem ld_keeps {l : List Sup} {r : Rp} {p q : Int} (h : ldOk l r p q = true) :
    sgOk l r p = true ∧ ldOk l r p 0 = true ∧ ldN l r p 0 = sgN l r p ∧ ldD l r p 0 = sgD l r p ∧ (0 ≤ ldN l r p q ∧ ldN l r p q ≤ 5800000000000) ∧ (0 < ldD l r p q ∧ ldD l r p q ≤ 600000000) ∧ sgN l r p * ldD l r p q ≤ ldN l r p q * sgD l r p := by
  have h' := h
  unfold ldOk at h
  rw [Bool.and_eq_true, inR_iff] at h
  obtain ⟨hs, hq⟩ := h
  obtain ⟨e1, e2, hE, hm, _, _⟩ := sg_terms hs
  obtain ⟨ho, hw, hp⟩ := sgOk_yes hs
  have hxy := xyOk (onAt ho)
  have hz := ld_zero l r p
  have e3 : ldN l r p q = rN (ldRaw l r p q) (2 * r.p * slen l (spanN l p)) := by unfold ldN; rw [if_pos h']
  have e4 : ldD l r p q = rD (ldRaw l r p q) (2 * r.p * slen l (spanN l p)) := by unfold ldD; rw [if_pos h']
  have hs0 := hxy.s0
  have hs1 := hxy.s1
  generalize hSS : slen l (spanN l p) = s at *
  generalize hEE : pX l p * pY l p = E at *
  have hden : 0 < 2 * r.p * s := Int.mul_pos (by omega) hs0
  have hden2 : 2 * r.p * s ≤ 200000 * 3000 := Int.mul_le_mul (by omega) hs1 (by omega) (by omega)
  have hraw : ldRaw l r p q = r.w * E * s + 2 * q * E := by unfold ldRaw; rw [hSS, hEE]
  have b1 := mulBd hm.1 hm.2 (show 0 ≤ s by omega) hs1
  have b2 := mulBd (show 0 ≤ 2 * q by omega) (show 2 * q ≤ 40000 by omega) hE.1 hE.2
  have hn := rN_bd (n := ldRaw l r p q) (d := 2 * r.p * s) (B := 5800000000000) hden (by omega) (by omega)
  have hd := rD_pos (n := ldRaw l r p q) hden
  have hd2 := rD_le (n := ldRaw l r p q) hden
  have hcr := r_cross (ldRaw l r p q) (2 * r.p * s)
  have h0 : 0 ≤ rN (ldRaw l r p q) (2 * r.p * s) := by
    have h1 : 0 ≤ ldRaw l r p q * rD (ldRaw l r p q) (2 * r.p * s) := Int.mul_nonneg (by omega) (by omega)
    rw [← hcr] at h1
    by_cases hneg : 0 ≤ rN (ldRaw l r p q) (2 * r.p * s)
    · exact hneg
    · have h2 := Int.mul_neg_of_neg_of_pos (show rN (ldRaw l r p q) (2 * r.p * s) < 0 by omega) hden
      omega
  refine ⟨hs, by rw [hz.2.2]; exact hs, hz.1, hz.2.1, by rw [e3]; exact ⟨h0, hn.2⟩, by rw [e4]; omega, ?_⟩
  rw [e1, e2, e3, e4]
  refine not_lt_r (a := ldRaw l r p q) (b := 2 * r.p * s) (c := r.w * E) (d := 2 * r.p) hden (by omega) ?_
  rw [hraw]
  have h3 : 0 ≤ 2 * q * E * (2 * r.p) := Int.mul_nonneg b2.1 (by omega)
  have e5 : (r.w * E * s + 2 * q * E) * (2 * r.p) = r.w * E * (2 * r.p * s) + 2 * q * E * (2 * r.p) := by grind
  omega
/-- A greater pull makes no sag greater. -/
theorem sg_pull {l : List Sup} {r : Rp} {p : Int} (h : sgOk l r p = true) (hlt : r.p < 100000) :
    sgOk l ⟨r.w, r.p + 1⟩ p = true ∧ sgN l ⟨r.w, r.p + 1⟩ p * sgD l r p ≤ sgN l r p * sgD l ⟨r.w, r.p + 1⟩ p := by
  obtain ⟨ho, hw, hp⟩ := sgOk_yes h
  have h2 : sgOk l ⟨r.w, r.p + 1⟩ p = true := sg_of_on ho hw (show 1 ≤ r.p + 1 ∧ r.p + 1 ≤ 100000 by omega)
  obtain ⟨e1, e2, hE, hm, _, _⟩ := sg_terms h
  obtain ⟨e3, e4, _, _, _, _⟩ := sg_terms h2
  refine ⟨h2, ?_⟩
  rw [e1, e2, e3, e4]
  refine not_lt_r (by omega) (show 0 < 2 * (r.p + 1) by omega) ?_
  show r.w * (pX l p * pY l p) * (2 * r.p) ≤ r.w * (pX l p * pY l p) * (2 * (r.p + 1))
  exact Int.mul_le_mul_of_nonneg_left (by omega) hm.1
/-- The greatest sag. -/
theorem gs_keeps {l : List Sup} {r : Rp} {p : Int} (h : sgOk l r p = true) :
    gsOk l r = true ∧ sgOk l r (gsP l r) = true ∧ sgN l r (gsP l r) = gsN l r ∧ sgD l r (gsP l r) = gsD l r ∧ sgN l r p * gsD l r ≤ gsN l r * sgD l r p ∧ (-10000 ≤ gsP l r ∧ gsP l r ≤ 10000) := by
  obtain ⟨ho, hw, hp⟩ := sgOk_yes h
  obtain ⟨hL, hp0, hp1⟩ := (onL_iff l p).1 ho
  have hg : gsOk l r = true := by
    unfold gsOk isR
    rw [(isL_iff l).2 hL, Bool.true_and, Bool.and_eq_true, inR_iff, inR_iff]
    exact ⟨hw, hp⟩
  obtain ⟨g1, g2, g3⟩ := gs_yes hg
  have hmid := mid_ok hL
  obtain ⟨he1, he2⟩ := endN_eq hL
  have hq : onL l (gsQ l) = true := (onL_iff l _).2 ⟨hL, hmid.lo, by have := hmid.hi; omega⟩
  have hs : sgOk l r (gsQ l) = true := sg_of_on hq hw hp
  obtain ⟨e1, e2, hE, hm, _, _⟩ := sg_terms h
  obtain ⟨e3, e4, hE2, hm2, _, _⟩ := sg_terms hs
  obtain ⟨n, rfl⟩ : ∃ n : Nat, p = n := ⟨p.toNat, by omega⟩
  have hmx := mxN_max l (endN l) n (by omega)
  have hle : pX l n * pY l n ≤ pX l (gsQ l) * pY l (gsQ l) := by
    unfold sE at hmx
    rw [hmid.eq] at hmx
    exact hmx
  rw [g1, g2, g3]
  refine ⟨hg, hs, rfl, rfl, ?_, by have := hmid.lo; have := hmid.hi; have := he2; omega⟩
  rw [e1, e2, e3, e4]
  refine not_lt_r (show 0 < 2 * r.p by omega) (show 0 < 2 * r.p by omega) ?_
  have h5 : r.w * (pX l n * pY l n) ≤ r.w * (pX l (gsQ l) * pY l (gsQ l)) := Int.mul_le_mul_of_nonneg_left hle (by omega)
  exact Int.mul_le_mul_of_nonneg_right h5 (by omega)
/-- The pull for a sag. -/
theorem pf_keeps {l : List Sup} {wt p sg : Int} (h : pfOk l wt p sg = true) :
    (0 ≤ sg ∧ sg ≤ 100) ∧ (1 ≤ pfV l wt p sg ∧ pfV l wt p sg ≤ 100000) ∧ sgOk l ⟨wt, pfV l wt p sg⟩ p = true ∧ sgN l ⟨wt, pfV l wt p sg⟩ p ≤ sg * sgD l ⟨wt, pfV l wt p sg⟩ p ∧
    (sgOk l ⟨wt, pfV l wt p sg - 1⟩ p = true → sg * sgD l ⟨wt, pfV l wt p sg - 1⟩ p < sgN l ⟨wt, pfV l wt p sg - 1⟩ p) := by
  have hB : pfB l wt p sg = true := by
    unfold pfOk at h
    rw [Bool.and_eq_true] at h
    exact h.1
  have hB' := hB
  unfold pfB at hB'
  rw [Bool.and_eq_true, Bool.and_eq_true, inR_iff, inR_iff] at hB'
  obtain ⟨⟨ho, hw⟩, hsg⟩ := hB'
  have hE := (xyOk (onAt ho)).bd
  by_cases h0 : pX l p * pY l p = 0
  · obtain ⟨hv, _⟩ := pf_e0 hB h0
    rw [hv]
    have hs : sgOk l ⟨wt, 1⟩ p = true := sg_of_on ho hw (by show 1 ≤ (1 : Int) ∧ (1 : Int) ≤ 100000; omega)
    obtain ⟨e1, e2, _, _, _, hd⟩ := sg_terms hs
    refine ⟨hsg, by omega, hs, ?_, fun hx => ?_⟩
    · have hn : sgN l ⟨wt, 1⟩ p = 0 := by rw [e1, h0, Int.mul_zero]; exact (r_null (by show (0 : Int) < 2 * 1; omega)).1
      rw [hn]
      exact Int.mul_nonneg hsg.1 (by omega)
    · have := (sgOk_yes hx).2.2.1
      have : (1 : Int) ≤ 1 - 1 := this
      omega
  · have hs1 : sg ≠ 0 := fun e => by
      have := (pf_s0 hB h0 e).2
      rw [h] at this
      cases this
    have hbig : pfQ wt (pX l p * pY l p) sg ≤ 100000 := by
      by_cases hx : pfQ wt (pX l p * pY l p) sg ≤ 100000
      · exact hx
      · have := (pf_big hB h0 hs1 hx).2
        rw [h] at this
        cases this
    obtain ⟨hv, _⟩ := pf_yes hB h0 hs1 hbig
    obtain ⟨hq1, _, hwE, _⟩ := pfQ_bd hw (show 0 < pX l p * pY l p ∧ pX l p * pY l p ≤ 9000000 by omega) (show 0 < sg ∧ sg ≤ 100 by omega)
    have hlo := Int.mul_ediv_self_le (x := wt * (pX l p * pY l p) + 2 * sg - 1) (k := 2 * sg) (by omega)
    have hhi := Int.lt_mul_ediv_self_add (x := wt * (pX l p * pY l p) + 2 * sg - 1) (k := 2 * sg) (by omega)
    have hqe : (wt * (pX l p * pY l p) + 2 * sg - 1) / (2 * sg) = pfQ wt (pX l p * pY l p) sg := rfl
    rw [hqe] at hlo hhi
    rw [hv]
    generalize hQ : pfQ wt (pX l p * pY l p) sg = Q at *
    have hs : sgOk l ⟨wt, Q⟩ p = true := sg_of_on ho hw (show 1 ≤ Q ∧ Q ≤ 100000 by omega)
    obtain ⟨e1, e2, _, _, _, hd⟩ := sg_terms hs
    refine ⟨hsg, by omega, hs, ?_, fun hx => ?_⟩
    · have hcr := r_cross (wt * (pX l p * pY l p)) (2 * Q)
      rw [e1, e2]
      rw [e2] at hd
      show rN (wt * (pX l p * pY l p)) (2 * Q) ≤ sg * rD (wt * (pX l p * pY l p)) (2 * Q)
      have hd' : 0 < rD (wt * (pX l p * pY l p)) (2 * Q) := hd.1
      generalize rN (wt * (pX l p * pY l p)) (2 * Q) = A at *
      generalize rD (wt * (pX l p * pY l p)) (2 * Q) = B at *
      generalize wt * (pX l p * pY l p) = E at *
      have h6 : E ≤ sg * (2 * Q) := by have : sg * (2 * Q) = 2 * sg * Q := by grind
                                       omega
      have h7 : E * B ≤ sg * (2 * Q) * B := Int.mul_le_mul_of_nonneg_right h6 (by omega)
      have h8 : A * (2 * Q) ≤ sg * B * (2 * Q) := by rw [hcr]; have : sg * (2 * Q) * B = sg * B * (2 * Q) := by grind
                                                     omega
      exact Int.le_of_mul_le_mul_right h8 (by omega)
    · obtain ⟨e3, e4, _, _, _, hd3⟩ := sg_terms hx
      have hp1 : 1 ≤ Q - 1 := (sgOk_yes hx).2.2.1
      have hcr := r_cross (wt * (pX l p * pY l p)) (2 * (Q - 1))
      rw [e3, e4]
      rw [e4] at hd3
      show sg * rD (wt * (pX l p * pY l p)) (2 * (Q - 1)) < rN (wt * (pX l p * pY l p)) (2 * (Q - 1))
      have hd' : 0 < rD (wt * (pX l p * pY l p)) (2 * (Q - 1)) := hd3.1
      generalize rN (wt * (pX l p * pY l p)) (2 * (Q - 1)) = A at *
      generalize rD (wt * (pX l p * pY l p)) (2 * (Q - 1)) = B at *
      generalize wt * (pX l p * pY l p) = E at *
      have h6 : sg * (2 * (Q - 1)) < E := by have : sg * (2 * (Q - 1)) = 2 * sg * Q - 2 * sg := by grind
                                             omega
      have h7 : sg * (2 * (Q - 1)) * B < E * B := Int.mul_lt_mul_of_pos_right h6 hd'
      have h8 : sg * B * (2 * (Q - 1)) < A * (2 * (Q - 1)) := by rw [hcr]; have : sg * (2 * (Q - 1)) * B = sg * B * (2 * (Q - 1)) := by grind
                                                                 omega
      exact Int.lt_of_mul_lt_mul_right h8 (by omega)
end Go.Proofs.Ytmmjbdffpgohdaa
