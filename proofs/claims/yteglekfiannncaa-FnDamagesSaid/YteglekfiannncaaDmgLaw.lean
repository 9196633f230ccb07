/- What the law FnDamages says, in plain words. No condition. -/
import Derived.Test.YteglekfiannncaaAddMath
import Derived.Test.YteglekfiannncaaVerdictC
namespace Go.Proofs.Yteglekfiannncaa
open Go.RowKit
set_option linter.unusedVariables false
theorem wrap_cong {A t : Int} (h0 : -1000000 ≤ A) (h1 : A ≤ 1000000) (h2 : -1000000 ≤ IntKind.i64.wrap t) (h3 : IntKind.i64.wrap t ≤ 1000000) : IntKind.i64.wrap (A + t) = A + IntKind.i64.wrap t := by
  rw [IntKind.wrap_i64] at h2 h3
  rw [IntKind.wrap_i64, IntKind.wrap_i64]
  omega
/-- The added damage's wires are broken more at its place. -/
theorem add_more {k : RK} {l : List Dmg} {d : Dmg} (h : adOk k l d = true) : brk (adR k l d) d.a 1 (-1) = IntKind.i64.wrap (brk l d.a 1 (-1) + d.w) ∧ (0 ≤ d.a ∧ d.a ≤ 3000) ∧ good k l = true ∧ good k (adR k l d) = true := by
  have h' := h
  unfold adOk adIn at h'
  rw [Bool.and_eq_true, Bool.and_eq_true] at h'
  obtain ⟨⟨hg, hw1⟩, hgA⟩ := h'
  have hA := good_yes hgA
  have hL := good_yes hg
  rw [ad_yes h]
  have hp := posn_le l d
  have hn := addL_nth l d
  have hplt : posn l d < (addL l d).length := by
    unfold addL
    split
    · rename_i hf; have := (fnd_lt hf).1; simp; omega
    · simp; omega
  have hok := hA.ok (posn l d) hplt
  have hKb := allK_bd hA.kind
  obtain ⟨o1, o2, o3, _⟩ := hok
  rw [inR_iff] at o1 o3
  have hbl := brk_bd hL.srt d.a 1 (-1)
  cases hf : fnd l d with
  | true =>
    obtain ⟨f1, f2, f3⟩ := fnd_lt hf
    rw [hf, if_pos rfl] at hn
    rw [hn] at o1 o3
    have o3' : 1 ≤ smW l d ∧ smW l d ≤ k.w := o3
    refine ⟨?_, o1, hg, hgA⟩
    have hwin : win d.a 1 (-1) (gth l (posn l d)) = true := by simp [win, inW, ofS, inR, f2]
    have hwin2 : win d.a 1 (-1) ⟨d.a, d.s, smW l d⟩ = true := by simp [win, inW, ofS, inR]
    have e1 : brk l d.a 1 (-1) = sumW (win d.a 1 (-1)) (l.take (posn l d)) + (gth l (posn l d)).w + sumW (win d.a 1 (-1)) (l.drop (posn l d + 1)) := by
      have hs : l = l.take (posn l d) ++ ([gth l (posn l d)] ++ l.drop (posn l d + 1)) := by
        have h1 := List.take_append_drop (posn l d) l
        rw [drop_gth l _ f1] at h1
        exact h1.symm
      unfold brk
      conv => lhs; rw [hs]
      rw [sumW_append, sumW_append]
      simp [sumW, hwin]
      omega
    have e2 : brk (addL l d) d.a 1 (-1) = sumW (win d.a 1 (-1)) (l.take (posn l d)) + smW l d + sumW (win d.a 1 (-1)) (l.drop (posn l d + 1)) := by
      unfold brk
      rw [addL_yes hf, sumW_append, sumW_append]
      simp [sumW, hwin2]
      omega
    have hb2 := brk_bd hA.srt d.a 1 (-1)
    have hgl := hL.ok (posn l d) f1
    obtain ⟨_, _, w3, _⟩ := hgl
    rw [inR_iff] at w3
    rw [e1, e2] at *
    generalize sumW (win d.a 1 (-1)) (l.take (posn l d)) = X at *
    generalize sumW (win d.a 1 (-1)) (l.drop (posn l d + 1)) = Y at *
    have hsm : smW l d = IntKind.i64.wrap (d.w + (gth l (posn l d)).w) := rfl
    have ht := wrap_cong (A := X + Y) (t := d.w + (gth l (posn l d)).w) (by omega) (by omega) (by rw [← hsm]; omega) (by rw [← hsm]; omega)
    rw [← hsm] at ht
    have e3 : X + (gth l (posn l d)).w + Y + d.w = X + Y + (d.w + (gth l (posn l d)).w) := by omega
    rw [e3, ht]
    omega
  | false =>
    rw [hf, if_neg (by simp)] at hn
    rw [hn] at o1 o3
    refine ⟨?_, o1, hg, hgA⟩
    have hwin2 : win d.a 1 (-1) d = true := by simp [win, inW, ofS, inR]
    have e1 : brk l d.a 1 (-1) = sumW (win d.a 1 (-1)) (l.take (posn l d)) + sumW (win d.a 1 (-1)) (l.drop (posn l d)) := by
      unfold brk
      rw [← sumW_append, List.take_append_drop]
    have e2 : brk (addL l d) d.a 1 (-1) = sumW (win d.a 1 (-1)) (l.take (posn l d)) + d.w + sumW (win d.a 1 (-1)) (l.drop (posn l d)) := by
      unfold brk
      rw [addL_no hf, sumW_append, sumW_append]
      simp [sumW, hwin2]
      omega
    rw [IntWalk.i64_in _ (by omega)]
    omega
/-- A good rope has all of its strength but a twentieth. -/
theorem good_strong {k : RK} {l : List Dmg} (h : good k l = true) (g : tmB k l 10 = false) : 19 * k.p ≤ 20 * (slV k l + 1) := by
  have hG := good_yes h
  have h1 := allK_bd hG.kind
  have h2 := sl_bd hG
  obtain ⟨e1, e2, e3, e4, e5⟩ := sl_val hG
  rw [sl_yes h, e1]
  have hm : 20 * (mst l 10 (-1) l.length).2 ≤ allK k := by simpa [tmB] using g
  have hs : 19 * allK k ≤ 20 * slW k l := by
    unfold slW imx
    split <;> omega
  have hdm := Int.mul_ediv_add_emod (k.p * slW k l) (allK k)
  have hml := Int.emod_lt_of_pos (k.p * slW k l) (by omega : 0 < allK k)
  have hx : k.p * (19 * allK k) ≤ k.p * (20 * slW k l) := Int.mul_le_mul_of_nonneg_left hs (by omega)
  generalize k.p * slW k l / allK k = Q at *
  have hy : allK k * (19 * k.p) < allK k * (20 * (Q + 1)) := by
    have a1 : k.p * (19 * allK k) = allK k * (19 * k.p) := by grind
    have a2 : k.p * (20 * slW k l) = 20 * (k.p * slW k l) := by grind
    have a3 : allK k * (20 * (Q + 1)) = 20 * (allK k * Q) + 20 * allK k := by grind
    omega
  have := Int.lt_of_mul_lt_mul_left hy (by omega)
  omega
end Go.Proofs.Yteglekfiannncaa
