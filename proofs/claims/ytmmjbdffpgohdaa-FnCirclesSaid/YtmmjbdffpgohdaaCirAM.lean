/- AddCabin as plain lists: where the new cabin starts, what the new row is, when it is valid. Condition: sizes. -/
import Derived.Test.YtmmjbdffpgohdaaSrtI
import Derived.Test.YtmmjbdffpgohdaaCirM
namespace Go.Proofs.Ytmmjbdffpgohdaa
open Go.RowKit
set_option linter.unusedVariables false
/-- the start of the new cabin -/
def acSt (L : Int) (l : List Int) : Int := if 0 < l.length then (l.getD (amax (gapAt L l) (l.length - 1)) 0 + gapAt L l (amax (gapAt L l) (l.length - 1)) / 2) % L else 0
def acNew (L : Int) (l : List Int) : List Int := srt (l ++ [acSt L l])
def acIn (L S : Int) (l : List Int) (g : Int) : Bool := cirV L S l && inR g 1 4000
def acOk (L S : Int) (l : List Int) (g : Int) : Bool := acIn L S l g && (cirV L S (acNew L l) && decide (g ≤ leastTo (gapAt L (acNew L l)) (l.length)))
def acL (L S : Int) (l : List Int) (g : Int) : Int := if acOk L S l g then L else 0
def acS (L S : Int) (l : List Int) (g : Int) : Int := if acOk L S l g then S else 0
def acR (L S : Int) (l : List Int) (g : Int) : List Int := if acOk L S l g then acNew L l else []
theorem ac_no {L S : Int} {l : List Int} {g : Int} (h : acOk L S l g = false) : acL L S l g = 0 ∧ acS L S l g = 0 ∧ acR L S l g = [] := by simp [acL, acS, acR, h]
theorem ac_yes {L S : Int} {l : List Int} {g : Int} (h : acOk L S l g = true) : acL L S l g = L ∧ acS L S l g = S ∧ acR L S l g = acNew L l := by simp [acL, acS, acR, h]
theorem acNew_len (L : Int) (l : List Int) : (acNew L l).length = l.length + 1 := by unfold acNew; rw [srt_len]; simp
theorem acR_len (L S : Int) (l : List Int) (g : Int) : (acR L S l g).length ≤ l.length + 1 := by
  unfold acR
  split
  · rw [acNew_len]; exact Nat.le_refl _
  · simp
theorem acR_len12 (L S : Int) (l : List Int) (g : Int) : (acR L S l g).length ≤ 12 := by
  unfold acR
  split
  · rename_i h
    unfold acOk at h
    simp only [Bool.and_eq_true] at h
    exact (cirV_parts h.2.1).2.2.2
  · simp
theorem acSt_zero {L : Int} {l : List Int} (h : l.length = 0) : acSt L l = 0 := by unfold acSt; rw [if_neg (by omega)]
/-- the greatest gap and its half -/
theorem acSt_pos {L S : Int} {l : List Int} (hV : cirV L S l = true) (h : 0 < l.length) :
    amax (gapAt L l) (l.length - 1) < l.length ∧ (1 ≤ gapAt L l (amax (gapAt L l) (l.length - 1)) ∧ gapAt L l (amax (gapAt L l) (l.length - 1)) ≤ L) ∧ (0 ≤ l.getD (amax (gapAt L l) (l.length - 1)) 0 ∧ l.getD (amax (gapAt L l) (l.length - 1)) 0 ≤ L - 1) ∧
    acSt L l = (l.getD (amax (gapAt L l) (l.length - 1)) 0 + gapAt L l (amax (gapAt L l) (l.length - 1)) / 2) % L ∧ 0 ≤ acSt L l ∧ acSt L l < L := by
  obtain ⟨hL, hS, hri, h12⟩ := cirV_parts hV
  have hb := amax_le (gapAt L l) (l.length - 1)
  have hlt : amax (gapAt L l) (l.length - 1) < l.length := by omega
  have hg := gap_bd hri hlt
  have hr := rise_at hri hlt
  have e : acSt L l = (l.getD (amax (gapAt L l) (l.length - 1)) 0 + gapAt L l (amax (gapAt L l) (l.length - 1)) / 2) % L := by unfold acSt; rw [if_pos h]
  exact ⟨hlt, ⟨hg.1, hg.2.1⟩, hr, e, by rw [e]; exact Int.emod_nonneg _ (by omega), by rw [e]; exact Int.emod_lt_of_pos _ (by omega)⟩
theorem getD_mem {l : List Int} {k : Nat} (h : k < l.length) : l.getD k 0 ∈ l := by
  have : l.getD k 0 = l[k] := by simp [List.getD, h]
  rw [this]
  exact List.getElem_mem h
/-- a gap of one meter has no middle: the new row would hold a place twice -/
theorem ac_dup {L S : Int} {l : List Int} (hV : cirV L S l = true) (h : 0 < l.length) (hg : gapAt L l (amax (gapAt L l) (l.length - 1)) < 2) : cirV L S (acNew L l) = false := by
  obtain ⟨h1, h2, h3, h4, _⟩ := acSt_pos hV h
  have e : gapAt L l (amax (gapAt L l) (l.length - 1)) = 1 := by omega
  have e2 : acSt L l = l.getD (amax (gapAt L l) (l.length - 1)) 0 := by
    rw [h4, e, show (1 : Int) / 2 = 0 by decide, Int.add_zero]
    exact Int.emod_eq_of_lt h3.1 (by omega)
  cases hc : cirV L S (acNew L l) with
  | false => rfl
  | true =>
    obtain ⟨_, _, hri, _⟩ := cirV_parts hc
    have hp := rise_pair hri
    have hnd : (acNew L l).Nodup := hp.imp (fun h e => by omega)
    have hpm : (acNew L l).Perm (l ++ [acSt L l]) := srt_perm _
    have hnd2 := hpm.nodup_iff.1 hnd
    rw [List.nodup_append] at hnd2
    have := hnd2.2.2 _ (getD_mem h1) (acSt L l) (by simp)
    exact absurd e2.symm this
/-- a greater gap's middle is a new place -/
theorem ac_new {L S : Int} {l : List Int} (hV : cirV L S l = true) (hg : 0 < l.length → 2 ≤ gapAt L l (amax (gapAt L l) (l.length - 1))) : acSt L l ∉ l := by
  obtain ⟨hL, hS, hri, h12⟩ := cirV_parts hV
  by_cases h : 0 < l.length
  · have hg := hg h
    obtain ⟨h1, h2, h3, h4, h5, h6⟩ := acSt_pos hV h
    intro hm
    obtain ⟨i, hi, e⟩ := mem_gth hm
    have e : acSt L l = l.getD i 0 := e
    have hri' := rise_at hri hi
    have G : gapAt L l (amax (gapAt L l) (l.length - 1)) = gapAt L l (amax (gapAt L l) (l.length - 1)) := rfl
    have hG0 := @gap_in L l (amax (gapAt L l) (l.length - 1))
    have hG1 := @gap_last L l (amax (gapAt L l) (l.length - 1))
    generalize amax (gapAt L l) (l.length - 1) = b at *
    have hl0 := rise_at hri (show 0 < l.length by omega)
    rw [h4] at e
    clear h4
    have hlo : ∀ j, j < b → l.getD j 0 < l.getD b 0 := fun j hj => rise_lt hri hj h1
    have hhi : ∀ j, b < j → j < l.length → l.getD b 0 < l.getD j 0 := fun j hj hjl => rise_lt hri hj hjl
    by_cases hx : b + 1 < l.length
    · have hx' := hG0 hx
      have hnx := rise_at hri hx
      rw [Int.emod_eq_of_lt (by omega) (by omega)] at e
      have hi1 : b < i := by
        apply Classical.byContradiction
        intro hc
        by_cases he : i = b
        · subst he; omega
        · have := hlo i (by omega); omega
      by_cases he : i = b + 1
      · subst he; omega
      · have := rise_lt hri (show b + 1 < i by omega) hi
        omega
    · have hx' := hG1 hx
      have hbl : b = l.length - 1 := by omega
      have hib : l.getD i 0 ≤ l.getD b 0 := by
        by_cases he : i = b
        · subst he; omega
        · have := hlo i (by omega); omega
      have h0i : l.getD 0 0 ≤ l.getD i 0 := by
        by_cases he : i = 0
        · subst he; omega
        · have := rise_lt hri (show 0 < i by omega) hi; omega
      by_cases hw : l.getD b 0 + gapAt L l b / 2 < L
      · rw [Int.emod_eq_of_lt (by omega) hw] at e
        omega
      · have e3 : (l.getD b 0 + gapAt L l b / 2) % L = l.getD b 0 + gapAt L l b / 2 - L := by
          have : l.getD b 0 + gapAt L l b / 2 = (l.getD b 0 + gapAt L l b / 2 - L) + L * 1 := by omega
          rw [this, Int.add_mul_emod_self_left, Int.emod_eq_of_lt (by omega) (by omega)]
          omega
        rw [e3] at e
        omega
  · have : l = [] := List.eq_nil_of_length_eq_zero (by omega)
    subst this
    simp
/-- laying the new place into the row gives the new row -/
theorem ac_put {L S : Int} {l : List Int} (hV : cirV L S l = true) {k : Nat} (hk : k ≤ l.length) (h1 : ∀ j, j < k → gth l j < acSt L l) (h2 : k < l.length → acSt L l ≤ gth l k) : l.take k ++ [acSt L l] ++ l.drop k = acNew L l := by
  have hs : srt l = l := srt_self ((rise_pair (cirV_parts hV).2.2.1).imp (fun h => by omega))
  have := put_srt (l := l) (n := acSt L l) hk (by rw [hs]; exact h1) (by rw [hs]; exact h2)
  rw [hs] at this
  exact this
end Go.Proofs.Ytmmjbdffpgohdaa
