/- Votes of sensors, as functions. No condition. -/
import Derived.Test.YtoamhbobcpljpaaSrtW
import Derived.Test.YtoamhbobcpljpaaWndT
namespace Go.Proofs.Ytoamhbobcpljpaa
open Go.RowKit
set_option linter.unusedVariables false
/-- A valid list of sensors. -/
def snL (l : List Int) : Bool := inR (l.length : Int) 1 5 && l.all fun x => inR x (-1) 60
theorem snL_iff (l : List Int) : snL l = true ↔ (1 ≤ l.length ∧ l.length ≤ 5) ∧ ∀ j, j < l.length → inR (l.getD j 0) (-1) 60 = true := by
  unfold snL
  rw [Bool.and_eq_true, inR_iff, List.all_eq_true]
  constructor
  · rintro ⟨h, g⟩
    exact ⟨by omega, fun j hj => by rw [at_get hj]; exact g _ (List.getElem_mem hj)⟩
  · rintro ⟨h, g⟩
    refine ⟨by omega, fun x hx => ?_⟩
    obtain ⟨j, hj, rfl⟩ := List.getElem_of_mem hx
    have := g j hj
    rwa [at_get hj] at this
theorem snL_len {l : List Int} (h : inR (l.length : Int) 1 5 = false) : snL l = false := by unfold snL; rw [h]; rfl
theorem snL_bad {l : List Int} {k : Nat} (hk : k < l.length) (h : inR (l.getD k 0) (-1) 60 = false) : snL l = false := by
  cases e : snL l with
  | false => rfl
  | true => have := ((snL_iff l).1 e).2 k hk; rw [h] at this; cases this
theorem snL_good {l : List Int} (h : inR (l.length : Int) 1 5 = true) (g : ∀ j, j < l.length → inR (l.getD j 0) (-1) 60 = true) : snL l = true := by
  rw [snL_iff]; rw [inR_iff] at h; exact ⟨by omega, g⟩
theorem snL_any {l : List Int} (h : inR (l.length : Int) 1 5 = true) : snL l = !(l.any fun x => !inR x (-1) 60) := by
  unfold snL
  rw [h, Bool.true_and, List.not_any_eq_all_not]
  simp
/-- The speeds of the sensors that work. -/
def wkL (l : List Int) : List Int := l.filter fun x => decide (0 ≤ x)
theorem wk_le (l : List Int) : (wkL l).length ≤ l.length := List.length_filter_le _ _
theorem take_getD {l : List Int} {k : Nat} (h : k < l.length) : l.take (k + 1) = l.take k ++ [l.getD k 0] := by
  rw [List.take_succ_eq_append_getElem h, at_get h]
theorem wk_yes {l : List Int} {k : Nat} (hk : k < l.length) (h : 0 ≤ l.getD k 0) : wkL (l.take (k + 1)) = wkL (l.take k) ++ [l.getD k 0] := by
  unfold wkL; rw [take_getD hk, List.filter_append]; simp only [List.filter_cons, List.filter_nil, decide_eq_true h, if_true]
theorem wk_no {l : List Int} {k : Nat} (hk : k < l.length) (h : l.getD k 0 < 0) : wkL (l.take (k + 1)) = wkL (l.take k) := by
  unfold wkL; rw [take_getD hk, List.filter_append]; simp only [List.filter_cons, List.filter_nil, decide_eq_false (show ¬ 0 ≤ l.getD k 0 by omega)]; simp
theorem wk_del {l : List Int} (h : snL l = true) : (l.filter fun x => !decide (x = -1)) = wkL l := by
  refine List.filter_congr fun x hx => ?_
  obtain ⟨j, hj, rfl⟩ := List.getElem_of_mem hx
  have h1 := ((snL_iff l).1 h).2 j hj
  rw [at_get hj, inR_iff] at h1
  rw [Bool.eq_iff_iff]
  simp; omega
/-- The vote of valid sensors. -/
def vtO (l : List Int) : Int := if 2 * (wkL l).length < l.length then 60 else (srt (wkL l)).getD ((wkL l).length / 2) 0
theorem vt_few {l : List Int} (h : 2 * (wkL l).length < l.length) : vtO l = 60 := by simp [vtO, h]
theorem vt_many {l : List Int} (h : ¬ 2 * (wkL l).length < l.length) : vtO l = (srt (wkL l)).getD ((wkL l).length / 2) 0 := by simp [vtO, h]
theorem vt_mem {l : List Int} (h : snL l = true) : vtO l = 60 ∨ (vtO l ∈ l ∧ 0 ≤ vtO l ∧ vtO l ≤ 60) := by
  by_cases hf : 2 * (wkL l).length < l.length
  · exact .inl (vt_few hf)
  · have h1 := (snL_iff l).1 h
    have hw : 0 < (wkL l).length := by omega
    have hlt : (wkL l).length / 2 < (srt (wkL l)).length := by rw [srt_len]; omega
    rw [vt_many hf]
    have hm : (srt (wkL l)).getD ((wkL l).length / 2) 0 ∈ wkL l := (srt_perm (wkL l)).subset (at_mem hlt)
    have hm2 := List.mem_filter.1 hm
    obtain ⟨j, hj, he⟩ := List.getElem_of_mem hm2.1
    have h2 := h1.2 j hj
    rw [at_get hj, he, inR_iff] at h2
    have h3 : 0 ≤ (srt (wkL l)).getD ((wkL l).length / 2) 0 := by simpa using hm2.2
    exact .inr ⟨hm2.1, h3, h2.2⟩
theorem vt_bd {l : List Int} (h : snL l = true) : 0 ≤ vtO l ∧ vtO l ≤ 60 := by
  rcases vt_mem h with h | h
  · rw [h]; omega
  · exact h.2
/-- What VoteOf answers. -/
def voV (l : List Int) : Int := if snL l then vtO l else 0
theorem vo_no {l : List Int} (h : snL l = false) : voV l = 0 := by simp [voV, h]
theorem vo_yes {l : List Int} (h : snL l = true) : voV l = vtO l := by simp [voV, h]
/-- What BrokenSensors answers. -/
def brk12 (t p x : Int) : Bool := decide (x < 0) || decide (p < iabs9 (x - t))
def bsOk (l : List Int) (p : Int) : Bool := snL l && decide (0 ≤ p)
def bsR (l : List Int) (p : Int) : List Int := if bsOk l p then idxI (brk12 (vtO l) p) l l.length else []
theorem bs_no {l : List Int} {p : Int} (h : bsOk l p = false) : bsR l p = [] := by simp [bsR, h]
theorem bs_yes {l : List Int} {p : Int} (h : bsOk l p = true) : bsR l p = idxI (brk12 (vtO l) p) l l.length := by simp [bsR, h]
theorem bsR_len (l : List Int) (p : Int) : (bsR l p).length ≤ 5 := by
  cases h : bsOk l p with
  | false => rw [bs_no h]; simp
  | true =>
    rw [bs_yes h]
    unfold bsOk at h
    rw [Bool.and_eq_true] at h
    have := ((snL_iff l).1 h.1).1
    have := idxI_len (brk12 (vtO l) p) l l.length
    omega
/-- The first place at which q holds, or -1. -/
def idxF (q : Int → Bool) (l : List Int) : Int := if l.any q then (l.findIdx q : Int) else -1
theorem idxF_hit {q : Int → Bool} {l : List Int} {k : Nat} (hk : k < l.length) (h0 : ∀ j, j < k → q (l.getD j 0) = false) (h : q (l.getD k 0) = true) : idxF q l = k := by
  have e : l.findIdx q = k := by
    refine (List.findIdx_eq hk).2 ⟨by rw [← at_get hk]; exact h, fun j hj => ?_⟩
    have := h0 j hj
    rwa [at_get (by omega)] at this
  have ha : l.any q = true := List.any_eq_true.2 ⟨l.getD k 0, at_mem hk, h⟩
  unfold idxF
  rw [if_pos ha, e]
theorem idxF_none {q : Int → Bool} {l : List Int} (h0 : ∀ j, j < l.length → q (l.getD j 0) = false) : idxF q l = -1 := by
  have ha : ¬ l.any q = true := by
    intro h
    obtain ⟨x, hx, hq⟩ := List.any_eq_true.1 h
    obtain ⟨i, hi, rfl⟩ := List.getElem_of_mem hx
    have := h0 i hi
    rw [at_get hi, hq] at this
    cases this
  unfold idxF
  rw [if_neg ha]
theorem idxF_any (q : Int → Bool) (l : List Int) : decide (0 ≤ idxF q l) = l.any q := by
  unfold idxF
  cases h : l.any q with
  | true => simp
  | false => simp
end Go.Proofs.Ytoamhbobcpljpaa
