/- What the laws on grips need. No condition. -/
import Derived.Test.YtiogjocbiagipaaSteepHC
import Derived.Test.YtiogjocbiagipaaTestC
import Derived.Test.YtiogjocbiagipaaAllHC
import Derived.Test.YtiogjocbiagipaaWeakC
namespace Go.Proofs.Ytiogjocbiagipaa
open Go.RowKit
set_option linter.unusedVariables false
theorem shP_spec (k : Grp) (a : Int) : ∀ n : Nat, shP k a n = -1 ∨ ∃ m : Nat, m < n ∧ shP k a n = (m : Int) ∧ dhV k a m = true ∧ ∀ j : Nat, m < j → j < n → dhV k a j = false := by
  intro n
  induction n with
  | zero => exact .inl rfl
  | succ n ih =>
    cases h : dhV k a n with
    | true => exact .inr ⟨n, by omega, shP_yes h, h, fun j h1 h2 => by omega⟩
    | false =>
      rw [shP_no h]
      rcases ih with ih | ⟨m, h1, h2, h3, h4⟩
      · exact .inl ih
      · refine .inr ⟨m, by omega, h2, h3, fun j h5 h6 => ?_⟩
        by_cases e : j = n
        · subst e; exact h
        · exact h4 j h5 (by omega)
theorem sh_law {k : Grp} {a : Int} (h : shOk k a = true) : (0 ≤ shV k a ∧ shV k a ≤ 100) ∧ dhOk k a (shV k a) = true ∧ dhV k a (shV k a) = true ∧ dhV k a (shV k a + 1) = false := by
  unfold shOk at h
  have h0 : 0 ≤ shP k a 101 := by simpa using h
  have hv : shV k a = shP k a 101 := by unfold shV; rw [if_pos h0]
  rcases shP_spec k a 101 with e | ⟨m, h1, h2, h3, h4⟩
  · omega
  · rw [hv, h2]
    have h5 : dhOk k a (m : Int) = true := by
      cases hk : dhOk k a (m : Int) with
      | true => rfl
      | false => rw [dh_no hk] at h3; cases h3
    refine ⟨by omega, h5, h3, ?_⟩
    by_cases e : m + 1 < 101
    · exact h4 (m + 1) (by omega) e
    · have e2 : (m : Int) + 1 = 101 := by omega
      rw [e2]
      exact dh_no (dh_p (plOk_no2 rfl))
theorem plV_bd (a s : Int) : 0 ≤ plV a s ∧ plV a s ≤ 4000 := by
  cases h : plOk a s with
  | false => rw [pl_no h]; omega
  | true => rw [pl_yes h]; exact plX_bd h
theorem dh_pull {k : Grp} {a s : Int} (h : dhV k a s = true) : 3 * plV a s ≤ k.s := by
  unfold dhV dhOk dhB at h
  simp only [Bool.and_eq_true, decide_eq_true_eq] at h
  rw [pl_yes h.1.1]
  exact h.2.1
theorem nums_mem {l : List Grp} {x : Int} (h : x ∈ nums l) : ∃ i, i < l.length ∧ (gth l i).i = x := by
  unfold nums at h
  obtain ⟨y, hy, rfl⟩ := List.mem_map.1 h
  obtain ⟨i, hi, rfl⟩ := List.getElem_of_mem hy
  exact ⟨i, hi, by rw [gth_get hi]⟩
theorem GrpV.inj {l : List Grp} (h : GrpV l) {i j : Nat} (hi : i < l.length) (hj : j < l.length) (e : (gth l i).i = (gth l j).i) : i = j := by
  rcases Nat.lt_trichotomy i j with g | g | g
  · have := h.lt j i g hj; omega
  · exact g
  · have := h.lt i j g hi; omega
theorem tg_law {l : List Grp} {n f d : Int} (h : tgOk l n f d = true) : grpL (tgR l n f d) = true ∧ n ∉ duR (tgR l n f d) d := by
  have hin : tgIn l n d = true := by unfold tgOk at h; rw [Bool.and_eq_true] at h; exact h.1
  have hg : isG ⟨n, f, 0, 0, d⟩ = true := by unfold tgOk at h; rw [Bool.and_eq_true] at h; exact h.2
  have hgi : giOk l n = true := by unfold tgIn at hin; rw [Bool.and_eq_true] at hin; exact hin.1
  obtain ⟨hV, _, hix, _, _⟩ := gi_yes hgi
  have hR : tgR l n f d = l.set (idxN l n) ⟨n, f, 0, 0, d⟩ := by unfold tgR; rw [if_pos h]
  have hL : grpL (tgR l n f d) = true := by rw [hR, grpL_set hV hix (idxN_at hix).symm]; exact hg
  refine ⟨hL, fun hm => ?_⟩
  unfold duR at hm
  split at hm
  · obtain ⟨y, hy, hyi⟩ := List.mem_map.1 (by unfold nums at hm; exact hm)
    obtain ⟨hyl, hyd⟩ := List.mem_filter.1 hy
    obtain ⟨i, hi, e⟩ := List.getElem_of_mem hyl
    have hix2 : idxN l n < (tgR l n f d).length := by rw [hR]; simpa using hix
    have e1 : gth (tgR l n f d) (idxN l n) = ⟨n, f, 0, 0, d⟩ := by rw [hR]; exact gth_set_same hix
    have e2 : i = idxN l n := (grpL_yes hL).inj hi hix2 (by rw [gth_get hi, e, e1]; exact hyi)
    subst e2
    rw [gth_get hi, e] at e1
    rw [e1] at hyd
    unfold due at hyd
    simp at hyd
  · cases hm
end Go.Proofs.Ytiogjocbiagipaa
