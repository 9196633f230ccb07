/- Winds and votes: what the broad laws ask of the functions. No condition. -/
import Derived.Test.YtoamhbobcpljpaaWndMath
import Derived.Test.YtoamhbobcpljpaaVotMath
namespace Go.Proofs.Ytoamhbobcpljpaa
open Go.RowKit
set_option linter.unusedVariables false
/-- The level never goes down by more than one. -/
theorem wnx_down {r : Wru} {s : Wst} (h : wsV r s = true) (v : Int) : s.l - 1 ≤ (wnx r s v).l := by
  obtain ⟨h1, h2⟩ := (wsV_iff r s).1 h
  unfold wnx
  split
  · show s.l - 1 ≤ 2; omega
  · split
    · split
      · show s.l - 1 ≤ 1; omega
      · show s.l - 1 ≤ 0; omega
    · split
      · show s.l - 1 ≤ s.l; omega
      · split
        · show s.l - 1 ≤ s.l - 1; omega
        · show s.l - 1 ≤ s.l; omega
theorem wnx_stop {r : Wru} {s : Wst} {v : Int} (h : r.b ≤ v) : (wnx r s v).l = 2 := by unfold wnx; rw [if_pos h]
/-- Readings of 0 alone. -/
theorem ef_run {r : Wru} {s : Wst} (h : wsV r s = true) (n : Nat) (hn : (n : Int) = s.l * r.d - s.c) : ∀ k, k ≤ n → (stK r s (List.replicate n 0) k).l * r.d - (stK r s (List.replicate n 0) k).c = (n : Int) - (k : Int) := by
  intro k
  induction k with
  | zero => intro _; rw [stK_zero, ← hn]; simp
  | succ k ih =>
    intro hk
    have h1 := ih (by omega)
    have h2 := stK_ok (List.replicate n 0) h k
    have hl : k < (List.replicate n (0 : Int)).length := by simp; omega
    have h0 : (List.replicate n (0 : Int)).getD k 0 = 0 := by simp [List.getD, List.getElem?_replicate]; split <;> rfl
    rw [stK_succ hl, h0]
    have h3 : 0 < (stK r s (List.replicate n 0) k).l := by
      obtain ⟨_, h4⟩ := (wsV_iff _ _).1 h2
      by_cases h5 : (stK r s (List.replicate n 0) k).l = 0
      · have := ef_zero h2 h5; omega
      · omega
    rw [ef_step h2 h3, h1]
    omega
theorem ef_free {r : Wru} {s : Wst} (h : wsV r s = true) (n : Nat) (hn : (n : Int) = s.l * r.d - s.c) : (stK r s (List.replicate n 0) n).l = 0 := by
  have h1 := ef_run h n hn n (Nat.le_refl _)
  have h2 := stK_ok (List.replicate n 0) h n
  obtain ⟨h3, h4⟩ := (wsV_iff _ _).1 h2
  have h5 := (wrV_iff r).1 h3
  by_cases h6 : (stK r s (List.replicate n 0) n).l = 0
  · exact h6
  · exfalso
    have h7 : (stK r s (List.replicate n 0) n).l = 1 ∨ (stK r s (List.replicate n 0) n).l = 2 := by omega
    rcases h7 with h7 | h7 <;> rw [h7] at h1 h4 <;> omega
theorem ef_run_ok {r : Wru} {s : Wst} (h : wsV r s = true) (n : Nat) (hn : (n : Int) = s.l * r.d - s.c) : rnOk r s (List.replicate n 0) = true := by
  have hb := ef_bd h
  have hv : vtL (List.replicate n (0 : Int)) = true := vtL_good (by simp; omega) (fun j hj => by
    have h0 : (List.replicate n (0 : Int)).getD j 0 = 0 := by simp [List.getD, List.getElem?_replicate]; split <;> rfl
    rw [h0]; rfl)
  unfold rnOk; rw [h, hv]; rfl
theorem ef_run_end {r : Wru} {s : Wst} (h : wsV r s = true) (n : Nat) (hn : (n : Int) = s.l * r.d - s.c) : (rnS r s (List.replicate n 0)).l = 0 := by
  rw [(rn_yes (ef_run_ok h n hn)).2, List.length_replicate]
  exact ef_free h n hn
/-- A greater spread finds fewer broken ones. -/
theorem brk_more {t p x : Int} (h : brk12 t (p + 1) x = true) : brk12 t p x = true := by
  unfold brk12 at *
  rw [Bool.or_eq_true, decide_eq_true_eq, decide_eq_true_eq] at *
  omega
theorem bs_more {l : List Int} {p : Int} (h : bsOk l p = true) : bsOk l (p + 1) = true ∧ ∀ x ∈ bsR l (p + 1), x ∈ bsR l p := by
  have h1 : bsOk l (p + 1) = true := by
    unfold bsOk at *
    rw [Bool.and_eq_true, decide_eq_true_eq] at *
    exact ⟨h.1, by omega⟩
  refine ⟨h1, fun x hx => ?_⟩
  rw [bs_yes h]
  rw [bs_yes h1] at hx
  unfold idxI at *
  obtain ⟨i, hi, rfl⟩ := List.mem_map.1 hx
  rw [List.mem_filter] at hi
  exact List.mem_map.2 ⟨i, List.mem_filter.2 ⟨hi.1, brk_more hi.2⟩, rfl⟩
/-- The greatest free vote keeps the level, one more does not. -/
theorem gf_free {r : Wru} (h : wrV r = true) : nxOk r ⟨0, 0⟩ (r.a - 1) = true ∧ (nxR r ⟨0, 0⟩ (r.a - 1)).l = 0 := by
  have h1 := (wrV_iff r).1 h
  have h2 : nxOk r ⟨0, 0⟩ (r.a - 1) = true := by unfold nxOk; rw [zero_ok h, (inR_iff _ _ _).2 (by omega)]; rfl
  refine ⟨h2, ?_⟩
  rw [nx_yes h2]
  unfold wnx
  rw [if_neg (by omega), if_pos rfl, if_neg (by omega)]
theorem gf_more {r : Wru} (h : wrV r = true) : nxOk r ⟨0, 0⟩ (r.a - 1 + 1) = true ∧ (nxR r ⟨0, 0⟩ (r.a - 1 + 1)).l ≠ 0 := by
  have h1 := (wrV_iff r).1 h
  have h2 : nxOk r ⟨0, 0⟩ (r.a - 1 + 1) = true := by unfold nxOk; rw [zero_ok h, (inR_iff _ _ _).2 (by omega)]; rfl
  refine ⟨h2, ?_⟩
  rw [nx_yes h2]
  unfold wnx
  rw [if_neg (by omega), if_pos rfl, if_pos (by omega)]
  decide
theorem cm_both (a b : Wru) (l : List Int) : ∀ k, cmK a b l k + cmK b a l k ≤ k := by
  intro k
  induction k with
  | zero => simp [cmK]
  | succ k ih =>
    by_cases h1 : (stK b ⟨0, 0⟩ l (k + 1)).l < (stK a ⟨0, 0⟩ l (k + 1)).l
    · rw [cmK_yes h1, cmK_no (a := b) (b := a) (by omega)]; omega
    · by_cases h2 : (stK a ⟨0, 0⟩ l (k + 1)).l < (stK b ⟨0, 0⟩ l (k + 1)).l
      · rw [cmK_no h1, cmK_yes (a := b) (b := a) h2]; omega
      · rw [cmK_no h1, cmK_no (a := b) (b := a) h2]; omega
theorem cm_same (a : Wru) (l : List Int) : ∀ k, cmK a a l k = 0 := by
  intro k
  induction k with
  | zero => simp [cmK]
  | succ k ih => rw [cmK_no (by omega), ih]
theorem cm_law {a b : Wru} {l : List Int} (h : cmOk a b l = true) : cmOk b a l = true ∧ cmOk a a l = true ∧ cmV a b l + cmV b a l ≤ (l.length : Int) ∧ cmV a a l = 0 ∧ (0 ≤ cmV a b l ∧ cmV a b l ≤ 50) ∧ (0 ≤ cmV b a l ∧ cmV b a l ≤ 50) := by
  have h0 := h
  unfold cmOk at h0
  rw [Bool.and_eq_true, Bool.and_eq_true] at h0
  have h1 : cmOk b a l = true := by unfold cmOk; rw [h0.1.1, h0.1.2, h0.2]; rfl
  have h2 : cmOk a a l = true := by unfold cmOk; rw [h0.1.1, h0.2]; rfl
  have h3 := cm_both a b l l.length
  have h4 := ((vtL_iff l).1 h0.2).1
  rw [cm_yes h, cm_yes h1, cm_yes h2, cm_same]
  exact ⟨h1, h2, by omega, rfl, by omega, by omega⟩
/-- What a run that succeeds asks and gives. -/
theorem rn_law {r : Wru} {s : Wst} {l : List Int} (h : rnOk r s l = true) : wsV r s = true ∧ vtL l = true ∧ tsOk r l = true := by
  unfold rnOk at h
  rw [Bool.and_eq_true] at h
  have h1 := (wsV_iff r s).1 h.1
  exact ⟨h.1, h.2, by unfold tsOk; rw [h1.1, h.2]; rfl⟩
end Go.Proofs.Ytoamhbobcpljpaa
