/- What the law FnGripLists needs. No condition. -/
import Derived.Test.YtiogjocbiagipaaGrpLaw
namespace Go.Proofs.Ytiogjocbiagipaa
open Go.RowKit
set_option linter.unusedVariables false
theorem ahK_mem {l : List Grp} {r : List Int} {s x : Int} : ∀ k, x ∈ ahK l r s k ↔ ∃ j, j < k ∧ dhB (gth l j) (gth r j) s = false ∧ (gth l j).i = x
  | 0 => by simp [ahK]
  | k + 1 => by
    have ih := ahK_mem (l := l) (r := r) (s := s) (x := x) k
    cases h : dhB (gth l k) (gth r k) s with
    | true =>
      rw [ahK_yes h, ih]
      constructor
      · rintro ⟨j, h1, h2⟩; exact ⟨j, by omega, h2⟩
      · rintro ⟨j, h1, h2, h3⟩
        by_cases e : j = k
        · subst e; rw [h] at h2; cases h2
        · exact ⟨j, by omega, h2, h3⟩
    | false =>
      rw [ahK_no h, List.mem_append, ih]
      constructor
      · rintro (⟨j, h1, h2⟩ | h1)
        · exact ⟨j, by omega, h2⟩
        · exact ⟨k, by omega, h, by simpa using (List.mem_singleton.1 h1).symm⟩
      · rintro ⟨j, h1, h2, h3⟩
        by_cases e : j = k
        · subst e; exact .inr (by simp [h3])
        · exact .inl ⟨j, by omega, h2, h3⟩
theorem ah_law {l : List Grp} {r : List Int} {s : Int} (h : ahOk l r s = true) : grpL l = true ∧ r.length = l.length ∧
    ∀ j, j < l.length → dhOk (gth l j) (gth r j) s = true ∧ dhV (gth l j) (gth r j) s = dhB (gth l j) (gth r j) s ∧ ((gth l j).i ∈ ahR l r s ↔ dhB (gth l j) (gth r j) s = false) := by
  have hin : ahIn l r s = true := by unfold ahOk at h; rw [Bool.and_eq_true] at h; exact h.1
  have hall : r.all (fun x => inR x 100 4000) = true := by unfold ahOk at h; rw [Bool.and_eq_true] at h; exact h.2
  unfold ahIn at hin
  simp only [Bool.and_eq_true, decide_eq_true_eq] at hin
  obtain ⟨⟨hg, hl⟩, hs⟩ := hin
  have hR : ahR l r s = ahK l r s l.length := by unfold ahR; rw [if_pos h]
  refine ⟨hg, hl, fun j hj => ?_⟩
  have hx : inR (gth r j) 100 4000 = true := by
    rw [List.all_eq_true] at hall
    exact hall _ (gth_mem (by omega))
  have hdo : dhOk (gth l j) (gth r j) s = true := dh_all (plOk_yes hx hs) ((grpL_yes hg).ok j hj).1
  refine ⟨hdo, dh_yes hdo, ?_⟩
  rw [hR, ahK_mem]
  constructor
  · rintro ⟨i, h1, h2, h3⟩
    have := (grpL_yes hg).inj h1 hj h3
    subst this; exact h2
  · intro h1; exact ⟨j, hj, h1, rfl⟩
theorem og_law {l : List Grp} {n t : Int} {j : Nat} (hj : j < (ogR l n t).length) : j < l.length ∧ (0 ≤ (gth l j).g ∧ (gth l j).g ≤ 99999) ∧ (((gth (ogR l n t) j).g == (gth l j).g + 1) = ((gth (ogR l n t) j).i == n)) := by
  cases h : ogOk l n t with
  | false => unfold ogR at hj; rw [if_neg (by simp [h])] at hj; simp at hj
  | true =>
    have hin : ogIn l n t = true := by unfold ogOk at h; rw [Bool.and_eq_true] at h; exact h.1
    have hgi : giOk l n = true := by unfold ogIn at hin; rw [Bool.and_eq_true] at hin; exact hin.1
    obtain ⟨hV, _, hix, _, _⟩ := gi_yes hgi
    have hR : ogR l n t = l.set (idxN l n) (ogG (gth l (idxN l n)) t) := by unfold ogR; rw [if_pos h]
    have hjl : j < l.length := by rw [hR] at hj; simpa using hj
    have hb := ((isG_iff _).1 (hV.ok j hjl).1).2.2.2.1
    refine ⟨hjl, hb, ?_⟩
    rw [hR]
    by_cases e : idxN l n = j
    · subst e
      rw [gth_set_same hix]
      have := idxN_at hix
      simp [ogG, this]
    · rw [gth_set_other e]
      have h1 : ¬ (gth l j).g = (gth l j).g + 1 := by omega
      have h2 : ¬ (gth l j).i = n := fun g => e (hV.inj hix hjl (by rw [idxN_at hix, g]))
      rw [beq_eq_false_iff_ne.2 h1, beq_eq_false_iff_ne.2 h2]
theorem wk_min (l : List Grp) : ∀ n, ∀ j, j < n → (gth l (wkN l n)).s ≤ (gth l j).s := by
  intro n
  induction n with
  | zero => intro j h; omega
  | succ n ih =>
    intro j hj
    by_cases h0 : n = 0
    · subst h0
      obtain rfl : j = 0 := by omega
      exact Int.le_refl _
    · cases h : ltW (gth l n) (gth l (wkN l n)) with
      | true =>
        rw [wk_yes (by omega) h]
        unfold ltW at h
        simp only [Bool.or_eq_true, Bool.and_eq_true, decide_eq_true_eq] at h
        by_cases e : j = n
        · subst e; exact Int.le_refl _
        · have := ih j (by omega); omega
      | false =>
        rw [wk_no (by omega) h]
        by_cases e : j = n
        · subst e
          unfold ltW at h
          simp only [Bool.or_eq_false_iff, decide_eq_false_iff_not] at h
          omega
        · exact ih j (by omega)
theorem wg_law {l : List Grp} (h : wgOk l = true) : ∃ b, b < l.length ∧ wgV l = (gth l b).i ∧ (∀ j, j < l.length → (gth l j).i = (gth l b).i → j = b) ∧ (∀ i, i < l.length → (gth l b).s ≤ (gth l i).s) ∧ l.length ≤ 12 := by
  have h1 := wg_yes h
  unfold wgOk at h
  rw [Bool.and_eq_true, decide_eq_true_eq] at h
  have hb := wkN_lt l l.length h.2
  exact ⟨wkN l l.length, hb, h1, fun j hj e => (grpL_yes h.1).inj hj hb e, fun i hi => wk_min l l.length i hi, (grpL_yes h.1).len⟩
end Go.Proofs.Ytiogjocbiagipaa
