/- What adding, removing and spreading cabins leaves. No condition. -/
import Derived.Test.YtmmjbdffpgohdaaCirAM
import Derived.Test.YtmmjbdffpgohdaaCirR
import Derived.Test.YtmmjbdffpgohdaaCirM
import Derived.Test.YtmmjbdffpgohdaaCirV
namespace Go.Proofs.Ytmmjbdffpgohdaa
open Go.RowKit
set_option linter.unusedVariables false
theorem least8 {P : Nat → Prop} : ∀ n, P n → ∃ k, k ≤ n ∧ P k ∧ ∀ j, j < k → ¬ P j := by
  intro n
  induction n using Nat.strongRecOn with
  | _ n ih =>
    intro h
    by_cases hx : ∃ j, j < n ∧ P j
    · obtain ⟨j, hj, hp⟩ := hx
      obtain ⟨k, hk, h1, h2⟩ := ih j hj hp
      exact ⟨k, by omega, h1, h2⟩
    · exact ⟨n, Nat.le_refl _, h, fun j hj hp => hx ⟨j, hj, hp⟩⟩
/-- A list without its element j. -/
def rmv (l : List Int) (j : Nat) : List Int := l.take j ++ l.drop (j + 1)
theorem rmv_at (l : List Int) (x : Int) (k : Nat) (hk : k ≤ l.length) : rmv (l.take k ++ [x] ++ l.drop k) k = l := by
  unfold rmv
  have h1 : (l.take k).length = k := by simp; omega
  rw [List.append_assoc, List.take_append_of_le_length (by omega), List.take_of_length_le (by omega)]
  rw [List.drop_append, h1, show k + 1 - k = 1 by omega, List.drop_of_length_le (by omega)]
  simp
/-- What the law asks of a cabin added. -/
theorem ac_keeps {L S : Int} {l : List Int} {g : Int} (h : acOk L S l g = true) :
    acL L S l g = L ∧ acS L S l g = S ∧ (acR L S l g).length = l.length + 1 ∧ l.length + 1 ≤ 12 ∧ sgOk L S (acR L S l g) = true ∧ g ≤ sgV L S (acR L S l g) ∧
    (∀ k : Nat, k < l.length + 1 → rcOk L S (acR L S l g) k = true ∧ rcL L S (acR L S l g) k = L ∧ rcS L S (acR L S l g) k = S ∧ rcR L S (acR L S l g) k = rmv (acR L S l g) k) ∧
    ∃ k : Nat, k < l.length + 1 ∧ rmv (acR L S l g) k = l := by
  obtain ⟨e1, e2, e3⟩ := ac_yes h
  have hl := acNew_len L l
  rw [e1, e2, e3]
  unfold acOk acIn at h
  rw [Bool.and_eq_true, Bool.and_eq_true, Bool.and_eq_true, decide_eq_true_iff] at h
  obtain ⟨⟨hV, hg⟩, hR, hle⟩ := h
  have h12 := (cirV_parts hR).2.2.2
  have hsg : sgOk L S (acNew L l) = true := by
    unfold sgOk
    rw [hR, Bool.true_and, decide_eq_true_iff]
    omega
  refine ⟨rfl, rfl, hl, by omega, hsg, ?_, fun k hk => ?_, ?_⟩
  · rw [sg_yes hsg, hl, Nat.add_sub_cancel]
    exact hle
  · have hr : rcOk L S (acNew L l) k = true := by
      unfold rcOk
      rw [hR, Bool.true_and, inR_iff]
      omega
    obtain ⟨r1, r2, r3⟩ := rc_yes hr
    exact ⟨hr, r1, r2, by rw [r3]; unfold rmv; simp⟩
  · obtain ⟨k, hk, h1, h2⟩ := least8 (P := fun k => k = l.length ∨ acSt L l ≤ gth l k) l.length (.inl rfl)
    have hput := ac_put hV hk (fun j hj => by
      have := h2 j hj
      omega) (fun hlt => by
      rcases h1 with h1 | h1
      · omega
      · exact h1)
    refine ⟨k, by omega, ?_⟩
    rw [← hput]
    exact rmv_at l _ k hk
theorem ev_at {L : Int} {m k : Nat} (hL : 10 ≤ L ∧ L ≤ 4000) (hm : 0 < m) (hk : k ≤ 12) : evAt L m k = ((k : Int) * L) / m := by
  have h1 : 0 ≤ (k : Int) * L := Int.mul_nonneg (by omega) (by omega)
  have h2 : (k : Int) * L ≤ 12 * 4000 := Int.mul_le_mul (by omega) (by omega) (by omega) (by omega)
  unfold evAt
  rw [IntWalk.i64_in ((k : Int) * L) (by omega), Int.tdiv_eq_ediv_of_nonneg h1]
  have h3 : 0 ≤ ((k : Int) * L) / m := Int.ediv_nonneg h1 (by omega)
  have h4 : ((k : Int) * L) / m ≤ (k : Int) * L := Int.ediv_le_self _ h1
  exact IntWalk.i64_in _ (by omega)
theorem ev_gap {L : Int} {m i : Nat} (hm : 0 < m) : ((i : Int) * L) / m + L / m ≤ (((i + 1 : Nat) : Int) * L) / m := by
  have hb : (0 : Int) < m := by omega
  have h1 := ediv_lo (a := (i : Int) * L) hb
  have h2 := ediv_lo (a := L) hb
  have h3 := ediv_hi (a := ((i + 1 : Nat) : Int) * L) hb
  have h4 : ((i + 1 : Nat) : Int) * L = (i : Int) * L + L := by rw [Int.natCast_add, Int.add_mul]; simp
  rw [h4] at h3 ⊢
  generalize (i : Int) * L / (m : Int) = A at *
  generalize L / (m : Int) = q at *
  generalize ((i : Int) * L + L) / (m : Int) = B at *
  have h5 : (m : Int) * (A + q) < (m : Int) * (B + 1) := by rw [Int.mul_add, Int.mul_add, Int.mul_one]; omega
  have := Int.lt_of_mul_lt_mul_left h5 (by omega)
  omega
/-- What the law asks of cabins spread evenly. -/
theorem ev_keeps {L S n : Int} (h : evOk L S n = true) : evX L S n = L ∧ evY L S n = S ∧ (0 < n → sgOk L S (evR L S n) = true ∧ sgV L S (evR L S n) = L / n) ∧ (10 ≤ L ∧ L ≤ 4000) ∧ n ≤ 12 := by
  obtain ⟨e1, e2, e3⟩ := ev_yes h
  unfold evOk at h
  rw [Bool.and_eq_true, inR_iff] at h
  obtain ⟨hL, hS, hri, h12⟩ := cirV_parts h.2
  refine ⟨e1, e2, fun hn => ?_, hL, h.1.2⟩
  obtain ⟨m, rfl⟩ : ∃ m : Nat, n = m := ⟨n.toNat, by omega⟩
  rw [Int.toNat_natCast] at e3 h
  have hl := evTo_len L (m : Int) m
  have hsg : sgOk L S (evTo L m m) = true := by
    unfold sgOk
    rw [h.2, Bool.true_and, decide_eq_true_iff]
    omega
  rw [e3]
  refine ⟨hsg, ?_⟩
  rw [sg_yes hsg, hl]
  have hat : ∀ i, i < m → (evTo L m m).getD i 0 = ((i : Int) * L) / m := fun i hi => by
    rw [← ev_at hL (by omega : 0 < m) (by omega)]
    simp [evTo, List.getD, hi]
  have h0 : (evTo L m m).getD 0 0 = 0 := by rw [hat 0 (by omega)]; simp
  symm
  refine leastTo_is (fun j hj => ?_) ⟨0, by omega, ?_⟩
  · by_cases hjm : j + 1 < (evTo L m m).length
    · rw [gap_in hjm, hat j (by omega), hat (j + 1) (by omega)]
      have := ev_gap (L := L) (i := j) (show 0 < m by omega)
      omega
    · obtain rfl : j = m - 1 := by omega
      rw [gap_last hjm, h0, hat (m - 1) (by omega)]
      have := ev_gap (L := L) (i := m - 1) (show 0 < m by omega)
      have e : ((m - 1 + 1 : Nat) : Int) * L / (m : Int) = L := by
        rw [show m - 1 + 1 = m by omega]
        exact Int.mul_ediv_cancel_left _ (by omega)
      omega
  · by_cases hjm : 0 + 1 < (evTo L m m).length
    · rw [gap_in hjm, h0, hat (0 + 1) (by omega)]
      simp
    · rw [gap_last hjm, h0]
      obtain rfl : m = 1 := by omega
      simp
/-- The gaps are the ring. -/
theorem gp_keeps {L S : Int} {l : List Int} (h : cirV L S l = true) : (0 < l.length → (gpR L S l).sum = L) ∧ (∀ x ∈ gpR L S l, 0 ≤ x ∧ x ≤ 4000) ∧ (gpR L S l).length = l.length ∧ l.length ≤ 12 := by
  obtain ⟨hL, hS, hri, h12⟩ := cirV_parts h
  rw [gp_yes h]
  refine ⟨fun h0 => gaps_sum h0, fun x hx => ?_, gapsL_len _ _, h12⟩
  unfold gapsL gapsTo at hx
  obtain ⟨i, hi, rfl⟩ := List.mem_map.1 hx
  have := gap_bd hri (List.mem_range.1 hi)
  omega
end Go.Proofs.Ytmmjbdffpgohdaa
