/- What tensions keep: without friction no force, the greatest one, the least counterweight. No condition. -/
import Derived.Test.YtmmjbdffpgohdaaDriveC
import Derived.Test.YtmmjbdffpgohdaaGreatTC
import Derived.Test.YtmmjbdffpgohdaaLeastC
namespace Go.Proofs.Ytmmjbdffpgohdaa
open Go.RowKit
set_option linter.unusedVariables false
theorem askOk_of {l : List Sup} {x : LC} {f : Int} (h : tenOk l x f = true) : askOk l x = true := by
  unfold tenOk at h
  rw [Bool.and_eq_true] at h
  exact h.1
theorem tenOk_of {l : List Sup} {x : LC} {f : Int} (h : askOk l x = true) (g : ∀ k, k < l.length → 0 ≤ ten l x f k) : tenOk l x f = true := by
  unfold tenOk
  rw [h, Bool.true_and]
  exact (tenG_iff _).2 g
/-- What the law asks where the drive has a force. -/
theorem df_keeps {l : List Sup} {x : LC} (h : dfOk l x = true) :
    tenOk l x x.r = true ∧ tenOk l x (-x.r) = true ∧ 2 ≤ l.length ∧ l.length ≤ 8 ∧ ((1 ≤ x.w ∧ x.w ≤ 1000) ∧ (1 ≤ x.c ∧ x.c ≤ 1000000) ∧ (0 ≤ x.r ∧ x.r ≤ 1000)) ∧
    (tenL l x x.r).length = l.length ∧ (tenL l x (-x.r)).length = l.length ∧ (tenL l x x.r).getD 0 0 = x.c ∧ (tenL l x (-x.r)).getD 0 0 = x.c ∧
    dfV l x = 2 * x.r * ((l.length : Int) - 1) ∧ (∃ g : Nat, gtI l x = (g : Int) ∧ g < l.length ∧ (tenL l x x.r).getD g 0 = gtV l x) ∧
    (∀ k, k < l.length → (tenL l x x.r).getD k 0 ≤ gtV l x ∧ (tenL l x (-x.r)).getD k 0 ≤ (tenL l x x.r).getD k 0 ∧ 0 ≤ (tenL l x (-x.r)).getD k 0) ∧
    lcOk l x = true ∧ lcV l x ≤ x.c := by
  have h' := h
  unfold dfOk at h
  rw [Bool.and_eq_true] at h
  obtain ⟨hu, hd⟩ := h
  obtain ⟨hl, hx, hu0⟩ := tenOk_yes hu
  obtain ⟨_, _, hd0⟩ := tenOk_yes hd
  have h2 := hl.two
  have h8 := hl.eight
  have eu := tenL_yes hu
  have ed := tenL_yes hd
  have hgv : gtV l x = ten l x x.r (bestT (ten l x x.r) (l.length - 1)) := by unfold gtV; rw [if_pos hu]
  have hgi : gtI l x = ((bestT (ten l x x.r) (l.length - 1) : Nat) : Int) := by unfold gtI; rw [if_pos hu]
  have hbl := bestT_le (ten l x x.r) (l.length - 1)
  have hask := askOk_of hu
  have hM : -lcM l x ≤ x.c := by
    unfold lcM
    rcases lowC_mem (chg l x.w (-x.r)) l.length with e | ⟨j, hj, e⟩
    · rw [e]; omega
    · have := hd0 j hj
      unfold ten at this
      rw [e]
      omega
  have hraw : lcRaw l x ≤ x.c := by
    unfold lcRaw
    split <;> omega
  have hlc : lcOk l x = true := by
    unfold lcOk
    rw [hask, Bool.true_and, decide_eq_true_iff]
    omega
  refine ⟨hu, hd, h2, h8, hx, by rw [eu, tenK_len], by rw [ed, tenK_len], by rw [eu, tenK_get (by omega), ten_zero], by rw [ed, tenK_get (by omega), ten_zero], ?_, ⟨_, hgi, by omega, by rw [eu, tenK_get (by omega), hgv]⟩, fun k hk => ?_, hlc, ?_⟩
  · unfold dfV
    rw [if_pos h']
    have := chg_two l x.w x.r (l.length - 1)
    unfold ten
    rw [show ((l.length - 1 : Nat) : Int) = (l.length : Int) - 1 by omega] at this
    omega
  · rw [eu, ed, tenK_get hk, tenK_get hk, hgv]
    have e1 := bestT_max (ten l x x.r) (l.length - 1) k (by omega)
    have e2 := chg_rub (l := l) (g := x.w) hx.2.2.1 k
    have e3 := hd0 k hk
    unfold ten at e1 e3 ⊢
    exact ⟨e1, by omega, e3⟩
  · unfold lcV
    rw [if_pos hlc]
    exact hraw
/-- What the law asks of the least counterweight. -/
theorem lc_keeps {l : List Sup} {x : LC} (h : lcOk l x = true) : dfOk l ⟨x.w, lcV l x, x.r⟩ = true ∧ dfOk l ⟨x.w, lcV l x - 1, x.r⟩ = false ∧ (1 ≤ lcV l x ∧ lcV l x ≤ 1000000) := by
  have hv : lcV l x = lcRaw l x := by unfold lcV; rw [if_pos h]
  unfold lcOk at h
  rw [Bool.and_eq_true, decide_eq_true_iff] at h
  obtain ⟨hask, hle⟩ := h
  obtain ⟨hl, hx⟩ := askOk_yes hask
  have hL : isL l = true := by
    unfold askOk at hask
    rw [Bool.and_eq_true] at hask
    exact hask.1
  obtain ⟨hm0, hm⟩ := lowC_le (chg l x.w (-x.r)) l.length
  have hmem := lowC_mem (chg l x.w (-x.r)) l.length
  have hr1 : 1 ≤ lcRaw l x := by unfold lcRaw; split <;> omega
  have hr2 : -lcM l x ≤ lcRaw l x := by unfold lcRaw; split <;> omega
  have hr3 : lcRaw l x = 1 ∨ lcRaw l x = -lcM l x := by unfold lcRaw; split <;> omega
  rw [hv]
  unfold lcM at hr2 hr3
  generalize lcRaw l x = c at *
  refine ⟨?_, ?_, hr1, hle⟩
  · have ha : askOk l ⟨x.w, c, x.r⟩ = true := by
      unfold askOk
      rw [hL, Bool.true_and, isLC_iff]
      exact ⟨hx.1, ⟨hr1, hle⟩, hx.2.2⟩
    unfold dfOk
    rw [Bool.and_eq_true]
    refine ⟨tenOk_of ha fun k hk => ?_, tenOk_of ha fun k hk => ?_⟩
    · have e1 := hm k hk
      have e2 := chg_rub (l := l) (g := x.w) hx.2.2.1 k
      show 0 ≤ c + chg l x.w x.r k
      omega
    · have e1 := hm k hk
      show 0 ≤ c + chg l x.w (-x.r) k
      omega
  · cases e : dfOk l ⟨x.w, c - 1, x.r⟩ with
    | false => rfl
    | true =>
      unfold dfOk at e
      rw [Bool.and_eq_true] at e
      obtain ⟨_, hx2, hd0⟩ := tenOk_yes e.2
      have hc : 1 ≤ c - 1 := hx2.2.1.1
      rcases hr3 with hr3 | hr3
      · omega
      · rcases hmem with e2 | ⟨j, hj, e2⟩
        · omega
        · have : 0 ≤ c - 1 + chg l x.w (-x.r) j := hd0 j hj
          omega
end Go.Proofs.Ytmmjbdffpgohdaa
