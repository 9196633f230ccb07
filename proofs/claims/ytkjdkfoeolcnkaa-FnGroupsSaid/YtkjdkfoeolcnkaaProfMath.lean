/- Speed profiles as plain lists: validity, the way, the shortest one to a speed, the fastest one under limits, smooth ones. No condition. -/
import Derived.Test.YtkjdkfoeolcnkaaIntS
import Derived.Test.YtkjdkfoeolcnkaaKindW
namespace Go.Proofs.Ytkjdkfoeolcnkaa
open Go.RowKit
set_option linter.unusedVariables false
theorem at_set_same {l : List Int} {i : Nat} {x : Int} (h : i < l.length) : (l.set i x).getD i 0 = x := by simp [List.getD, h]
theorem at_set_other {l : List Int} {i j : Nat} {x : Int} (h : i ≠ j) : (l.set i x).getD j 0 = l.getD j 0 := by simp [List.getD, h]
theorem at_get {l : List Int} {i : Nat} (h : i < l.length) : l.getD i 0 = l[i] := by simp [List.getD, h]
theorem at_mem {l : List Int} {i : Nat} (h : i < l.length) : l.getD i 0 ∈ l := by rw [at_get h]; exact List.getElem_mem h
theorem at_ext {l r : List Int} (h : l.length = r.length) (g : ∀ i, i < l.length → l.getD i 0 = r.getD i 0) : l = r := by
  refine List.ext_getElem h fun i h1 h2 => ?_
  have := g i h1
  rwa [at_get h1, at_get h2] at this
theorem iv_set (l : List Int) (i : Nat) (x : Int) : (intVs l).set i (.int .i64 x) = intVs (l.set i x) := by simp [intVs, List.map_set]
/-- A profile. -/
def p9V (l : List Int) : Bool := inR (l.length : Int) 1 30 && l.all (fun v => inR v 0 100)
theorem p9V_iff (l : List Int) : p9V l = true ↔ (1 ≤ l.length ∧ l.length ≤ 30) ∧ ∀ i, i < l.length → 0 ≤ l.getD i 0 ∧ l.getD i 0 ≤ 100 := by
  unfold p9V
  rw [Bool.and_eq_true, inR_iff, List.all_eq_true]
  constructor
  · rintro ⟨h, g⟩
    exact ⟨by omega, fun i hi => (inR_iff _ _ _).1 (g _ (at_mem hi))⟩
  · rintro ⟨h, g⟩
    refine ⟨by omega, fun x hx => ?_⟩
    obtain ⟨i, hi, rfl⟩ := List.getElem_of_mem hx
    rw [← at_get hi]
    exact (inR_iff _ _ _).2 (g i hi)
theorem p9V_nil : p9V [] = false := rfl
theorem p9V_len {l : List Int} (h : inR (l.length : Int) 1 30 = false) : p9V l = false := by simp [p9V, h]
theorem p9V_bad {l : List Int} {k : Nat} (hk : k < l.length) (h : inR (l.getD k 0) 0 100 = false) : p9V l = false := by
  cases e : p9V l with
  | false => rfl
  | true =>
    have := ((p9V_iff l).1 e).2 k hk
    rw [inR_no] at h
    omega
theorem p9V_good {l : List Int} (hl : inR (l.length : Int) 1 30 = true) (h : ∀ i, i < l.length → inR (l.getD i 0) 0 100 = true) : p9V l = true := by
  rw [p9V_iff]
  have := (inR_iff _ _ _).1 hl
  exact ⟨by omega, fun i hi => (inR_iff _ _ _).1 (h i hi)⟩
/-- An acceleration is kept. -/
def p9K (l : List Int) (a : Int) : Bool := (List.range (l.length - 1)).all (fun i => inR (l.getD (i + 1) 0 - l.getD i 0) (-a) a)
theorem p9K_iff (l : List Int) (a : Int) : p9K l a = true ↔ ∀ k, 0 < k → k < l.length → -a ≤ l.getD k 0 - l.getD (k - 1) 0 ∧ l.getD k 0 - l.getD (k - 1) 0 ≤ a := by
  unfold p9K
  rw [List.all_eq_true]
  constructor
  · intro h k h0 hk
    have := h (k - 1) (List.mem_range.2 (by omega))
    rw [inR_iff, show k - 1 + 1 = k by omega] at this
    exact this
  · intro h i hi
    rw [List.mem_range] at hi
    rw [inR_iff]
    exact h (i + 1) (by omega) (by omega)
theorem p9K_bad {l : List Int} {a : Int} {k : Nat} (h0 : 0 < k) (hk : k < l.length) (h : ¬ (-a ≤ l.getD k 0 - l.getD (k - 1) 0 ∧ l.getD k 0 - l.getD (k - 1) 0 ≤ a)) : p9K l a = false := by
  cases e : p9K l a with
  | false => rfl
  | true => exact absurd ((p9K_iff l a).1 e k h0 hk) h
def dkOk (l : List Int) (a : Int) : Bool := p9V l && inR a 1 20
def dkV (l : List Int) (a : Int) : Bool := dkOk l a && p9K l a
/-- Twice the way of the first k pairs. -/
def wayTo (l : List Int) : Nat → Int
  | 0 => 0
  | k + 1 => wayTo l k + (l.getD k 0 + l.getD (k + 1) 0)
theorem wayTo_bd {l : List Int} (h : ∀ i, i < l.length → 0 ≤ l.getD i 0 ∧ l.getD i 0 ≤ 100) : ∀ k, k + 1 ≤ l.length → 0 ≤ wayTo l k ∧ wayTo l k ≤ 200 * k
  | 0, _ => by simp [wayTo]
  | k + 1, hk => by
    have h1 := wayTo_bd h k (by omega)
    have h2 := h k (by omega)
    have h3 := h (k + 1) (by omega)
    simp only [wayTo]
    omega
theorem wayTo_step (l : List Int) {k : Nat} (h : 0 < k) : wayTo l k = wayTo l (k - 1) + (l.getD (k - 1) 0 + l.getD k 0) := by
  obtain ⟨j, rfl⟩ : ∃ j, k = j + 1 := ⟨k - 1, by omega⟩
  simp [wayTo]
def p9Way (l : List Int) : Int := wayTo l (l.length - 1)
def dwV (l : List Int) : Int := if p9V l then p9Way l else 0
/-- The next speed on the shortest way. -/
def nx (t a v : Int) : Int := if v < t then (if t < v + a then t else v + a) else (if v - a < t then t else v - a)
def spd (f t a : Int) : Nat → Int
  | 0 => f
  | k + 1 => nx t a (spd f t a k)
theorem spd_in {f t a : Int} (hf : 0 ≤ f ∧ f ≤ 100) (ht : 0 ≤ t ∧ t ≤ 100) (ha : 1 ≤ a ∧ a ≤ 20) : ∀ k, 0 ≤ spd f t a k ∧ spd f t a k ≤ 100
  | 0 => hf
  | k + 1 => by
    have h := spd_in hf ht ha k
    simp only [spd, nx]
    split <;> split <;> omega
theorem spd_far {f t a : Int} (ha : 1 ≤ a ∧ a ≤ 20) : ∀ k, spd f t a k = t ∨ (spd f t a k - t).natAbs + k ≤ (f - t).natAbs
  | 0 => .inr (by simp [spd])
  | k + 1 => by
    rcases spd_far (f := f) (t := t) ha k with h | h
    · refine .inl ?_
      simp only [spd, nx, h]
      split <;> split <;> omega
    · simp only [spd, nx]
      split <;> split <;> omega
theorem nx_keeps {t a v : Int} (ha : 1 ≤ a) : -a ≤ nx t a v - v ∧ nx t a v - v ≤ a := by
  unfold nx
  split <;> split <;> omega
/-- After k seconds, and no sooner, the speed is reached. -/
def IsSK (f t a : Int) (k : Nat) : Prop := spd f t a k = t ∧ ∀ j, j < k → spd f t a j ≠ t
open Classical in
noncomputable def stK9 (f t a : Int) : Nat := if h : ∃ k, IsSK f t a k then h.choose else 0
theorem stK_is {f t a : Int} {k : Nat} (h : IsSK f t a k) : stK9 f t a = k := by
  have hx : ∃ k, IsSK f t a k := ⟨k, h⟩
  unfold stK9
  rw [dif_pos hx]
  have g := hx.choose_spec
  rcases Nat.lt_trichotomy hx.choose k with h1 | h1 | h1
  · exact absurd g.1 (h.2 _ h1)
  · exact h1
  · exact absurd h.1 (g.2 _ h1)
theorem least_of {P : Nat → Prop} : ∀ n, P n → ∃ k, k ≤ n ∧ P k ∧ ∀ j, j < k → ¬ P j := by
  intro n
  induction n using Nat.strongRecOn with
  | _ n ih =>
    intro h
    by_cases hx : ∃ j, j < n ∧ P j
    · obtain ⟨j, hj, hp⟩ := hx
      obtain ⟨k, hk, h1, h2⟩ := ih j hj hp
      exact ⟨k, by omega, h1, h2⟩
    · exact ⟨n, Nat.le_refl _, h, fun j hj hp => hx ⟨j, hj, hp⟩⟩
def stIn (f t a : Int) : Bool := inR f 0 100 && (inR t 0 100 && inR a 1 20)
theorem stIn_parts {f t a : Int} (h : stIn f t a = true) : (0 ≤ f ∧ f ≤ 100) ∧ (0 ≤ t ∧ t ≤ 100) ∧ (1 ≤ a ∧ a ≤ 20) := by
  unfold stIn at h
  rw [Bool.and_eq_true, Bool.and_eq_true, inR_iff, inR_iff, inR_iff] at h
  exact h
theorem stK_ex {f t a : Int} (h : stIn f t a = true) : IsSK f t a (stK9 f t a) ∧ stK9 f t a ≤ 100 := by
  obtain ⟨hf, ht, ha⟩ := stIn_parts h
  have h1 : spd f t a 100 = t := by
    rcases spd_far (f := f) (t := t) ha 100 with g | g
    · exact g
    · omega
  obtain ⟨k, hk, h2, h3⟩ := least_of (P := fun k => spd f t a k = t) 100 h1
  have := stK_is ⟨h2, h3⟩
  rw [this]
  exact ⟨⟨h2, h3⟩, hk⟩
/-- The speeds up to the second k. -/
def spTo (f t a : Int) (k : Nat) : List Int := (List.range (k + 1)).map (spd f t a)
theorem spTo_len (f t a : Int) (k : Nat) : (spTo f t a k).length = k + 1 := by simp [spTo]
theorem spTo_zero (f t a : Int) : spTo f t a 0 = [f] := by simp [spTo, spd]
theorem spTo_succ (f t a : Int) (k : Nat) : spTo f t a (k + 1) = spTo f t a k ++ [nx t a (spd f t a k)] := by
  unfold spTo
  rw [List.range_succ (n := k + 1), List.map_append]
  rfl
theorem spTo_at {f t a : Int} {k i : Nat} (h : i ≤ k) : (spTo f t a k).getD i 0 = spd f t a i := by
  have : i < k + 1 := by omega
  simp [spTo, List.getD, this]
noncomputable def stL (f t a : Int) : List Int := spTo f t a (stK9 f t a)
noncomputable def stOk (f t a : Int) : Bool := stIn f t a && decide (stK9 f t a + 1 ≤ 30)
noncomputable def stR (f t a : Int) : List Int := if stOk f t a then stL f t a else []
theorem st9_no {f t a : Int} (h : stIn f t a = false) : stOk f t a = false ∧ stR f t a = [] := by
  have : stOk f t a = false := by simp [stOk, h]
  exact ⟨this, by simp [stR, this]⟩
theorem st_p9 {f t a : Int} (h : stIn f t a = true) : p9V (stL f t a) = stOk f t a := by
  obtain ⟨hf, ht, ha⟩ := stIn_parts h
  have h1 : stOk f t a = decide (stK9 f t a + 1 ≤ 30) := by simp [stOk, h]
  rw [h1]
  by_cases hk : stK9 f t a + 1 ≤ 30
  · have : decide (stK9 f t a + 1 ≤ 30) = true := by simpa using hk
    rw [this, p9V_iff]
    refine ⟨by unfold stL; rw [spTo_len]; omega, fun i hi => ?_⟩
    unfold stL at hi ⊢
    rw [spTo_len] at hi
    rw [spTo_at (by omega)]
    exact spd_in hf ht ha i
  · have : decide (stK9 f t a + 1 ≤ 30) = false := by simpa using hk
    rw [this]
    refine p9V_len ?_
    rw [inR_no]
    unfold stL
    rw [spTo_len]
    omega
theorem st_end {f t a : Int} {k : Nat} (hi : stIn f t a = true) (h : IsSK f t a k) : spTo f t a k = stL f t a := by
  unfold stL
  rw [stK_is h]
theorem stR_yes {f t a : Int} (h : stOk f t a = true) : stR f t a = stL f t a := by simp [stR, h]
theorem stR_no {f t a : Int} (h : stOk f t a = false) : stR f t a = [] := by simp [stR, h]
theorem stR_len (f t a : Int) : (stR f t a).length ≤ 30 := by
  unfold stR
  split
  · rename_i h
    unfold stOk at h
    rw [Bool.and_eq_true] at h
    unfold stL
    rw [spTo_len]
    have := h.2
    simp at this
    omega
  · simp
theorem stR_p9 (f t a : Int) : p9V (stR f t a) = stOk f t a := by
  cases h : stOk f t a with
  | false => rw [stR_no h]; rfl
  | true =>
    rw [stR_yes h, st_p9, h]
    unfold stOk at h
    rw [Bool.and_eq_true] at h
    exact h.1
/-- What the shortest profile keeps. -/
theorem st_keeps {f t a : Int} (h : stOk f t a = true) : dkOk (stR f t a) a = true ∧ dkV (stR f t a) a = true ∧ (stR f t a).getD 0 0 = f ∧ (stR f t a).getD ((stR f t a).length - 1) 0 = t ∧ 0 < (stR f t a).length := by
  have hi : stIn f t a = true := by
    unfold stOk at h
    rw [Bool.and_eq_true] at h
    exact h.1
  obtain ⟨hf, ht, ha⟩ := stIn_parts hi
  have hv := stR_p9 f t a
  have hk : dkOk (stR f t a) a = true := by
    unfold dkOk
    rw [hv, h, Bool.true_and, inR_iff]
    exact ha
  have hx := (stK_ex hi).1
  rw [stR_yes h] at hk ⊢
  refine ⟨hk, ?_, ?_, ?_, ?_⟩
  · unfold dkV
    rw [hk, Bool.true_and, p9K_iff]
    intro k h0 hl
    unfold stL at hl ⊢
    rw [spTo_len] at hl
    rw [spTo_at (by omega), spTo_at (by omega)]
    obtain ⟨j, rfl⟩ : ∃ j, k = j + 1 := ⟨k - 1, by omega⟩
    simp only [spd, Nat.add_sub_cancel]
    exact nx_keeps ha.1
  · unfold stL
    rw [spTo_at (by omega)]
    rfl
  · unfold stL
    rw [spTo_len, Nat.add_sub_cancel, spTo_at (by omega)]
    exact hx.1
  · unfold stL
    rw [spTo_len]
    omega
noncomputable def swOk (s a : Int) : Bool := stOk s 0 a
noncomputable def swV (s a : Int) : Int := if swOk s a then p9Way (stR s 0 a) else 0
theorem sw_dw (s a : Int) : dwV (stR s 0 a) = swV s a ∧ p9V (stR s 0 a) = swOk s a := by
  have h := stR_p9 s 0 a
  refine ⟨?_, h⟩
  unfold dwV swV
  rw [h]
  rfl
/-- The way to a stop from v is at most the way. -/
noncomputable def p9P (way a v : Int) : Bool := swOk v a && decide (swV v a ≤ way)
noncomputable def bst9 (way a : Int) : Nat → Int
  | 0 => 0
  | n + 1 => if p9P way a ((n + 1 : Nat) : Int) then ((n + 1 : Nat) : Int) else bst9 way a n
theorem bst_yes {way a : Int} {n : Nat} (h : p9P way a ((n + 1 : Nat) : Int) = true) : bst9 way a (n + 1) = ((n + 1 : Nat) : Int) := by simp only [bst9]; rw [if_pos h]
theorem bst_no {way a : Int} {n : Nat} (h : p9P way a ((n + 1 : Nat) : Int) = false) : bst9 way a (n + 1) = bst9 way a n := by simp only [bst9]; rw [if_neg (by rw [h]; simp)]
theorem bst_in (way a : Int) : ∀ n, 0 ≤ bst9 way a n ∧ bst9 way a n ≤ n
  | 0 => by simp [bst9]
  | n + 1 => by
    have := bst_in way a n
    simp only [bst9]
    split <;> omega
theorem p9P_zero {way a : Int} (hw : 0 ≤ way) (ha : inR a 1 20 = true) : p9P way a 0 = true := by
  have hi : stIn 0 0 a = true := by rw [show stIn 0 0 a = (inR 0 0 100 && (inR 0 0 100 && inR a 1 20)) from rfl, ha]; rfl
  have hk : stK9 0 0 a = 0 := stK_is ⟨rfl, fun j hj => by omega⟩
  have ho : stOk 0 0 a = true := by simp [stOk, hi, hk]
  have hl : stR 0 0 a = [0] := by rw [stR_yes ho]; unfold stL; rw [hk]; exact spTo_zero _ _ _
  have hv : swV 0 a = 0 := by
    unfold swV swOk
    rw [ho, hl]
    rfl
  unfold p9P
  rw [hv, show swOk 0 a = true from ho]
  simpa using hw
theorem bst_is {way a : Int} (h0 : p9P way a 0 = true) : ∀ n, p9P way a (bst9 way a n) = true
  | 0 => h0
  | n + 1 => by
    simp only [bst9]
    split
    · rename_i h; exact h
    · exact bst_is h0 n
theorem bst_top {way a : Int} : ∀ n k : Nat, k ≤ n → bst9 way a n < k → p9P way a (k : Int) = false
  | 0, k, hk, h => by
    simp only [bst9] at h
    omega
  | n + 1, k, hk, h => by
    cases e : p9P way a ((n + 1 : Nat) : Int) with
    | true =>
      rw [bst_yes e] at h
      omega
    | false =>
      rw [bst_no e] at h
      by_cases g : k = n + 1
      · subst g; exact e
      · exact bst_top n k (by omega) h
def sfOk (way a : Int) : Bool := inR way 0 100000 && inR a 1 20
noncomputable def sfV (way a : Int) : Int := if sfOk way a then bst9 way a 100 else 0
theorem sw_bad {s a : Int} (h : inR a 1 20 = false) : swOk s a = false := (st9_no (by simp [stIn, h])).1
theorem p9P_bad {way s a : Int} (h : inR a 1 20 = false) : p9P way a s = false := by simp [p9P, sw_bad h]
theorem sw_far {s a : Int} (h : inR s 0 100 = false) : swOk s a = false := (st9_no (by simp [stIn, h])).1
/-- What the speed for a way keeps. -/
theorem sf_keeps {way a : Int} (h : sfOk way a = true) : swOk (sfV way a) a = true ∧ swV (sfV way a) a ≤ way ∧ (swOk (sfV way a + 1) a = true → way < swV (sfV way a + 1) a) := by
  have hv : sfV way a = bst9 way a 100 := by simp [sfV, h]
  unfold sfOk at h
  rw [Bool.and_eq_true] at h
  have h1 := bst_is (p9P_zero ((inR_iff _ _ _).1 h.1).1 h.2) 100
  have h2 := bst_in way a 100
  rw [hv]
  unfold p9P at h1
  rw [Bool.and_eq_true] at h1
  refine ⟨h1.1, by simpa using h1.2, fun h3 => ?_⟩
  have h4 : inR (bst9 way a 100 + 1) 0 100 = true := by
    cases e : inR (bst9 way a 100 + 1) 0 100 with
    | true => rfl
    | false => rw [sw_far e] at h3; cases h3
  rw [inR_iff] at h4
  obtain ⟨k, hk⟩ : ∃ k : Nat, bst9 way a 100 + 1 = k := ⟨(bst9 way a 100 + 1).toNat, by omega⟩
  have h5 := bst_top (way := way) (a := a) 100 k (by omega) (by omega)
  rw [hk] at h3 ⊢
  unfold p9P at h5
  rw [h3, Bool.true_and] at h5
  simpa using h5
/-- Braking: the last k speeds but the last one are lowered to what the next one allows. -/
def bkN (l : List Int) (a : Int) : Nat → List Int
  | 0 => l
  | k + 1 => (bkN l a k).set (l.length - 2 - k) (if (bkN l a k).getD (l.length - 1 - k) 0 + a < (bkN l a k).getD (l.length - 2 - k) 0 then (bkN l a k).getD (l.length - 1 - k) 0 + a else (bkN l a k).getD (l.length - 2 - k) 0)
/-- Going faster: the first k speeds but the first one are lowered to what the one before allows. -/
def fwN (l : List Int) (a : Int) : Nat → List Int
  | 0 => l
  | k + 1 => (fwN l a k).set (k + 1) (if (fwN l a k).getD k 0 + a < (fwN l a k).getD (k + 1) 0 then (fwN l a k).getD k 0 + a else (fwN l a k).getD (k + 1) 0)
theorem bkN_len (l : List Int) (a : Int) : ∀ k, (bkN l a k).length = l.length
  | 0 => rfl
  | k + 1 => by simp only [bkN, List.length_set]; exact bkN_len l a k
theorem fwN_len (l : List Int) (a : Int) : ∀ k, (fwN l a k).length = l.length
  | 0 => rfl
  | k + 1 => by simp only [fwN, List.length_set]; exact fwN_len l a k
theorem bkN_in {l : List Int} {a : Int} (ha : 1 ≤ a) (h : ∀ i, i < l.length → 0 ≤ l.getD i 0 ∧ l.getD i 0 ≤ 100) : ∀ k, k + 1 ≤ l.length → ∀ i, i < l.length → 0 ≤ (bkN l a k).getD i 0 ∧ (bkN l a k).getD i 0 ≤ 100
  | 0, _, i, hi => h i hi
  | k + 1, hk, i, hi => by
    have ih := bkN_in ha h k (by omega)
    have hl := bkN_len l a k
    simp only [bkN]
    by_cases e : l.length - 2 - k = i
    · rw [e, at_set_same (by omega)]
      have h1 := ih i hi
      have h2 := ih (l.length - 1 - k) (by omega)
      split <;> omega
    · rw [at_set_other e]
      exact ih i hi
theorem bkN_le {l : List Int} {a : Int} : ∀ k i, (bkN l a k).getD i 0 ≤ l.getD i 0
  | 0, i => Int.le_refl _
  | k + 1, i => by
    have ih := bkN_le (l := l) (a := a) k
    simp only [bkN]
    by_cases e : l.length - 2 - k = i
    · by_cases hl : i < (bkN l a k).length
      · rw [e, at_set_same hl]
        have := ih i
        split <;> omega
      · rw [List.set_eq_of_length_le (by omega)]
        exact ih i
    · rw [at_set_other e]
      exact ih i
theorem bkN_keeps {l : List Int} {a : Int} (ha : 1 ≤ a) : ∀ k, k + 1 ≤ l.length → ∀ i, l.length - 1 - k ≤ i → i + 1 < l.length → (bkN l a k).getD i 0 ≤ (bkN l a k).getD (i + 1) 0 + a
  | 0, _, i, h1, h2 => by omega
  | k + 1, hk, i, h1, h2 => by
    have hl := bkN_len l a k
    simp only [bkN]
    by_cases e : l.length - 2 - k = i
    · rw [e, at_set_same (by omega), at_set_other (by omega), show l.length - 1 - k = i + 1 by omega]
      split <;> omega
    · rw [at_set_other e, at_set_other (by omega)]
      exact bkN_keeps ha k (by omega) i (by omega) h2
theorem fwN_in {l : List Int} {a : Int} (ha : 1 ≤ a) (h : ∀ i, i < l.length → 0 ≤ l.getD i 0 ∧ l.getD i 0 ≤ 100) : ∀ k, k + 1 ≤ l.length → ∀ i, i < l.length → 0 ≤ (fwN l a k).getD i 0 ∧ (fwN l a k).getD i 0 ≤ 100
  | 0, _, i, hi => h i hi
  | k + 1, hk, i, hi => by
    have ih := fwN_in ha h k (by omega)
    have hl := fwN_len l a k
    simp only [fwN]
    by_cases e : k + 1 = i
    · rw [e, at_set_same (by omega)]
      have h1 := ih i hi
      have h2 := ih k (by omega)
      split <;> omega
    · rw [at_set_other e]
      exact ih i hi
theorem fwN_past {l : List Int} {a : Int} : ∀ k i, k < i → (fwN l a k).getD i 0 = l.getD i 0
  | 0, i, _ => rfl
  | k + 1, i, h => by
    simp only [fwN]
    rw [at_set_other (by omega)]
    exact fwN_past k i (by omega)
theorem fwN_stay {l : List Int} {a : Int} : ∀ k i, i ≤ k → (fwN l a (k + 1)).getD i 0 = (fwN l a k).getD i 0
  | k, i, h => by
    simp only [fwN]
    rw [at_set_other (by omega)]
theorem fwN_le {l : List Int} {a : Int} : ∀ k i, (fwN l a k).getD i 0 ≤ l.getD i 0
  | 0, i => Int.le_refl _
  | k + 1, i => by
    have ih := fwN_le (l := l) (a := a) k
    simp only [fwN]
    by_cases e : k + 1 = i
    · by_cases hl : i < (fwN l a k).length
      · rw [e, at_set_same hl]
        have := ih i
        split <;> omega
      · rw [List.set_eq_of_length_le (by omega)]
        exact ih i
    · rw [at_set_other e]
      exact ih i
theorem fwN_keeps {l : List Int} {a : Int} (ha : 1 ≤ a) (hb : ∀ i, i + 1 < l.length → l.getD i 0 ≤ l.getD (i + 1) 0 + a) : ∀ k, k + 1 ≤ l.length → ∀ i, i < k → (fwN l a k).getD i 0 ≤ (fwN l a k).getD (i + 1) 0 + a ∧ (fwN l a k).getD (i + 1) 0 ≤ (fwN l a k).getD i 0 + a
  | 0, _, i, h => by omega
  | k + 1, hk, i, h => by
    have hl := fwN_len l a k
    simp only [fwN]
    by_cases e : k = i
    · subst e
      rw [at_set_same (by omega), at_set_other (by omega)]
      have h1 := hb k (by omega)
      have h2 := fwN_le (l := l) (a := a) k k
      have h3 := fwN_past (l := l) (a := a) k (k + 1) (by omega)
      rw [h3]
      split <;> omega
    · rw [at_set_other (by omega), at_set_other (by omega)]
      exact fwN_keeps ha hb k (by omega) i (by omega)
/-- After braking the first speed is the given one. -/
def fuB (l : List Int) (a : Int) : List Int := bkN l a (l.length - 1)
def fuS (l : List Int) (f a : Int) : List Int := (fuB l a).set 0 f
def fuL (l : List Int) (f a : Int) : List Int := fwN (fuS l f a) a (l.length - 1)
def fuIn (l : List Int) (a : Int) : Bool := p9V l && inR a 1 20
def fuOk (l : List Int) (f a : Int) : Bool := fuIn l a && inR f 0 ((fuB l a).getD 0 0)
def fuR (l : List Int) (f a : Int) : List Int := if fuOk l f a then fuL l f a else []
theorem fuS_len (l : List Int) (f a : Int) : (fuS l f a).length = l.length := by unfold fuS fuB; rw [List.length_set, bkN_len]
theorem fuL_len (l : List Int) (f a : Int) : (fuL l f a).length = l.length := by unfold fuL; rw [fwN_len, fuS_len]
theorem fuR_len (l : List Int) (f a : Int) : (fuR l f a).length ≤ 30 := by
  unfold fuR
  split
  · rename_i h
    unfold fuOk fuIn at h
    rw [Bool.and_eq_true, Bool.and_eq_true, p9V_iff] at h
    rw [fuL_len]
    exact h.1.1.1.2
  · simp
theorem fu_parts {l : List Int} {a : Int} (h : fuIn l a = true) : ((1 ≤ l.length ∧ l.length ≤ 30) ∧ ∀ i, i < l.length → 0 ≤ l.getD i 0 ∧ l.getD i 0 ≤ 100) ∧ (1 ≤ a ∧ a ≤ 20) := by
  unfold fuIn at h
  rw [Bool.and_eq_true, p9V_iff, inR_iff] at h
  exact h
theorem fuB_in {l : List Int} {a : Int} (h : fuIn l a = true) : ∀ i, i < l.length → 0 ≤ (fuB l a).getD i 0 ∧ (fuB l a).getD i 0 ≤ 100 := by
  obtain ⟨⟨h1, h2⟩, h3⟩ := fu_parts h
  exact bkN_in h3.1 h2 _ (by omega)
theorem fuB_keeps {l : List Int} {a : Int} (h : fuIn l a = true) : ∀ i, i + 1 < l.length → (fuB l a).getD i 0 ≤ (fuB l a).getD (i + 1) 0 + a := by
  obtain ⟨⟨h1, h2⟩, h3⟩ := fu_parts h
  intro i hi
  exact bkN_keeps h3.1 _ (by omega) i (by omega) hi
theorem fuS_in {l : List Int} {f a : Int} (h : fuOk l f a = true) : ∀ i, i < l.length → 0 ≤ (fuS l f a).getD i 0 ∧ (fuS l f a).getD i 0 ≤ 100 := by
  unfold fuOk at h
  rw [Bool.and_eq_true, inR_iff] at h
  have hb := fuB_in h.1
  obtain ⟨⟨h1, h2⟩, h3⟩ := fu_parts h.1
  intro i hi
  unfold fuS
  have hl : (fuB l a).length = l.length := bkN_len _ _ _
  by_cases e : 0 = i
  · subst e
    rw [at_set_same (by omega)]
    have := hb 0 hi
    omega
  · rw [at_set_other e]
    exact hb i hi
theorem fuS_keeps {l : List Int} {f a : Int} (h : fuOk l f a = true) : ∀ i, i + 1 < l.length → (fuS l f a).getD i 0 ≤ (fuS l f a).getD (i + 1) 0 + a := by
  unfold fuOk at h
  rw [Bool.and_eq_true, inR_iff] at h
  have hb := fuB_keeps h.1
  intro i hi
  unfold fuS
  have hl : (fuB l a).length = l.length := bkN_len _ _ _
  rw [at_set_other (show 0 ≠ i + 1 by omega)]
  by_cases e : 0 = i
  · subst e
    rw [at_set_same (by omega)]
    have := hb 0 hi
    omega
  · rw [at_set_other e]
    exact hb i hi
/-- The fastest profile keeps the acceleration. -/
theorem fuL_keeps {l : List Int} {f a : Int} (h : fuOk l f a = true) : p9K (fuL l f a) a = true := by
  have h0 := h
  unfold fuOk at h
  rw [Bool.and_eq_true] at h
  obtain ⟨⟨h1, h2⟩, h3⟩ := fu_parts h.1
  rw [p9K_iff]
  intro k hk hl
  rw [fuL_len] at hl
  have hs := fuS_len l f a
  have := fwN_keeps (l := fuS l f a) (a := a) h3.1 (fun i hi => fuS_keeps h0 i (by omega)) (l.length - 1) (by omega) (k - 1) (by omega)
  rw [show k - 1 + 1 = k by omega] at this
  unfold fuL
  omega
theorem fuL_in {l : List Int} {f a : Int} (h : fuOk l f a = true) : ∀ i, i < l.length → 0 ≤ (fuL l f a).getD i 0 ∧ (fuL l f a).getD i 0 ≤ 100 := by
  have h0 := h
  unfold fuOk at h
  rw [Bool.and_eq_true] at h
  obtain ⟨⟨h1, h2⟩, h3⟩ := fu_parts h.1
  have hs := fuS_len l f a
  intro i hi
  exact fwN_in h3.1 (fun i hi => fuS_in h0 i (by omega)) _ (by omega) i (by omega)
/-- Two profiles joined. -/
def jnIn (a b : List Int) : Bool := p9V a && p9V b && (a.getD (a.length - 1) 0 == b.getD 0 0)
def jnOk (a b : List Int) : Bool := jnIn a b && decide (a.length + b.length ≤ 31)
def jnR (a b : List Int) : List Int := if jnOk a b then a ++ b.drop 1 else []
theorem jnR_len (a b : List Int) : (jnR a b).length ≤ 30 := by
  unfold jnR
  split
  · rename_i h
    unfold jnOk jnIn at h
    rw [Bool.and_eq_true, Bool.and_eq_true, Bool.and_eq_true, p9V_iff, p9V_iff] at h
    have := h.2
    simp at this
    simp
    omega
  · simp
theorem jn_p9 {a b : List Int} (h : jnIn a b = true) : p9V (a ++ b.drop 1) = jnOk a b := by
  have hj : jnOk a b = decide (a.length + b.length ≤ 31) := by simp [jnOk, h]
  unfold jnIn at h
  rw [Bool.and_eq_true, Bool.and_eq_true, p9V_iff, p9V_iff] at h
  obtain ⟨⟨⟨h1, h2⟩, h3, h4⟩, h5⟩ := h
  have hl : (a ++ b.drop 1).length = a.length + (b.length - 1) := by simp
  rw [hj]
  by_cases g : a.length + b.length ≤ 31
  · have : decide (a.length + b.length ≤ 31) = true := by simpa using g
    rw [this, p9V_iff, hl]
    refine ⟨by omega, fun i hi => ?_⟩
    by_cases e : i < a.length
    · rw [at_get (by rw [hl]; exact hi), List.getElem_append_left e, ← at_get e]
      exact h2 i e
    · rw [at_get (by rw [hl]; exact hi), List.getElem_append_right (by omega), List.getElem_drop, ← at_get]
      exact h4 _ (by omega)
  · have : decide (a.length + b.length ≤ 31) = false := by simpa using g
    rw [this]
    refine p9V_len ?_
    rw [inR_no, hl]
    omega
/-- The first k inner speeds made smooth. -/
def smN (l : List Int) : Nat → List Int
  | 0 => l
  | k + 1 => (smN l k).set (k + 1) ((l.getD k 0 + l.getD (k + 1) 0 + l.getD (k + 2) 0) / 3)
theorem smN_len (l : List Int) : ∀ k, (smN l k).length = l.length
  | 0 => rfl
  | k + 1 => by simp only [smN, List.length_set]; exact smN_len l k
theorem smN_step (l : List Int) {k : Nat} (h : 0 < k) : smN l k = (smN l (k - 1)).set k ((l.getD (k - 1) 0 + l.getD k 0 + l.getD (k + 1) 0) / 3) := by
  obtain ⟨j, rfl⟩ : ∃ j, k = j + 1 := ⟨k - 1, by omega⟩
  simp [smN]
def smR (l : List Int) : List Int := if p9V l then smN l (l.length - 2) else []
theorem smR_len (l : List Int) : (smR l).length ≤ 30 := by
  unfold smR
  split
  · rename_i h
    rw [p9V_iff] at h
    rw [smN_len]
    exact h.1.2
  · simp
end Go.Proofs.Ytkjdkfoeolcnkaa
