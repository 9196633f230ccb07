/- Queues with groups: the row of the groups' cabins, filled cabin by cabin, and the number of cabins as the greatest of them. Condition: each group fits into an empty cabin. -/
import Derived.Test.YtkjdkfoeolcnkaaQuG
namespace Go.Proofs.Ytkjdkfoeolcnkaa
open Go.RowKit
set_option linter.unusedVariables false
/-- The cabins of the groups, those that wait behind c cabins at 0. -/
noncomputable def ocF (l : List Gro) (s : Int) (c i : Nat) : Int := open Classical in if i ∈ lfQ l s c then 0 else (cb13 (szQ l) (qkQ l) l.length s i : Int)
noncomputable def ocL (l : List Gro) (s : Int) (c : Nat) : List Int := (List.range l.length).map (ocF l s c)
theorem ocL_len (l : List Gro) (s : Int) (c : Nat) : (ocL l s c).length = l.length := by simp [ocL]
/-- The same, j of those that wait seen. -/
noncomputable def ojL (l : List Gro) (s : Int) (c : Nat) : Nat → List Int
  | 0 => ocL l s c
  | j + 1 => if inL13 (szQ l) (qkQ l) s (lfQ l s c) j then (ojL l s c j).set (gth (lfQ l s c) j) (c : Int) else ojL l s c j
theorem ojL_len (l : List Gro) (s : Int) (c : Nat) : ∀ j, (ojL l s c j).length = l.length
  | 0 => ocL_len l s c
  | j + 1 => by
    have ih := ojL_len l s c j
    unfold ojL
    split
    · rw [List.length_set]; exact ih
    · exact ih
theorem ojL_yes {l : List Gro} {s : Int} {c j : Nat} (h : inL13 (szQ l) (qkQ l) s (lfQ l s c) j = true) : ojL l s c (j + 1) = (ojL l s c j).set (gth (lfQ l s c) j) (c : Int) := by rw [ojL, if_pos h]
theorem ojL_no {l : List Gro} {s : Int} {c j : Nat} (h : inL13 (szQ l) (qkQ l) s (lfQ l s c) j = false) : ojL l s c (j + 1) = ojL l s c j := by rw [ojL, if_neg (by rw [h]; decide)]
theorem ojL_at {l : List Gro} {s : Int} {c : Nat} {i : Nat} (hi : i < l.length) : ∀ j, j ≤ (lfQ l s c).length → ((∃ p, p < j ∧ inL13 (szQ l) (qkQ l) s (lfQ l s c) p = true ∧ gth (lfQ l s c) p = i) → (ojL l s c j).getD i 0 = (c : Int)) ∧ ((∀ p, p < j → inL13 (szQ l) (qkQ l) s (lfQ l s c) p = true → gth (lfQ l s c) p ≠ i) → (ojL l s c j).getD i 0 = ocF l s c i)
  | 0, _ => ⟨by rintro ⟨p, h, _⟩; exact absurd h (Nat.not_lt_zero p), fun _ => by unfold ojL ocL; simp [List.getD, hi]⟩
  | j + 1, hj => by
    obtain ⟨ih1, ih2⟩ := ojL_at (s := s) (c := c) hi j (by omega)
    have hl := ojL_len l s c j
    have hset : ∀ (g : Nat) (x : Int), ((ojL l s c j).set g x).getD i 0 = if g = i then x else (ojL l s c j).getD i 0 := fun g x => by
      by_cases e : g = i
      · subst e; rw [if_pos rfl]; simp [List.getD, hl, hi]
      · rw [if_neg e]; simp [List.getD, e]
    cases h : inL13 (szQ l) (qkQ l) s (lfQ l s c) j with
    | true =>
      rw [ojL_yes h, hset]
      by_cases e : gth (lfQ l s c) j = i
      · rw [if_pos e]
        exact ⟨fun _ => rfl, fun hn => absurd e (hn j (by omega) h)⟩
      · rw [if_neg e]
        refine ⟨?_, fun hn => ih2 fun p hp => hn p (by omega)⟩
        rintro ⟨p, h1, h2, h3⟩
        have ep : p ≠ j := fun ep => e (by rw [← ep]; exact h3)
        exact ih1 ⟨p, by omega, h2, h3⟩
    | false =>
      rw [ojL_no h]
      refine ⟨?_, fun hn => ih2 fun p hp => hn p (by omega)⟩
      rintro ⟨p, h1, h2, h3⟩
      have ep : p ≠ j := fun ep => by rw [ep, h] at h2; cases h2
      exact ih1 ⟨p, by omega, h2, h3⟩
theorem ojL_end {l : List Gro} {s : Int} (ha : asQ l s = true) (c : Nat) : ojL l s c (lfQ l s c).length = ocL l s (c + 1) := by
  have hD : ∀ (a : List Int) (i : Nat) (h : i < a.length), a[i] = a.getD i 0 := fun a i h => by simp [List.getD, h]
  refine List.ext_getElem (by rw [ojL_len, ocL_len]) fun i h1 h2 => ?_
  have hi : i < l.length := by rw [ojL_len] at h1; exact h1
  rw [hD _ _ h1]
  obtain ⟨g1, g2⟩ := ojL_at (l := l) (s := s) (c := c) hi (lfQ l s c).length (Nat.le_refl _)
  have e2 : (ocL l s (c + 1))[i] = ocF l s (c + 1) i := by simp [ocL]
  rw [e2]
  have hnd : (lfQ l s c).Nodup := lf13_nodup c
  have hout : ∀ i, i ∈ lfQ l s (c + 1) ↔ ∃ p, p < (lfQ l s c).length ∧ inL13 (szQ l) (qkQ l) s (lfQ l s c) p = false ∧ gth (lfQ l s c) p = i := fun i => by
    show i ∈ out13 (szQ l) (qkQ l) s (lfQ l s c) ↔ _
    unfold out13 gs13
    rw [List.mem_map]
    constructor
    · rintro ⟨p, hp, rfl⟩
      rw [List.mem_filter, List.mem_range] at hp
      exact ⟨p, hp.1, by simpa using hp.2, rfl⟩
    · rintro ⟨p, h1, h2, rfl⟩
      exact ⟨p, by rw [List.mem_filter, List.mem_range, h2]; exact ⟨h1, rfl⟩, rfl⟩
  by_cases hin : ∃ p, p < (lfQ l s c).length ∧ inL13 (szQ l) (qkQ l) s (lfQ l s c) p = true ∧ gth (lfQ l s c) p = i
  · rw [g1 hin]
    obtain ⟨p, hp, hy, rfl⟩ := hin
    have hno : gth (lfQ l s c) p ∉ lfQ l s (c + 1) := fun h => by
      obtain ⟨q, hq, hn, e⟩ := (hout _).1 h
      have := gth_inj13 hnd hq hp e
      subst this
      rw [hy] at hn; cases hn
    unfold ocF
    have e9 : cb13 (szQ l) (qkQ l) l.length s (gth (lfQ l s c) p) = c := cb13_eq ⟨gth_mem hp, hno⟩
    rw [if_neg hno, e9]
  · rw [g2 fun p hp hy e => hin ⟨p, hp, hy, e⟩]
    unfold ocF
    by_cases hw : i ∈ lfQ l s c
    · have hw2 : i ∈ lfQ l s (c + 1) := by
        obtain ⟨p, hp, e⟩ := List.getElem_of_mem hw
        refine (hout i).2 ⟨p, hp, ?_, by rw [gth_get hp]; exact e⟩
        cases hc : inL13 (szQ l) (qkQ l) s (lfQ l s c) p with
        | false => rfl
        | true => exact absurd ⟨p, hp, hc, by rw [gth_get hp]; exact e⟩ hin
      rw [if_pos hw, if_pos hw2]
    · have hw2 : i ∉ lfQ l s (c + 1) := fun h => hw (out13_mem (show i ∈ out13 (szQ l) (qkQ l) s (lfQ l s c) from h))
      rw [if_neg hw, if_neg hw2]
theorem ocL_zero (l : List Gro) (s : Int) : ocL l s 0 = List.replicate l.length 0 := by
  refine List.ext_getElem (by simp [ocL]) fun i h1 h2 => ?_
  have hi : i < l.length := by rw [ocL_len] at h1; exact h1
  have : i ∈ lfQ l s 0 := List.mem_range.2 hi
  simp [ocL, ocF, this]
/-- The cabins of all groups. -/
noncomputable def cbL (l : List Gro) (s : Int) : List Int := (List.range l.length).map fun i => (cb13 (szQ l) (qkQ l) l.length s i : Int)
theorem cbL_len (l : List Gro) (s : Int) : (cbL l s).length = l.length := by simp [cbL]
theorem ocL_last {l : List Gro} {s : Int} {c : Nat} (h : lfQ l s c = []) : ocL l s c = cbL l s := by
  unfold ocL cbL
  refine List.map_congr_left fun i _ => ?_
  unfold ocF
  rw [h, if_neg (by simp)]
theorem cbL_at {l : List Gro} {s : Int} {i : Nat} (h : i < l.length) : (cbL l s).getD i 0 = (cb13 (szQ l) (qkQ l) l.length s i : Int) := by simp [cbL, List.getD, h]
/-- The greatest of the cabins' numbers, and one more. -/
def mx13 (f : Nat → Int) : Nat → Int
  | 0 => 0
  | k + 1 => if f k + 1 < mx13 f k then mx13 f k else f k + 1
theorem mx13_le {f : Nat → Int} {M : Int} (hM : 0 ≤ M) : ∀ k, (∀ i, i < k → f i + 1 ≤ M) → mx13 f k ≤ M
  | 0, _ => hM
  | k + 1, h => by
    have ih := mx13_le hM k fun i hi => h i (by omega)
    have := h k (by omega)
    rw [mx13]
    split <;> omega
theorem mx13_ge {f : Nat → Int} : ∀ k i, i < k → f i + 1 ≤ mx13 f k
  | k + 1, i, h => by
    rw [mx13]
    by_cases e : i = k
    · subst e; split <;> omega
    · have ih := mx13_ge (f := f) k i (by omega)
      split <;> omega
theorem mx13_nonneg {f : Nat → Int} (h : ∀ i, 0 ≤ f i) : ∀ k, 0 ≤ mx13 f k
  | 0 => Int.le_refl _
  | k + 1 => by
    have ih := mx13_nonneg h k
    have := h k
    rw [mx13]
    split <;> omega
theorem mx13_nd {l : List Gro} {s : Int} (ha : asQ l s = true) : mx13 (fun i => (cb13 (szQ l) (qkQ l) l.length s i : Int)) l.length = ndV l s := by
  have hV : ndV l s = (nd13 (szQ l) (qkQ l) l.length s : Int) := by unfold ndV; rw [ha]; rfl
  have hfit := as_fit ha
  have h1 : mx13 (fun i => (cb13 (szQ l) (qkQ l) l.length s i : Int)) l.length ≤ (nd13 (szQ l) (qkQ l) l.length s : Int) := mx13_le (by omega) _ fun i hi => by
    have := (cb13_is (qk := qkQ l) hfit hi).2
    show (cb13 (szQ l) (qkQ l) l.length s i : Int) + 1 ≤ _
    omega
  rw [hV]
  by_cases h0 : nd13 (szQ l) (qkQ l) l.length s = 0
  · have := mx13_nonneg (f := fun i => (cb13 (szQ l) (qkQ l) l.length s i : Int)) (fun i => by show (0 : Int) ≤ (cb13 (szQ l) (qkQ l) l.length s i : Int); omega) l.length
    omega
  · have hne := (nd13_is (qk := qkQ l) hfit).1.2 (nd13 (szQ l) (qkQ l) l.length s - 1) (by omega)
    generalize hN : nd13 (szQ l) (qkQ l) l.length s = N at *
    have hsub := fun {i} => lf13_sub (sz := szQ l) (qk := qkQ l) (n := l.length) (s := s) (N - 1) (i := i)
    have hsome : ∃ i, i ∈ who13 (szQ l) (qkQ l) l.length s (N - 1) := by
      obtain ⟨j, hj, hin⟩ := in13_some (sz := fun j => szQ l (gth (lf13 (szQ l) (qkQ l) l.length s (N - 1)) j)) (qk := fun j => qkQ l (gth (lf13 (szQ l) (qkQ l) l.length s (N - 1)) j)) (s := s) (List.length_pos_iff.2 hne) fun j hj => hfit _ (hsub (gth_mem hj))
      refine ⟨gth (lf13 (szQ l) (qkQ l) l.length s (N - 1)) j, ?_⟩
      unfold who13 gs13
      exact List.mem_map.2 ⟨j, by rw [List.mem_filter, List.mem_range]; exact ⟨hj, hin⟩, rfl⟩
    obtain ⟨i, hi⟩ := hsome
    obtain ⟨hil, hc⟩ := (who13_iff (qk := qkQ l) hfit).1 hi
    have h2 := mx13_ge (f := fun i => (cb13 (szQ l) (qkQ l) l.length s i : Int)) l.length i hil
    have h3 : (cb13 (szQ l) (qkQ l) l.length s i : Int) + 1 ≤ mx13 (fun i => (cb13 (szQ l) (qkQ l) l.length s i : Int)) l.length := h2
    rw [hc] at h3
    omega
/-- The groups that wait, as a list of their own, fill a cabin alike. -/
def smQ (l : List Gro) (L : List Nat) : List Gro := L.map (gth l)
theorem smQ_len (l : List Gro) (L : List Nat) : (smQ l L).length = L.length := by simp [smQ]
theorem smQ_sz {l : List Gro} {L : List Nat} {j : Nat} (h : j < L.length) : szQ (smQ l L) j = szQ l (gth L j) ∧ qkQ (smQ l L) j = qkQ l (gth L j) := by
  unfold szQ qkQ smQ
  rw [gth_map h]; exact ⟨rfl, rfl⟩
theorem smQ_in {l : List Gro} {s : Int} {L : List Nat} {j : Nat} (h : j < L.length) : in13 (szQ (smQ l L)) (qkQ (smQ l L)) (smQ l L).length s j = inL13 (szQ l) (qkQ l) s L j := by
  rw [smQ_len]
  exact in13_ext (fun k hk => smQ_sz hk) h
theorem smQ_has {l : List Gro} {s : Int} {L : List Nat} {j : Nat} (h : j < L.length) : (ix13 (in13 (szQ (smQ l L)) (qkQ (smQ l L)) (smQ l L).length s) (smQ l L).length).contains (j : Int) = inL13 (szQ l) (qkQ l) s L j := by
  rw [Bool.eq_iff_iff, List.contains_iff_mem, ix13_has, smQ_len]
  have e := smQ_in (l := l) (s := s) h
  rw [smQ_len] at e
  rw [e]
  exact ⟨fun h => h.2, fun g => ⟨h, g⟩⟩
theorem smQ_take {l : List Gro} {L : List Nat} {j : Nat} (h : j < L.length) : smQ l (L.take (j + 1)) = smQ l (L.take j) ++ [gth l (gth L j)] := by
  unfold smQ
  rw [take_gth L j h, List.map_append]; rfl
end Go.Proofs.Ytkjdkfoeolcnkaa
