/- Queues with groups: cabin after cabin. Condition: each group fits into an empty cabin. -/
import Derived.Test.YtkjdkfoeolcnkaaQueMath
namespace Go.Proofs.Ytkjdkfoeolcnkaa
open Go.RowKit
set_option linter.unusedVariables false
variable {sz : Nat → Int} {qk : Nat → Bool} {n : Nat} {s : Int}
/-- Who of a list of indices gets into a cabin: the place in the list is asked. -/
def inL13 (sz : Nat → Int) (qk : Nat → Bool) (s : Int) (L : List Nat) (j : Nat) : Bool := in13 (fun j => sz (gth L j)) (fun j => qk (gth L j)) L.length s j
def out13 (sz : Nat → Int) (qk : Nat → Bool) (s : Int) (L : List Nat) : List Nat := gs13 L (fun j => !inL13 sz qk s L j) L.length
/-- Who waits yet behind c cabins. -/
def lf13 (sz : Nat → Int) (qk : Nat → Bool) (n : Nat) (s : Int) : Nat → List Nat
  | 0 => List.range n
  | c + 1 => out13 sz qk s (lf13 sz qk n s c)
theorem out13_mem {L : List Nat} {i : Nat} (h : i ∈ out13 sz qk s L) : i ∈ L := by
  obtain ⟨j, hj, _, rfl⟩ := gs13_mem h
  exact gth_mem hj
theorem out13_lt {L : List Nat} (h0 : L ≠ []) (hz : ∀ i ∈ L, sz i ≤ s) : (out13 sz qk s L).length < L.length := by
  have hl : 0 < L.length := List.length_pos_iff.2 h0
  obtain ⟨k, hk, hi⟩ := in13_some (sz := fun j => sz (gth L j)) (qk := fun j => qk (gth L j)) (s := s) hl fun k hk => hz _ (gth_mem hk)
  have h1 := gs13_len L (fun j => !inL13 sz qk s L j) L.length
  have h2 : ((k : Nat) : Int) ∈ ix13 (fun j => !(!inL13 sz qk s L j)) L.length := ix13_has.2 ⟨hk, by rw [Bool.not_not]; exact hi⟩
  have h3 := List.length_pos_of_mem h2
  unfold out13
  omega
theorem out13_le (L : List Nat) : (out13 sz qk s L).length ≤ L.length := by
  have h1 := gs13_len L (fun j => !inL13 sz qk s L j) L.length
  unfold out13
  omega
theorem lf13_sub : ∀ (c : Nat) {i : Nat}, i ∈ lf13 sz qk n s c → i < n
  | 0, i, h => List.mem_range.1 h
  | c + 1, i, h => lf13_sub c (out13_mem h)
theorem lf13_down {c : Nat} : ∀ (d : Nat) {i : Nat}, i ∈ lf13 sz qk n s (c + d) → i ∈ lf13 sz qk n s c
  | 0, i, h => h
  | d + 1, i, h => lf13_down d (out13_mem h)
theorem lf13_len (hz : ∀ i, i < n → sz i ≤ s) : ∀ c, (lf13 sz qk n s c).length ≤ n - c
  | 0 => by simp [lf13]
  | c + 1 => by
    have ih := lf13_len hz c
    by_cases h0 : lf13 sz qk n s c = []
    · have h1 := out13_le (sz := sz) (qk := qk) (s := s) (lf13 sz qk n s c)
      have h2 : (lf13 sz qk n s (c + 1)).length ≤ (lf13 sz qk n s c).length := h1
      rw [h0] at h2
      simp at h2
      rw [h2]
      simp
    · have h1 : (lf13 sz qk n s (c + 1)).length < (lf13 sz qk n s c).length := out13_lt h0 fun i hi => hz i (lf13_sub c hi)
      omega
theorem lf13_end (hz : ∀ i, i < n → sz i ≤ s) : lf13 sz qk n s n = [] := by
  have := lf13_len (qk := qk) hz n
  exact List.eq_nil_of_length_eq_zero (by omega)
theorem lf13_nil {c : Nat} (h : lf13 sz qk n s c = []) : ∀ d, lf13 sz qk n s (c + d) = []
  | 0 => h
  | d + 1 => by
    have ih := lf13_nil h d
    show out13 sz qk s (lf13 sz qk n s (c + d)) = []
    rw [ih]
    rfl
/-- So many cabins come. -/
def NdIs (sz : Nat → Int) (qk : Nat → Bool) (n : Nat) (s : Int) (c : Nat) : Prop := lf13 sz qk n s c = [] ∧ ∀ j, j < c → lf13 sz qk n s j ≠ []
theorem nd13_one {a b : Nat} (h : NdIs sz qk n s a) (g : NdIs sz qk n s b) : a = b := by
  rcases Nat.lt_trichotomy a b with h1 | h1 | h1
  · exact absurd h.1 (g.2 a h1)
  · exact h1
  · exact absurd g.1 (h.2 b h1)
theorem nd13_ex (hz : ∀ i, i < n → sz i ≤ s) : ∃ c, NdIs sz qk n s c ∧ c ≤ n := by
  have aux : ∀ m k, m + k = n → (∀ j, j < k → lf13 sz qk n s j ≠ []) → ∃ c, NdIs sz qk n s c ∧ c ≤ n := by
    intro m
    induction m with
    | zero =>
      intro k hk hno
      obtain rfl : k = n := by omega
      exact ⟨_, ⟨lf13_end hz, hno⟩, Nat.le_refl _⟩
    | succ m ih =>
      intro k hk hno
      by_cases hf : lf13 sz qk n s k = []
      · exact ⟨k, ⟨hf, hno⟩, by omega⟩
      · refine ih (k + 1) (by omega) fun j hj => ?_
        by_cases e : j = k
        · rw [e]; exact hf
        · exact hno j (by omega)
  exact aux n 0 (by omega) fun j hj => by omega
noncomputable def nd13 (sz : Nat → Int) (qk : Nat → Bool) (n : Nat) (s : Int) : Nat := open Classical in if h : ∃ c, NdIs sz qk n s c then h.choose else 0
theorem nd13_eq {c : Nat} (h : NdIs sz qk n s c) : nd13 sz qk n s = c := by
  have he : ∃ c, NdIs sz qk n s c := ⟨c, h⟩
  unfold nd13
  rw [dif_pos he]
  exact nd13_one he.choose_spec h
theorem nd13_is (hz : ∀ i, i < n → sz i ≤ s) : NdIs sz qk n s (nd13 sz qk n s) ∧ nd13 sz qk n s ≤ n := by
  obtain ⟨c, hc, hl⟩ := nd13_ex (qk := qk) hz
  rw [nd13_eq hc]
  exact ⟨hc, hl⟩
/-- The cabin of the group i. -/
def CbIs (sz : Nat → Int) (qk : Nat → Bool) (n : Nat) (s : Int) (i c : Nat) : Prop := i ∈ lf13 sz qk n s c ∧ i ∉ lf13 sz qk n s (c + 1)
theorem cb13_one {i a b : Nat} (h : CbIs sz qk n s i a) (g : CbIs sz qk n s i b) : a = b := by
  rcases Nat.lt_trichotomy a b with h1 | h1 | h1
  · obtain ⟨d, rfl⟩ : ∃ d, b = a + 1 + d := ⟨b - (a + 1), by omega⟩
    exact absurd (lf13_down d g.1) h.2
  · exact h1
  · obtain ⟨d, rfl⟩ : ∃ d, a = b + 1 + d := ⟨a - (b + 1), by omega⟩
    exact absurd (lf13_down d h.1) g.2
theorem cb13_ex {i : Nat} (hz : ∀ i, i < n → sz i ≤ s) (hi : i < n) : ∃ c, CbIs sz qk n s i c ∧ c < nd13 sz qk n s := by
  have hnd := (nd13_is (qk := qk) hz).1
  generalize nd13 sz qk n s = N at *
  have aux : ∀ m k, m + k = N → i ∈ lf13 sz qk n s k → ∃ c, CbIs sz qk n s i c ∧ c < N := by
    intro m
    induction m with
    | zero =>
      intro k hk hin
      obtain rfl : k = N := by omega
      rw [hnd.1] at hin
      simp at hin
    | succ m ih =>
      intro k hk hin
      by_cases hf : i ∈ lf13 sz qk n s (k + 1)
      · exact ih (k + 1) (by omega) hf
      · exact ⟨k, ⟨hin, hf⟩, by omega⟩
  exact aux N 0 (by omega) (List.mem_range.2 hi)
noncomputable def cb13 (sz : Nat → Int) (qk : Nat → Bool) (n : Nat) (s : Int) (i : Nat) : Nat := open Classical in if h : ∃ c, CbIs sz qk n s i c then h.choose else 0
theorem cb13_eq {i c : Nat} (h : CbIs sz qk n s i c) : cb13 sz qk n s i = c := by
  have he : ∃ c, CbIs sz qk n s i c := ⟨c, h⟩
  unfold cb13
  rw [dif_pos he]
  exact cb13_one he.choose_spec h
theorem cb13_is {i : Nat} (hz : ∀ i, i < n → sz i ≤ s) (hi : i < n) : CbIs sz qk n s i (cb13 sz qk n s i) ∧ cb13 sz qk n s i < nd13 sz qk n s := by
  obtain ⟨c, hc, hl⟩ := cb13_ex (qk := qk) hz hi
  rw [cb13_eq hc]
  exact ⟨hc, hl⟩
end Go.Proofs.Ytkjdkfoeolcnkaa
