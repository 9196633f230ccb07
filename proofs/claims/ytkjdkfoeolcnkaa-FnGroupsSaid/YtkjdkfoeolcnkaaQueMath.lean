/- Queues with groups: who gets into the next cabin, and what is left. No condition. -/
import Derived.Test.YtkjdkfoeolcnkaaGS
namespace Go.Proofs.Ytkjdkfoeolcnkaa
open Go.RowKit
set_option linter.unusedVariables false
/-- The seats that are free ahead of group k of the lane b. -/
def sa13 (b : Bool) (sz : Nat → Int) (qk : Nat → Bool) (s : Int) : Nat → Int
  | 0 => s
  | k + 1 => if (qk k == b) && decide (sz k ≤ sa13 b sz qk s k) then sa13 b sz qk s k - sz k else sa13 b sz qk s k
def tk13 (b : Bool) (sz : Nat → Int) (qk : Nat → Bool) (s : Int) (k : Nat) : Bool := (qk k == b) && decide (sz k ≤ sa13 b sz qk s k)
theorem sa13_yes {b : Bool} {sz : Nat → Int} {qk : Nat → Bool} {s : Int} {k : Nat} (h : tk13 b sz qk s k = true) : sa13 b sz qk s (k + 1) = sa13 b sz qk s k - sz k := by
  unfold tk13 at h; rw [sa13, if_pos h]
theorem sa13_no {b : Bool} {sz : Nat → Int} {qk : Nat → Bool} {s : Int} {k : Nat} (h : tk13 b sz qk s k = false) : sa13 b sz qk s (k + 1) = sa13 b sz qk s k := by
  unfold tk13 at h; rw [sa13, if_neg (by rw [h]; decide)]
theorem tk13_lane {b : Bool} {sz : Nat → Int} {qk : Nat → Bool} {s : Int} {k : Nat} (h : tk13 b sz qk s k = true) : qk k = b ∧ sz k ≤ sa13 b sz qk s k := by
  unfold tk13 at h
  rw [Bool.and_eq_true, decide_eq_true_eq, beq_iff_eq] at h
  exact h
theorem sa13_nonneg {b : Bool} {sz : Nat → Int} {qk : Nat → Bool} {s : Int} (h0 : 0 ≤ s) : ∀ k, 0 ≤ sa13 b sz qk s k
  | 0 => h0
  | k + 1 => by
    have ih := sa13_nonneg (b := b) (sz := sz) (qk := qk) h0 k
    cases h : tk13 b sz qk s k with
    | true => rw [sa13_yes h]; have := (tk13_lane h).2; omega
    | false => rw [sa13_no h]; exact ih
theorem sa13_le {b : Bool} {sz : Nat → Int} {qk : Nat → Bool} {s : Int} (hz : ∀ k, 0 ≤ sz k) : ∀ k, sa13 b sz qk s k ≤ s
  | 0 => Int.le_refl _
  | k + 1 => by
    have ih := sa13_le (b := b) (sz := sz) (qk := qk) (s := s) hz k
    have := hz k
    cases h : tk13 b sz qk s k with
    | true => rw [sa13_yes h]; omega
    | false => rw [sa13_no h]; exact ih
/-- Nobody of the lane ahead: nothing is taken. -/
theorem sa13_none {b : Bool} {sz : Nat → Int} {qk : Nat → Bool} {s : Int} : ∀ k, (∀ j, j < k → qk j ≠ b) → sa13 b sz qk s k = s
  | 0, _ => rfl
  | k + 1, h => by
    have hn : tk13 b sz qk s k = false := by
      cases e : tk13 b sz qk s k with
      | true => exact absurd (tk13_lane e).1 (h k (by omega))
      | false => rfl
    rw [sa13_no hn]
    exact sa13_none k fun j hj => h j (by omega)
/-- The sum of what a set of indices below k has. -/
def su13 (p : Nat → Bool) (sz : Nat → Int) : Nat → Int
  | 0 => 0
  | k + 1 => su13 p sz k + (if p k then sz k else 0)
theorem su13_yes {p : Nat → Bool} {sz : Nat → Int} {k : Nat} (h : p k = true) : su13 p sz (k + 1) = su13 p sz k + sz k := by rw [su13, if_pos h]
theorem su13_no {p : Nat → Bool} {sz : Nat → Int} {k : Nat} (h : p k = false) : su13 p sz (k + 1) = su13 p sz k := by rw [su13, if_neg (by rw [h]; decide), Int.add_zero]
theorem su13_nonneg {p : Nat → Bool} {sz : Nat → Int} (hz : ∀ k, 0 ≤ sz k) : ∀ k, 0 ≤ su13 p sz k
  | 0 => by simp [su13]
  | k + 1 => by
    have := su13_nonneg (p := p) hz k
    have := hz k
    rw [su13]
    split <;> omega
theorem sa13_sum {b : Bool} {sz : Nat → Int} {qk : Nat → Bool} {s : Int} : ∀ k, sa13 b sz qk s k = s - su13 (tk13 b sz qk s) sz k
  | 0 => by simp [sa13, su13]
  | k + 1 => by
    have ih := sa13_sum (b := b) (sz := sz) (qk := qk) (s := s) k
    cases h : tk13 b sz qk s k with
    | true => rw [sa13_yes h, su13_yes h, ih]; omega
    | false => rw [sa13_no h, su13_no h, ih]
/-- Who of n gets into the next cabin. -/
def in13 (sz : Nat → Int) (qk : Nat → Bool) (n : Nat) (s : Int) (k : Nat) : Bool := tk13 true sz qk s k || tk13 false sz qk (sa13 true sz qk s n) k
theorem in13_sum {sz : Nat → Int} {qk : Nat → Bool} {n : Nat} {s : Int} : ∀ k, su13 (in13 sz qk n s) sz k = su13 (tk13 true sz qk s) sz k + su13 (tk13 false sz qk (sa13 true sz qk s n)) sz k
  | 0 => by simp [su13]
  | k + 1 => by
    have ih := in13_sum (sz := sz) (qk := qk) (n := n) (s := s) k
    cases h1 : tk13 true sz qk s k with
    | true =>
      have h2 : tk13 false sz qk (sa13 true sz qk s n) k = false := by
        cases e : tk13 false sz qk (sa13 true sz qk s n) k with
        | true => have := (tk13_lane h1).1; rw [(tk13_lane e).1] at this; cases this
        | false => rfl
      have h3 : in13 sz qk n s k = true := by unfold in13; rw [h1]; rfl
      rw [su13_yes h3, su13_yes h1, su13_no h2, ih]; omega
    | false =>
      cases h2 : tk13 false sz qk (sa13 true sz qk s n) k with
      | true =>
        have h3 : in13 sz qk n s k = true := by unfold in13; rw [h1, h2]; rfl
        rw [su13_yes h3, su13_no h1, su13_yes h2, ih]; omega
      | false =>
        have h3 : in13 sz qk n s k = false := by unfold in13; rw [h1, h2]; rfl
        rw [su13_no h3, su13_no h1, su13_no h2, ih]
/-- No more people get in than there are seats. -/
theorem in13_le {sz : Nat → Int} {qk : Nat → Bool} {n : Nat} {s : Int} (h0 : 0 ≤ s) : su13 (in13 sz qk n s) sz n ≤ s := by
  have h1 := sa13_sum (b := true) (sz := sz) (qk := qk) (s := s) n
  have h2 := sa13_sum (b := false) (sz := sz) (qk := qk) (s := sa13 true sz qk s n) n
  have h3 := sa13_nonneg (b := false) (sz := sz) (qk := qk) (sa13_nonneg (b := true) (sz := sz) (qk := qk) h0 n) n
  rw [in13_sum]
  omega
theorem first_quick13 {qk : Nat → Bool} : ∀ n, (∃ k, k < n ∧ qk k = true ∧ ∀ j, j < k → qk j ≠ true) ∨ (∀ j, j < n → qk j = false)
  | 0 => .inr fun j h => by omega
  | n + 1 => by
    rcases first_quick13 (qk := qk) n with ⟨k, h1, h2, h3⟩ | h
    · exact .inl ⟨k, by omega, h2, h3⟩
    · cases e : qk n with
      | true => exact .inl ⟨n, by omega, e, fun j hj => by rw [h j hj]; decide⟩
      | false =>
        refine .inr fun j hj => ?_
        by_cases ej : j = n
        · rw [ej]; exact e
        · exact h j (by omega)
/-- Where each group fits into an empty cabin, somebody gets in. -/
theorem in13_some {sz : Nat → Int} {qk : Nat → Bool} {n : Nat} {s : Int} (hn : 0 < n) (hz : ∀ k, k < n → sz k ≤ s) : ∃ k, k < n ∧ in13 sz qk n s k = true := by
  rcases first_quick13 (qk := qk) n with ⟨k, h1, h2, h3⟩ | h
  · refine ⟨k, h1, ?_⟩
    have h4 := sa13_none (b := true) (sz := sz) (qk := qk) (s := s) k h3
    unfold in13 tk13
    rw [h4, h2, decide_eq_true (hz k h1)]
    rfl
  · refine ⟨0, hn, ?_⟩
    have h4 := sa13_none (b := true) (sz := sz) (qk := qk) (s := s) n fun j hj => by rw [h j hj]; decide
    have h5 : tk13 false sz qk s 0 = true := by
      unfold tk13
      rw [h 0 hn, show sa13 false sz qk s 0 = s from rfl, decide_eq_true (hz 0 hn)]
      rfl
    unfold in13
    rw [h4, h5, Bool.or_true]
/-- The indices below n that a test holds for. -/
def ix13 (p : Nat → Bool) (n : Nat) : List Int := ((List.range n).filter p).map (fun i : Nat => (i : Int))
theorem ix13_yes {p : Nat → Bool} {k : Nat} (h : p k = true) : ix13 p (k + 1) = ix13 p k ++ [(k : Int)] := by
  unfold ix13; rw [List.range_succ, List.filter_append, List.map_append]; simp only [List.filter_cons, h, List.filter_nil]; rfl
theorem ix13_no {p : Nat → Bool} {k : Nat} (h : p k = false) : ix13 p (k + 1) = ix13 p k := by
  unfold ix13; rw [List.range_succ, List.filter_append, List.map_append]; simp only [List.filter_cons, h, List.filter_nil]; simp
theorem ix13_len (p : Nat → Bool) (n : Nat) : (ix13 p n).length ≤ n := by
  unfold ix13; rw [List.length_map]; exact Nat.le_trans (List.length_filter_le _ _) (by simp)
theorem ix13_mem {p : Nat → Bool} {n : Nat} {x : Int} : x ∈ ix13 p n ↔ ∃ i : Nat, x = (i : Int) ∧ i < n ∧ p i = true := by
  unfold ix13
  rw [List.mem_map]
  constructor
  · rintro ⟨i, hi, rfl⟩
    rw [List.mem_filter, List.mem_range] at hi
    exact ⟨i, rfl, hi⟩
  · rintro ⟨i, rfl, h⟩
    exact ⟨i, by rw [List.mem_filter, List.mem_range]; exact h, rfl⟩
theorem ix13_has {p : Nat → Bool} {n k : Nat} : ((k : Int) ∈ ix13 p n) ↔ (k < n ∧ p k = true) := by
  rw [ix13_mem]
  constructor
  · rintro ⟨i, e, h⟩
    obtain rfl : k = i := by omega
    exact h
  · exact fun h => ⟨k, rfl, h⟩
theorem ix13_ext {p q : Nat → Bool} : ∀ n, (∀ k, k < n → p k = q k) → ix13 p n = ix13 q n
  | 0, _ => rfl
  | n + 1, h => by
    have ih := ix13_ext (p := p) (q := q) n fun k hk => h k (by omega)
    cases e : p n with
    | true => rw [ix13_yes e, ix13_yes (by rw [← h n (by omega)]; exact e), ih]
    | false => rw [ix13_no e, ix13_no (by rw [← h n (by omega)]; exact e), ih]
/-- The list falls in two parts at i. -/
theorem ix13_split (p : Nat → Bool) (i : Nat) : ∀ m, ∃ B, ix13 p (i + 1 + m) = ix13 p (i + 1) ++ B ∧ (∀ x ∈ B, (i : Int) < x) ∧ ∀ q : Nat → Bool, (∀ k, i < k → q k = p k) → ix13 q (i + 1 + m) = ix13 q (i + 1) ++ B
  | 0 => ⟨[], by simp, by simp, fun q _ => by simp⟩
  | m + 1 => by
    obtain ⟨B, h1, h2, h3⟩ := ix13_split p i m
    have e1 : i + 1 + (m + 1) = (i + 1 + m) + 1 := by omega
    cases e : p (i + 1 + m) with
    | true =>
      refine ⟨B ++ [((i + 1 + m : Nat) : Int)], by rw [e1, ix13_yes e, h1, List.append_assoc], fun x hx => ?_, fun q hq => ?_⟩
      · rcases List.mem_append.1 hx with hx | hx
        · exact h2 x hx
        · rw [List.mem_singleton] at hx; omega
      · rw [e1, ix13_yes (by rw [hq _ (by omega)]; exact e), h3 q hq, List.append_assoc]
    | false =>
      exact ⟨B, by rw [e1, ix13_no e, h1], h2, fun q hq => by rw [e1, ix13_no (by rw [hq _ (by omega)]; exact e), h3 q hq]⟩
/-- A new index laid into its place. -/
theorem ix13_put {p : Nat → Bool} {n i k : Nat} (hi : i < n) (hp : p i = false) (hk : k ≤ (ix13 p n).length) (hlo : ∀ j, j < k → gth (ix13 p n) j < (i : Int)) (hhi : k < (ix13 p n).length → (i : Int) ≤ gth (ix13 p n) k) :
    (ix13 p n).take k ++ [(i : Int)] ++ (ix13 p n).drop k = ix13 (fun j => p j || j == i) n := by
  obtain ⟨m, rfl⟩ : ∃ m, n = i + 1 + m := ⟨n - (i + 1), by omega⟩
  obtain ⟨B, h1, h2, h3⟩ := ix13_split p i m
  have h4 := h3 (fun j => p j || j == i) fun k hk => by
    have : (k == i) = false := by simp; omega
    simp [this]
  have h5 : ix13 (fun j => p j || j == i) (i + 1) = ix13 p i ++ [(i : Int)] := by
    rw [ix13_yes (by simp)]
    congr 1
    exact ix13_ext i fun k hk => by
      have : (k == i) = false := by simp; omega
      simp [this]
  rw [h4, h5]
  rw [ix13_no hp] at h1
  rw [h1] at hk hlo hhi ⊢
  have hA : ∀ x ∈ ix13 p i, x < (i : Int) := fun x hx => by
    obtain ⟨j, rfl, hj, _⟩ := ix13_mem.1 hx
    omega
  generalize ix13 p i = A at *
  obtain rfl : k = A.length := by
    rcases Nat.lt_trichotomy k A.length with h | h | h
    · have e1 := hhi (by rw [List.length_append]; omega)
      rw [gth_append_left h] at e1
      have e2 := hA _ (gth_mem h)
      omega
    · exact h
    · have e1 := hlo A.length h
      have hl : A.length < (A ++ B).length := by rw [List.length_append] at *; omega
      have e2 : gth (A ++ B) A.length ∈ B := by
        rw [gth_get hl, List.getElem_append_right (Nat.le_refl _)]
        exact List.getElem_mem _
      have e3 := h2 _ e2
      omega
  rw [List.take_left, List.drop_left]
/-- The groups that a test holds for. -/
def gs13 {α : Type} [Inhabited α] (l : List α) (p : Nat → Bool) (n : Nat) : List α := ((List.range n).filter p).map (gth l)
theorem gs13_yes {α : Type} [Inhabited α] {l : List α} {p : Nat → Bool} {k : Nat} (h : p k = true) : gs13 l p (k + 1) = gs13 l p k ++ [gth l k] := by
  unfold gs13; rw [List.range_succ, List.filter_append, List.map_append]; simp only [List.filter_cons, h, List.filter_nil]; rfl
theorem gs13_no {α : Type} [Inhabited α] {l : List α} {p : Nat → Bool} {k : Nat} (h : p k = false) : gs13 l p (k + 1) = gs13 l p k := by
  unfold gs13; rw [List.range_succ, List.filter_append, List.map_append]; simp only [List.filter_cons, h, List.filter_nil]; simp
theorem gs13_len {α : Type} [Inhabited α] (l : List α) (p : Nat → Bool) (n : Nat) : (gs13 l p n).length + (ix13 (fun k => !p k) n).length = n := by
  induction n with
  | zero => rfl
  | succ n ih =>
    cases h : p n with
    | true => rw [gs13_yes h, ix13_no (by rw [h]; rfl), List.length_append]; simp; omega
    | false => rw [gs13_no h, ix13_yes (by rw [h]; rfl), List.length_append]; simp; omega
theorem gs13_mem {α : Type} [Inhabited α] {l : List α} {p : Nat → Bool} {n : Nat} {x : α} (h : x ∈ gs13 l p n) : ∃ i, i < n ∧ p i = true ∧ x = gth l i := by
  unfold gs13 at h
  obtain ⟨i, hi, rfl⟩ := List.mem_map.1 h
  rw [List.mem_filter, List.mem_range] at hi
  exact ⟨i, hi.1, hi.2, rfl⟩
end Go.Proofs.Ytkjdkfoeolcnkaa
