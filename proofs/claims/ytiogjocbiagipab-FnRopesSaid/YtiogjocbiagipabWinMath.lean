/- Windows of damages, in plain words. No condition. -/
import Derived.Test.YtiogjocbiagipabDmgMath
namespace Go.Proofs.Ytiogjocbiagipab
open Go.RowKit
set_option linter.unusedVariables false
/-- The wires of those that f takes. -/
def sumW (f : Dmg → Bool) : List Dmg → Int
  | [] => 0
  | x :: r => (if f x then x.w else 0) + sumW f r
theorem sumW_append (f : Dmg → Bool) : ∀ (l r : List Dmg), sumW f (l ++ r) = sumW f l + sumW f r
  | [], r => by simp [sumW]
  | x :: l, r => by rw [List.cons_append, sumW, sumW, sumW_append f l r]; omega
theorem sumW_take (f : Dmg → Bool) (l : List Dmg) (k : Nat) (h : k < l.length) : sumW f (l.take (k + 1)) = sumW f (l.take k) + (if f (gth l k) then (gth l k).w else 0) := by
  rw [take_gth l k h, sumW_append]
  simp [sumW]
/-- Damages as the windows need them: in order of their places. -/
structure Srt (l : List Dmg) : Prop where
  len : l.length ≤ 15
  bd : ∀ i, i < l.length → 0 ≤ (gth l i).a ∧ (gth l i).a ≤ 3000 ∧ 1 ≤ (gth l i).w ∧ (gth l i).w ≤ 40
  mono : ∀ i j, i ≤ j → j < l.length → (gth l i).a ≤ (gth l j).a
theorem Good.srt {k : RK} {l : List Dmg} (h : Good k l) : Srt l := by
  have hk := (isK_iff k).1 h.kind
  refine ⟨h.len, fun i hi => ?_, ?_⟩
  · obtain ⟨h1, _, h3, _⟩ := h.ok i hi
    rw [inR_iff] at h1 h3
    omega
  · intro i j hij
    induction j with
    | zero => intro hj; obtain rfl : i = 0 := by omega
              exact Int.le_refl _
    | succ j ih =>
      intro hj
      by_cases e : i = j + 1
      · subst e; exact Int.le_refl _
      · have h1 := ih (by omega) (by omega)
        have h2 := (h.ok (j + 1) hj).2.2.2 (by omega)
        rw [bef_iff] at h2
        simp only [Nat.add_sub_cancel] at h2
        omega
theorem sumW_bd {l : List Dmg} (h : Srt l) (f : Dmg → Bool) : ∀ k, k ≤ l.length → 0 ≤ sumW f (l.take k) ∧ sumW f (l.take k) ≤ 40 * (k : Int)
  | 0, _ => by simp [sumW]
  | k + 1, hk => by
    have ih := sumW_bd h f k (by omega)
    rw [sumW_take f l k (by omega)]
    have := h.bd k (by omega)
    split <;> omega
theorem sumW_all {l : List Dmg} (f : Dmg → Bool) : sumW f (l.take l.length) = sumW f l := by rw [List.take_length]
/-- In the window. -/
def inW (fr len : Int) (d : Dmg) : Bool := inR d.a fr (fr + len - 1)
def ofS (st : Int) (d : Dmg) : Bool := decide (st < 0) || d.s == st
def win (fr len st : Int) (d : Dmg) : Bool := inW fr len d && ofS st d
/-- The broken wires of a window. -/
def brk (l : List Dmg) (fr len st : Int) : Int := sumW (win fr len st) l
theorem brk_bd {l : List Dmg} (h : Srt l) (fr len st : Int) : 0 ≤ brk l fr len st ∧ brk l fr len st ≤ 600 := by
  have := sumW_bd h (win fr len st) l.length (Nat.le_refl _)
  rw [sumW_all] at this
  have := h.len
  unfold brk
  omega
/-- The worst window among those that begin with the first k. -/
def mst (l : List Dmg) (len st : Int) : Nat → Int × Int
  | 0 => (0, 0)
  | k + 1 => if (mst l len st k).2 < brk l (gth l k).a len st then ((gth l k).a, brk l (gth l k).a len st) else mst l len st k
theorem mst_yes {l : List Dmg} {len st : Int} {k : Nat} (h : (mst l len st k).2 < brk l (gth l k).a len st) : mst l len st (k + 1) = ((gth l k).a, brk l (gth l k).a len st) := by rw [mst, if_pos h]
theorem mst_no {l : List Dmg} {len st : Int} {k : Nat} (h : ¬ (mst l len st k).2 < brk l (gth l k).a len st) : mst l len st (k + 1) = mst l len st k := by rw [mst, if_neg h]
theorem mst_bd {l : List Dmg} (h : Srt l) (len st : Int) : ∀ k, 0 ≤ (mst l len st k).2 ∧ (mst l len st k).2 ≤ 600
  | 0 => by simp [mst]
  | k + 1 => by
    have ih := mst_bd h len st k
    rw [mst]
    split
    · exact brk_bd h _ _ _
    · exact ih
theorem mst_ge (l : List Dmg) (len st : Int) : ∀ k j, j < k → brk l (gth l j).a len st ≤ (mst l len st k).2
  | 0, j, h => by omega
  | k + 1, j, h => by
    rw [mst]
    split
    · rename_i hlt
      by_cases e : j = k
      · subst e; exact Int.le_refl _
      · have := mst_ge l len st k j (by omega)
        show _ ≤ brk l (gth l k).a len st
        omega
    · rename_i hlt
      by_cases e : j = k
      · subst e; omega
      · exact mst_ge l len st k j (by omega)
/-- It is 0, or the wires of one of the windows. -/
theorem mst_is (l : List Dmg) (len st : Int) : ∀ k, (mst l len st k).2 = 0 ∨ ∃ j, j < k ∧ (mst l len st k).2 = brk l (gth l j).a len st ∧ (mst l len st k).1 = (gth l j).a
  | 0 => .inl rfl
  | k + 1 => by
    rw [mst]
    split
    · exact .inr ⟨k, by omega, rfl, rfl⟩
    · rcases mst_is l len st k with h | ⟨j, h1, h2⟩
      · exact .inl h
      · exact .inr ⟨j, by omega, h2⟩
/-- All wires of the first k. -/
def pre (l : List Dmg) (k : Nat) : Int := sumW (fun _ => true) (l.take k)
theorem pre_zero (l : List Dmg) : pre l 0 = 0 := by simp [pre, sumW]
theorem pre_succ {l : List Dmg} {k : Nat} (h : k < l.length) : pre l (k + 1) = pre l k + (gth l k).w := by
  unfold pre; rw [sumW_take _ l k h]; simp
theorem pre_bd {l : List Dmg} (h : Srt l) {k : Nat} (hk : k ≤ l.length) : 0 ≤ pre l k ∧ pre l k ≤ 600 := by
  have := sumW_bd h (fun _ => true) k hk
  have := h.len
  unfold pre; omega
theorem pre_mono {l : List Dmg} (h : Srt l) : ∀ i e, i ≤ e → e ≤ l.length → pre l i ≤ pre l e
  | i, 0, h1, _ => by obtain rfl : i = 0 := by omega
                      exact Int.le_refl _
  | i, e + 1, h1, h2 => by
    by_cases x : i = e + 1
    · subst x; exact Int.le_refl _
    · have := pre_mono h i e (by omega) (by omega)
      rw [pre_succ (by omega)]
      have := h.bd e (by omega)
      omega
/-- The window that begins with element i and ends ahead of e, by prefix sums; those ahead of i come on top. -/
theorem win_sum {l : List Dmg} (h : Srt l) {len : Int} {i e : Nat} (hie : i ≤ e) (he : e ≤ l.length) (hi : i < l.length)
    (hin : ∀ j, j < e → (gth l j).a < (gth l i).a + len) (hout : ∀ j, e ≤ j → j < l.length → (gth l i).a + len ≤ (gth l j).a) :
    ∀ k, i ≤ k → k ≤ l.length → sumW (win (gth l i).a len (-1)) (l.take k) = sumW (win (gth l i).a len (-1)) (l.take i) + (pre l (min k e) - pre l i)
  | 0, h1, _ => by obtain rfl : i = 0 := by omega
                   simp
  | k + 1, h1, h2 => by
    by_cases x : i = k + 1
    · subst x
      rw [Nat.min_eq_left hie]; omega
    · have ih := win_sum h hie he hi hin hout k (by omega) (by omega)
      rw [sumW_take _ l k (by omega), ih]
      by_cases hk : k < e
      · have hw : win (gth l i).a len (-1) (gth l k) = true := by
          have := hin k hk
          have := h.mono i k (by omega) (by omega)
          simp [win, inW, inR, ofS]
          omega
        rw [if_pos hw, Nat.min_eq_left (by omega), Nat.min_eq_left (by omega), pre_succ (by omega)]
        omega
      · have hw : win (gth l i).a len (-1) (gth l k) = false := by
          have := hout k (by omega) (by omega)
          simp [win, inW, inR, ofS]
          omega
        rw [hw, Nat.min_eq_right (by omega), Nat.min_eq_right (by omega)]
        simp
theorem sumW_none {l : List Dmg} {f : Dmg → Bool} : ∀ k, k ≤ l.length → (∀ j, j < k → f (gth l j) = false) → sumW f (l.take k) = 0
  | 0, _, _ => by simp [sumW]
  | k + 1, h, g => by
    rw [sumW_take f l k (by omega), sumW_none k (by omega) (fun j hj => g j (by omega)), g k (by omega)]
    simp
/-- What the sliding window holds is never more than the window's wires, and all of them if the place is new. -/
theorem slide {l : List Dmg} (h : Srt l) {len : Int} {i e : Nat} (hie : i ≤ e) (he : e ≤ l.length) (hi : i < l.length)
    (hin : ∀ j, j < e → (gth l j).a < (gth l i).a + len) (hout : ∀ j, e ≤ j → j < l.length → (gth l i).a + len ≤ (gth l j).a) :
    pre l e - pre l i ≤ brk l (gth l i).a len (-1) ∧ ((∀ j, j < i → (gth l j).a < (gth l i).a) → pre l e - pre l i = brk l (gth l i).a len (-1)) := by
  have h1 := win_sum h hie he hi hin hout l.length (by omega) (Nat.le_refl _)
  rw [sumW_all, Nat.min_eq_right he] at h1
  have h2 := (sumW_bd h (win (gth l i).a len (-1)) i (by omega)).1
  unfold brk
  refine ⟨by omega, fun hj => ?_⟩
  have h3 := sumW_none (l := l) (f := win (gth l i).a len (-1)) i (by omega) (fun j hji => by
    have := hj j hji
    simp [win, inW, inR, ofS]; omega)
  omega
/-- One step of the sliding window: it takes over just where the specification does. -/
theorem slide_step {l : List Dmg} (h : Srt l) {len : Int} {i e : Nat} (hie : i ≤ e) (he : e ≤ l.length) (hi : i < l.length)
    (hin : ∀ j, j < e → (gth l j).a < (gth l i).a + len) (hout : ∀ j, e ≤ j → j < l.length → (gth l i).a + len ≤ (gth l j).a) :
    mst l len (-1) (i + 1) = if (mst l len (-1) i).2 < pre l e - pre l i then ((gth l i).a, pre l e - pre l i) else mst l len (-1) i := by
  obtain ⟨h1, h2⟩ := slide h hie he hi hin hout
  by_cases hnew : ∀ j, j < i → (gth l j).a < (gth l i).a
  · rw [h2 hnew, mst]
  · have : ∃ j, j < i ∧ (gth l j).a = (gth l i).a := by
      apply Classical.byContradiction
      intro hno
      apply hnew
      intro j hj
      have := h.mono j i (by omega) hi
      rcases Int.lt_or_eq_of_le this with g | g
      · exact g
      · exact absurd ⟨j, hj, g⟩ hno
    obtain ⟨j, hj, hja⟩ := this
    have h3 := mst_ge l len (-1) i j hj
    rw [hja] at h3
    rw [mst, if_neg (by omega), if_neg (by omega)]
/-- Those of one strand, in their order, are damages in order too. -/
theorem gth_filter_mem {l : List Dmg} {p : Dmg → Bool} {i : Nat} (h : i < (l.filter p).length) : ∃ j, j < l.length ∧ gth (l.filter p) i = gth l j := by
  have := gth_mem h
  have := (List.mem_filter.1 this).1
  obtain ⟨j, hj, e⟩ := List.getElem_of_mem this
  exact ⟨j, hj, by rw [gth_get hj, e]⟩
theorem Srt.pairwise {l : List Dmg} (h : Srt l) : l.Pairwise (fun x y => x.a ≤ y.a) := by
  rw [List.pairwise_iff_getElem]
  intro i j hi hj hij
  have := h.mono i j (by omega) hj
  rwa [gth_get hi, gth_get hj] at this
theorem Srt.filter {l : List Dmg} (h : Srt l) (p : Dmg → Bool) : Srt (l.filter p) := by
  refine ⟨Nat.le_trans (List.length_filter_le _ _) h.len, fun i hi => ?_, fun i j hij hj => ?_⟩
  · obtain ⟨j, hj, e⟩ := gth_filter_mem hi
    rw [e]; exact h.bd j hj
  · by_cases e : i = j
    · subst e; exact Int.le_refl _
    · have hp := h.pairwise.filter p
      rw [List.pairwise_iff_getElem] at hp
      have := hp i j (by omega) hj (by omega)
      rwa [← gth_get (by omega), ← gth_get hj] at this
theorem sumW_filter (f p : Dmg → Bool) : ∀ l : List Dmg, (∀ x ∈ l, 0 ≤ x.w) → sumW f (l.filter p) ≤ sumW f l
  | [], _ => by simp [sumW]
  | x :: l, h => by
    have ih := sumW_filter f p l (fun y hy => h y (List.mem_cons_of_mem _ hy))
    have hx := h x (List.mem_cons_self ..)
    rw [List.filter_cons]
    split
    · simp only [sumW]; omega
    · simp only [sumW]
      split <;> omega
theorem Srt.pos {l : List Dmg} (h : Srt l) : ∀ x ∈ l, 0 ≤ x.w := by
  intro x hx
  obtain ⟨j, hj, e⟩ := List.getElem_of_mem hx
  have := h.bd j hj
  rw [gth_get hj, e] at this
  omega
/-- Fewer wires in a strand than in all. -/
theorem mst_filter {l : List Dmg} (h : Srt l) (len st : Int) (p : Dmg → Bool) : (mst (l.filter p) len (-1) (l.filter p).length).2 ≤ (mst l len (-1) l.length).2 := by
  rcases mst_is (l.filter p) len (-1) (l.filter p).length with e | ⟨j, hj, e, _⟩
  · rw [e]; exact (mst_bd h len (-1) _).1
  · obtain ⟨i, hi, g⟩ := gth_filter_mem hj
    rw [e, g]
    have h1 := sumW_filter (win (gth l i).a len (-1)) p l h.pos
    have h2 := mst_ge l len (-1) l.length i hi
    unfold brk at h2 ⊢
    omega
/-- One strand's wires in a window are not more than all. -/
theorem brk_strand {l : List Dmg} (h : Srt l) (fr len st : Int) : brk l fr len st ≤ brk l fr len (-1) := by
  have key : ∀ (l : List Dmg), (∀ x ∈ l, 0 ≤ x.w) → sumW (win fr len st) l ≤ sumW (win fr len (-1)) l := by
    intro l
    induction l with
    | nil => intro _; exact Int.le_refl _
    | cons x l ih =>
      intro hp
      have h1 := ih (fun y hy => hp y (List.mem_cons_of_mem _ hy))
      have hx := hp x (List.mem_cons_self ..)
      simp only [sumW]
      have : win fr len st x = true → win fr len (-1) x = true := by
        simp [win, ofS]; intro a _; exact a
      by_cases e : win fr len st x = true
      · rw [if_pos e, if_pos (this e)]; omega
      · rw [if_neg e]; split <;> omega
  exact key l h.pos
theorem mst_strand {l : List Dmg} (h : Srt l) (len st : Int) : (mst l len st l.length).2 ≤ (mst l len (-1) l.length).2 := by
  rcases mst_is l len st l.length with e | ⟨j, hj, e, _⟩
  · rw [e]; exact (mst_bd h len (-1) _).1
  · rw [e]
    have h1 := brk_strand h (gth l j).a len st
    have h2 := mst_ge l len (-1) l.length j hj
    omega
end Go.Proofs.Ytiogjocbiagipab
