/- What a slice of structs holds, as a reader needs it. No condition. -/
import Derived.Test.YtinlcbljpclccaaRd
namespace Go.Proofs.Ytinlcbljpclccaa
open Go.RowKit
set_option linter.unusedVariables false
/-- The slice v of n elements reads as the cells xs (all elements' cells, one after another). -/
def Rs (w : World) (v : Value) (n : Nat) (xs : List Value) : Prop :=
  (n = 0 ∧ ∃ a cap, v = .slice a 0 cap) ∨ ∃ b off cap, v = .slice (some ⟨b, off, none⟩) n cap ∧ b < w.heap.size ∧ (n ≤ cap ∧ n ≤ maxLen) ∧ ∀ i u, xs[i]? = some u → w.cell? ⟨b, off + i, none⟩ = some u
theorem Rs.below {w w' : World} {v : Value} {n : Nat} {xs : List Value} {B : Nat} (h : Rs w v n xs) (hb : Below B w w') (hB : B = w.heap.size) : Rs w' v n xs := by
  subst hB
  rcases h with ⟨rfl, h⟩ | ⟨b, off, cap, rfl, hlt, hm, hc⟩
  · exact .inl ⟨rfl, h⟩
  · exact .inr ⟨b, off, cap, rfl, Nat.lt_of_lt_of_le hlt hb.size, hm, fun i u hi => (hb.cell (p := ⟨b, off + i, none⟩) hlt).trans (hc i u hi)⟩
theorem Rs.drewN {w : World} {v : Value} {n : Nat} {xs : List Value} (h : Rs w v n xs) (m : Nat) : Rs (w.drewN m) v n xs := h
theorem Rs.of_own {w : World} {base : Nat} {e : TypeId} {size : Nat} {v : Value} {n : Nat} {xs : List Value} (h : w.ownsRow base e size v n xs) : Rs w v n xs := by
  have hl := h.1
  rcases h.2 with ⟨rfl, rfl⟩ | ⟨g, cap, cur, rfl, hb, hg, hn, hcm, hsz, ht⟩
  · exact .inl ⟨rfl, none, 0, rfl⟩
  · refine .inr ⟨g, 0, cap, rfl, (Array.getElem?_eq_some_iff.1 hg).1, ⟨hn, by omega⟩, fun i u hi => ?_⟩
    have := h.cells (g := g) rfl i u hi
    have e : (⟨g, 0, none⟩ : Addr).add i = ⟨g, 0 + i, none⟩ := by
      unfold Addr.add; split
      · rename_i hz; rw [hz]
      · rfl
    rw [← e]; exact this
theorem Rs.shape {w : World} {v : Value} {n : Nat} {xs : List Value} (h : Rs w v n xs) : ∃ a cap, v = .slice a n cap := by
  rcases h with ⟨rfl, a, cap, rfl⟩ | ⟨b, off, cap, rfl, _⟩
  · exact ⟨a, cap, rfl⟩
  · exact ⟨_, cap, rfl⟩
theorem Rs.zero {w : World} {v : Value} {xs : List Value} (h : Rs w v 0 xs) : ∃ a cap, v = .slice a 0 cap := h.shape
theorem Rs.pos {w : World} {v : Value} {n : Nat} {xs : List Value} (h : Rs w v n xs) (h0 : n ≠ 0) :
    ∃ b off cap, v = .slice (some ⟨b, off, none⟩) n cap ∧ b < w.heap.size ∧ n ≤ cap ∧ n ≤ maxLen ∧ ∀ i u, xs[i]? = some u → w.cell? ⟨b, off + i, none⟩ = some u := by
  rcases h with ⟨h, _⟩ | ⟨b, o, c, h, h1, h2, h3⟩
  · exact absurd h h0
  · exact ⟨b, o, c, h, h1, h2.1, h2.2, h3⟩
/-- An owned row is empty or lies at the head of a block. -/
theorem owns_cases {w : World} {B e size n : Nat} {v : Value} {xs : List Value} (h : w.ownsRow B e size v n xs) :
    (n = 0 ∧ xs = [] ∧ ∃ a cap, v = .slice a 0 cap) ∨ ∃ g cap, v = .slice (some ⟨g, 0, none⟩) n cap ∧ B ≤ g ∧ g < w.heap.size ∧ 0 < n ∧ n ≤ maxLen ∧ xs.length = n * size := by
  have hl := h.1
  by_cases h0 : n = 0
  · subst h0
    refine .inl ⟨rfl, List.eq_nil_of_length_eq_zero (by omega), ?_⟩
    rcases h.2 with ⟨rfl, _⟩ | ⟨g, cap, cur, rfl, _⟩
    · exact ⟨_, _, rfl⟩
    · exact ⟨_, _, rfl⟩
  · rcases h.2 with ⟨_, h1⟩ | ⟨g, cap, cur, rfl, hb, hg, hn, hcm, _⟩
    · omega
    · exact .inr ⟨g, cap, rfl, hb, (Array.getElem?_eq_some_iff.1 hg).1, by omega, by omega, hl⟩
theorem owns_below {w w' : World} {B e size n : Nat} {v : Value} {xs : List Value} (h : w.ownsRow B e size v n xs) (hb : Below w.heap.size w w') : w'.ownsRow B e size v n xs := own_below h hb
/-! Rows of cells, `sz` for each element. -/
def flat {α : Type} (enc : α → List Value) (l : List α) : List Value := l.flatMap enc
theorem flat_len {α : Type} {enc : α → List Value} {sz : Nat} (he : ∀ x, (enc x).length = sz) (l : List α) : (flat enc l).length = l.length * sz := by
  induction l with
  | nil => simp [flat]
  | cons x r ih =>
    have : flat enc (x :: r) = enc x ++ flat enc r := by simp [flat]
    rw [this, List.length_append, ih, he, List.length_cons, Nat.add_mul]; omega
theorem flat_append {α : Type} (enc : α → List Value) (l r : List α) : flat enc (l ++ r) = flat enc l ++ flat enc r := by simp [flat]
theorem flat_one {α : Type} (enc : α → List Value) (x : α) : flat enc [x] = enc x := by simp [flat]
theorem flat_at {α : Type} {enc : α → List Value} {sz : Nat} (he : ∀ x, (enc x).length = sz) (d : α) (l : List α) : ∀ i j, i < l.length → j < sz → (flat enc l)[i * sz + j]? = (enc (l.getD i d))[j]? := by
  induction l with
  | nil => intro i j h; simp at h
  | cons x r ih =>
    intro i j hi hj
    have e : flat enc (x :: r) = enc x ++ flat enc r := by simp [flat]
    rw [e]
    cases i with
    | zero => rw [Nat.zero_mul, Nat.zero_add, List.getElem?_append_left (by rw [he]; exact hj)]; rfl
    | succ i =>
      rw [List.getElem?_append_right (by rw [he, Nat.add_mul]; omega), he]
      have : (i + 1) * sz + j - sz = i * sz + j := by rw [Nat.add_mul]; omega
      rw [this]
      exact ih i j (by simpa using hi) hj
end Go.Proofs.Ytinlcbljpclccaa
