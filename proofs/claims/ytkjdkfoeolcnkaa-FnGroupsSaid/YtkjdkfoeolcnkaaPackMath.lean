/- Groups put whole into cabins with free seats: which seats suffice, and the least number of cabins. No condition. -/
import Derived.Test.YtkjdkfoeolcnkaaRows
namespace Go.Proofs.Ytkjdkfoeolcnkaa
set_option linter.unusedVariables false
/-- Groups of these sizes can be put, whole, into cabins with these free seats. -/
def Fits : List Int → List Int → Prop
  | _, [] => True
  | free, g :: gs => ∃ x, x ∈ free ∧ g ≤ x ∧ Fits ((x - g) :: free.erase x) gs
theorem Fits.perm : ∀ (gs : List Int) {f f' : List Int}, f.Perm f' → Fits f gs → Fits f' gs
  | [], _, _, _, _ => trivial
  | _ :: gs, _, _, h, ⟨x, hx, hg, hf⟩ => ⟨x, h.mem_iff.1 hx, hg, Fits.perm gs ((h.erase x).cons _) hf⟩
/-- The search: a cabin is tried once for each number of free seats. -/
def pkS : List Int → List Int → Bool
  | _, [] => true
  | free, g :: gs => (List.range free.length).any fun k => decide (g ≤ free.getD k 0) && !((free.take k).contains (free.getD k 0)) && pkS (free.set k (free.getD k 0 - g)) gs
theorem set_perm13 (free : List Int) : ∀ (k : Nat) (y : Int), k < free.length → (free.set k y).Perm (y :: free.erase (free.getD k 0)) := by
  induction free with
  | nil => intro k y h; simp at h
  | cons a l ih =>
    intro k y hk
    cases k with
    | zero => simp
    | succ k =>
      have hk' : k < l.length := by simpa using hk
      have h1 := ih k y hk'
      have hm : l.getD k 0 ∈ l := by simp [List.getD, hk']
      have e : (a :: l).getD (k + 1) 0 = l.getD k 0 := by simp [List.getD]
      rw [e]
      generalize l.getD k 0 = x at *
      rw [List.set_cons_succ]
      by_cases hax : a = x
      · subst hax
        rw [List.erase_cons_head]
        exact (h1.cons a).trans ((List.Perm.swap y a _).trans ((List.perm_cons_erase hm).symm.cons y))
      · rw [List.erase_cons_tail (by simpa using hax)]
        exact (h1.cons a).trans (List.Perm.swap y a _)
theorem first13 {x : Int} : ∀ (l : List Int), x ∈ l → ∃ k, k < l.length ∧ l.getD k 0 = x ∧ (l.take k).contains x = false
  | [], h => by simp at h
  | a :: l, h => by
    by_cases hax : a = x
    · exact ⟨0, by simp, by simp [List.getD, hax], by simp⟩
    · have hx : x ∈ l := by
        rcases List.mem_cons.1 h with h | h
        · exact absurd h.symm hax
        · exact h
      obtain ⟨k, h1, h2, h3⟩ := first13 l hx
      refine ⟨k + 1, by simpa using h1, by simpa [List.getD] using h2, ?_⟩
      simp only [List.take_succ_cons, List.contains_cons, h3, Bool.or_false]
      simpa using fun e => hax e.symm
theorem pk_iff : ∀ (gs free : List Int), pkS free gs = true ↔ Fits free gs
  | [], free => by simp [pkS, Fits]
  | g :: gs, free => by
    unfold pkS Fits
    rw [List.any_eq_true]
    constructor
    · rintro ⟨k, hk, h⟩
      rw [List.mem_range] at hk
      rw [Bool.and_eq_true, Bool.and_eq_true, decide_eq_true_eq] at h
      exact ⟨free.getD k 0, by simp [List.getD, hk], h.1.1, Fits.perm gs (set_perm13 free k _ hk) ((pk_iff gs _).1 h.2)⟩
    · rintro ⟨x, hx, hg, hf⟩
      obtain ⟨k, hk, hkx, hno⟩ := first13 free hx
      refine ⟨k, List.mem_range.2 hk, ?_⟩
      have h2 := set_perm13 free k (x - g) hk
      rw [hkx] at h2
      rw [hkx, Bool.and_eq_true, Bool.and_eq_true, decide_eq_true_eq]
      exact ⟨⟨hg, by rw [hno]; rfl⟩, (pk_iff gs _).2 (Fits.perm gs h2.symm hf)⟩
theorem Fits.more : ∀ (gs : List Int) {free : List Int} (s : Int), Fits free gs → Fits (s :: free) gs
  | [], _, _, _ => trivial
  | g :: gs, free, s, ⟨x, hx, hg, hf⟩ => by
    refine ⟨x, List.mem_cons_of_mem _ hx, hg, ?_⟩
    have h1 := Fits.more gs s hf
    by_cases hsx : s = x
    · subst hsx
      rw [List.erase_cons_head]
      exact Fits.perm gs ((List.Perm.swap _ _ _).trans ((List.perm_cons_erase hx).symm.cons _)) h1
    · rw [List.erase_cons_tail (by simpa using hsx)]
      exact Fits.perm gs (List.Perm.swap _ _ _) h1
theorem fits_each {s : Int} : ∀ (gs free : List Int), (∀ g ∈ gs, g ≤ s) → Fits (List.replicate gs.length s ++ free) gs
  | [], _, _ => trivial
  | g :: gs, free, h => by
    refine ⟨s, by simp [List.replicate_succ], h g (by simp), ?_⟩
    rw [List.length_cons, List.replicate_succ, List.cons_append, List.erase_cons_head]
    exact Fits.perm gs List.perm_middle (fits_each gs ((s - g) :: free) fun g' hg' => h g' (List.mem_cons_of_mem _ hg'))
def sum13 (l : List Int) : Int := l.foldr (· + ·) 0
theorem sum13_cons (a : Int) (l : List Int) : sum13 (a :: l) = a + sum13 l := rfl
theorem sum13_perm {a b : List Int} (h : a.Perm b) : sum13 a = sum13 b := by
  induction h with
  | nil => rfl
  | cons x _ ih => rw [sum13_cons, sum13_cons, ih]
  | swap x y l => rw [sum13_cons, sum13_cons, sum13_cons, sum13_cons]; omega
  | trans _ _ ih1 ih2 => rw [ih1, ih2]
theorem sum13_nonneg : ∀ (l : List Int), (∀ x ∈ l, 0 ≤ x) → 0 ≤ sum13 l
  | [], _ => by simp [sum13]
  | a :: l, h => by
    rw [sum13_cons]
    have := h a (by simp)
    have := sum13_nonneg l fun x hx => h x (List.mem_cons_of_mem _ hx)
    omega
theorem sum13_rep (s : Int) : ∀ k : Nat, sum13 (List.replicate k s) = (k : Int) * s
  | 0 => by simp [sum13]
  | k + 1 => by
    rw [List.replicate_succ, sum13_cons, sum13_rep s k, Int.natCast_succ, Int.add_mul]
    omega
theorem fits_sum : ∀ (gs free : List Int), (∀ x ∈ free, 0 ≤ x) → Fits free gs → sum13 gs ≤ sum13 free
  | [], free, h, _ => by simpa [sum13] using sum13_nonneg free h
  | g :: gs, free, h, ⟨x, hx, hg, hf⟩ => by
    have h1 := fits_sum gs _ (fun y hy => by
      rcases List.mem_cons.1 hy with hy | hy
      · omega
      · exact h y (List.mem_of_mem_erase hy)) hf
    have h2 := sum13_perm (List.perm_cons_erase hx)
    rw [sum13_cons] at h1 h2
    rw [sum13_cons]
    omega
/-- The least number of cabins. -/
def LcIs (s : Int) (gs : List Int) (k : Nat) : Prop := Fits (List.replicate k s) gs ∧ ∀ j, j < k → ¬ Fits (List.replicate j s) gs
theorem lc_ex {s : Int} {gs : List Int} (h : ∀ g ∈ gs, g ≤ s) : ∃ k, LcIs s gs k ∧ k ≤ gs.length := by
  have h0 : Fits (List.replicate gs.length s) gs := by simpa using fits_each gs [] h
  have aux : ∀ n k, n + k = gs.length → (∀ j, j < k → ¬ Fits (List.replicate j s) gs) → ∃ m, LcIs s gs m ∧ m ≤ gs.length := by
    intro n
    induction n with
    | zero =>
      intro k hk hno
      obtain rfl : k = gs.length := by omega
      exact ⟨_, ⟨h0, hno⟩, Nat.le_refl _⟩
    | succ n ih =>
      intro k hk hno
      by_cases hf : Fits (List.replicate k s) gs
      · exact ⟨k, ⟨hf, hno⟩, by omega⟩
      · refine ih (k + 1) (by omega) fun j hj => ?_
        by_cases e : j = k
        · rw [e]; exact hf
        · exact hno j (by omega)
  exact aux gs.length 0 (by omega) (fun j hj => by omega)
theorem lc_one {s : Int} {gs : List Int} {k j : Nat} (h : LcIs s gs k) (g : LcIs s gs j) : k = j := by
  rcases Nat.lt_trichotomy k j with h1 | h1 | h1
  · exact absurd h.1 (g.2 k h1)
  · exact h1
  · exact absurd g.1 (h.2 j h1)
noncomputable def lcK (s : Int) (gs : List Int) : Nat := open Classical in if h : ∃ k, LcIs s gs k then h.choose else 0
theorem lcK_is {s : Int} {gs : List Int} (h : ∀ g ∈ gs, g ≤ s) : LcIs s gs (lcK s gs) ∧ lcK s gs ≤ gs.length := by
  obtain ⟨k, hk, hl⟩ := lc_ex h
  have he : ∃ k, LcIs s gs k := ⟨k, hk⟩
  have e : lcK s gs = k := by
    unfold lcK
    rw [dif_pos he]
    exact lc_one he.choose_spec hk
  rw [e]
  exact ⟨hk, hl⟩
/-- More cabins never hurt: from the least number on the groups fit. -/
theorem fits_up {s : Int} {gs : List Int} {k : Nat} (h : Fits (List.replicate k s) gs) : ∀ n, Fits (List.replicate (n + k) s) gs
  | 0 => by simpa using h
  | n + 1 => by
    have e : n + 1 + k = (n + k) + 1 := by omega
    rw [e, List.replicate_succ]
    exact Fits.more gs s (fits_up h n)
theorem lcK_le {s : Int} {gs : List Int} {k : Nat} (h : ∀ g ∈ gs, g ≤ s) (hk : Fits (List.replicate k s) gs) : lcK s gs ≤ k := by
  have h1 := (lcK_is h).1
  by_cases e : k < lcK s gs
  · exact absurd hk (h1.2 k e)
  · omega
/-- The seats of the least number of cabins hold all. -/
theorem lcK_sum {s : Int} {gs : List Int} (h0 : 0 ≤ s) (h : ∀ g ∈ gs, g ≤ s) : sum13 gs ≤ (lcK s gs : Int) * s := by
  rw [← sum13_rep]
  exact fits_sum gs _ (fun x hx => by rw [(List.mem_replicate.1 hx).2]; exact h0) (lcK_is h).1.1
end Go.Proofs.Ytkjdkfoeolcnkaa
