/- The program's search for the least number of cabins: all ways tried, and what it finds. No condition. -/
import Derived.Test.YtkjdkfoeolcnkaaPackMath
namespace Go.Proofs.Ytkjdkfoeolcnkaa
set_option linter.unusedVariables false
/-- The least number of cabins from some begun ones on: a new cabin, or any begun one with room. -/
def lfR (s : Int) : List Int → List Int → Nat
  | [], free => free.length
  | g :: gs, free => (List.range free.length).foldl (fun m i => if g ≤ free.getD i 0 then min m (lfR s gs (free.set i (free.getD i 0 - g))) else m) (lfR s gs (free ++ [s - g]))
/-- The same, the first k begun ones tried. -/
def lfP (s g : Int) (gs free : List Int) (k : Nat) : Nat := (List.range k).foldl (fun m i => if g ≤ free.getD i 0 then min m (lfR s gs (free.set i (free.getD i 0 - g))) else m) (lfR s gs (free ++ [s - g]))
theorem lfP_zero (s g : Int) (gs free : List Int) : lfP s g gs free 0 = lfR s gs (free ++ [s - g]) := rfl
theorem lfP_yes {s g : Int} {gs free : List Int} {k : Nat} (h : g ≤ free.getD k 0) : lfP s g gs free (k + 1) = min (lfP s g gs free k) (lfR s gs (free.set k (free.getD k 0 - g))) := by
  unfold lfP; rw [List.range_succ, List.foldl_append]; simp only [List.foldl_cons, List.foldl_nil]; rw [if_pos h]
theorem lfP_no {s g : Int} {gs free : List Int} {k : Nat} (h : ¬ g ≤ free.getD k 0) : lfP s g gs free (k + 1) = lfP s g gs free k := by
  unfold lfP; rw [List.range_succ, List.foldl_append]; simp only [List.foldl_cons, List.foldl_nil]; rw [if_neg h]
theorem lfR_cons (s g : Int) (gs free : List Int) : lfR s (g :: gs) free = lfP s g gs free free.length := rfl
theorem lfR_nil (s : Int) (free : List Int) : lfR s [] free = free.length := rfl
theorem getD_mem13 {free : List Int} {i : Nat} (h : i < free.length) : free.getD i 0 ∈ free := by simp [List.getD, h]
/-- What the search finds: it fits, and no fewer do. -/
theorem lf_all {s : Int} : ∀ (gs free : List Int), (∀ g ∈ gs, g ≤ s) → free.length ≤ lfR s gs free ∧ Fits (free ++ List.replicate (lfR s gs free - free.length) s) gs ∧ ∀ m, Fits (free ++ List.replicate m s) gs → lfR s gs free ≤ free.length + m
  | [], free, _ => ⟨Nat.le_refl _, trivial, fun m _ => Nat.le_add_right _ _⟩
  | g :: gs, free, hg => by
    have hs : g ≤ s := hg g (by simp)
    have ih := fun fr => lf_all gs fr fun x hx => hg x (List.mem_cons_of_mem _ hx)
    have hnew : free.length ≤ lfR s gs (free ++ [s - g]) ∧ Fits (free ++ List.replicate (lfR s gs (free ++ [s - g]) - free.length) s) (g :: gs) := by
      obtain ⟨h1, h2, _⟩ := ih (free ++ [s - g])
      rw [List.length_append, List.length_singleton] at h1 h2
      generalize lfR s gs (free ++ [s - g]) = r at *
      refine ⟨by omega, s, ?_, hs, ?_⟩
      · rw [show r - free.length = (r - (free.length + 1)) + 1 by omega, List.replicate_succ]; simp
      · rw [show r - free.length = (r - (free.length + 1)) + 1 by omega, List.replicate_succ]
        have e := (List.perm_middle (a := s) (l₁ := free) (l₂ := List.replicate (r - (free.length + 1)) s)).erase s
        rw [List.erase_cons_head] at e
        refine Fits.perm gs ?_ h2
        rw [List.append_assoc]
        exact List.perm_middle.trans (e.symm.cons _)
    have hset : ∀ i, i < free.length → g ≤ free.getD i 0 → free.length ≤ lfR s gs (free.set i (free.getD i 0 - g)) ∧ Fits (free ++ List.replicate (lfR s gs (free.set i (free.getD i 0 - g)) - free.length) s) (g :: gs) := by
      intro i hi hgi
      obtain ⟨h1, h2, _⟩ := ih (free.set i (free.getD i 0 - g))
      rw [List.length_set] at h1 h2
      have hp := set_perm13 free i (free.getD i 0 - g) hi
      have hm := getD_mem13 hi
      generalize lfR s gs (free.set i (free.getD i 0 - g)) = r at *
      refine ⟨h1, free.getD i 0, List.mem_append_left _ hm, hgi, ?_⟩
      rw [List.erase_append_left _ hm]
      exact Fits.perm gs (hp.append_right _) h2
    have hF : ∀ k, k ≤ free.length → (free.length ≤ lfP s g gs free k ∧ Fits (free ++ List.replicate (lfP s g gs free k - free.length) s) (g :: gs)) ∧ lfP s g gs free k ≤ lfR s gs (free ++ [s - g]) ∧ ∀ i, i < k → g ≤ free.getD i 0 → lfP s g gs free k ≤ lfR s gs (free.set i (free.getD i 0 - g)) := by
      intro k
      induction k with
      | zero => exact fun _ => ⟨hnew, Nat.le_refl _, fun i h => by omega⟩
      | succ k ihk =>
        intro hk
        obtain ⟨h1, h2, h3⟩ := ihk (by omega)
        by_cases hc : g ≤ free.getD k 0
        · have h4 := hset k (by omega) hc
          rw [lfP_yes hc]
          refine ⟨?_, by omega, fun i hi hgi => ?_⟩
          · rcases Nat.le_total (lfP s g gs free k) (lfR s gs (free.set k (free.getD k 0 - g))) with h | h
            · rw [Nat.min_eq_left h]; exact h1
            · rw [Nat.min_eq_right h]; exact h4
          · by_cases e : i = k
            · subst e; omega
            · have := h3 i (by omega) hgi
              omega
        · rw [lfP_no hc]
          refine ⟨h1, h2, fun i hi hgi => ?_⟩
          by_cases e : i = k
          · subst e; exact absurd hgi hc
          · exact h3 i (by omega) hgi
    obtain ⟨hA, hB, hC⟩ := hF free.length (Nat.le_refl _)
    rw [lfR_cons]
    refine ⟨hA.1, hA.2, fun m hf => ?_⟩
    obtain ⟨x, hx, hgx, hfx⟩ := hf
    by_cases hm : x ∈ free
    · obtain ⟨k, hk, hkx, _⟩ := first13 free hm
      subst hkx
      rw [List.erase_append_left _ hm] at hfx
      have hp := set_perm13 free k (free.getD k 0 - g) hk
      have h5 := (ih (free.set k (free.getD k 0 - g))).2.2 m (Fits.perm gs (hp.append_right (List.replicate m s)).symm hfx)
      rw [List.length_set] at h5
      exact Nat.le_trans (hC k hk hgx) h5
    · have hxr : x ∈ List.replicate m s := by
        rcases List.mem_append.1 hx with h | h
        · exact absurd h hm
        · exact h
      obtain ⟨hm0, rfl⟩ := List.mem_replicate.1 hxr
      obtain ⟨m', rfl⟩ : ∃ m', m = m' + 1 := ⟨m - 1, by omega⟩
      rw [List.erase_append_right _ hm, List.replicate_succ, List.erase_cons_head] at hfx
      have h5 := (ih (free ++ [x - g])).2.2 m' (Fits.perm gs (by rw [List.append_assoc]; exact List.perm_middle.symm) hfx)
      rw [List.length_append, List.length_singleton] at h5
      omega
theorem lfR_lc {s : Int} {gs : List Int} (h : ∀ g ∈ gs, g ≤ s) : lfR s gs [] = lcK s gs := by
  obtain ⟨_, h2, h3⟩ := lf_all gs [] h
  refine lc_one (s := s) (gs := gs) ⟨by simpa using h2, fun j hj hf => ?_⟩ (lcK_is h).1
  have := h3 j (by simpa using hf)
  simp at this
  omega
theorem lfR_le {s : Int} {gs free : List Int} (h : ∀ g ∈ gs, g ≤ s) : lfR s gs free ≤ free.length + gs.length :=
  (lf_all gs free h).2.2 gs.length (Fits.perm gs List.perm_append_comm (fits_each gs free h))
/-- Groups that are put into cabins with room enough fit. -/
def cs13 (k : Nat) : List Nat → List Int → Int
  | a :: az, g :: gs => (if a = k then g else 0) + cs13 k az gs
  | _, _ => 0
theorem cs13_nonneg (k : Nat) : ∀ (az : List Nat) (gs : List Int), (∀ g ∈ gs, 0 ≤ g) → 0 ≤ cs13 k az gs
  | [], _, _ => by simp [cs13]
  | _ :: _, [], _ => by simp [cs13]
  | a :: az, g :: gs, h => by
    have h1 := cs13_nonneg k az gs fun x hx => h x (List.mem_cons_of_mem _ hx)
    have h2 := h g (by simp)
    unfold cs13
    split <;> omega
theorem cs13_snoc (k : Nat) (a : Nat) (g : Int) : ∀ (az : List Nat) (gs : List Int), az.length = gs.length → cs13 k (az ++ [a]) (gs ++ [g]) = cs13 k az gs + (if a = k then g else 0)
  | [], [], _ => by simp [cs13]
  | [], _ :: _, h => by simp at h
  | _ :: _, [], h => by simp at h
  | b :: az, x :: gs, h => by
    have ih := cs13_snoc k a g az gs (by simpa using h)
    rw [List.cons_append, List.cons_append, cs13, cs13, ih]
    omega
theorem fits_by : ∀ (gs : List Int) (az : List Nat) (free : List Int), az.length = gs.length → (∀ a ∈ az, a < free.length) → (∀ g ∈ gs, 0 ≤ g) → (∀ k, k < free.length → cs13 k az gs ≤ free.getD k 0) → Fits free gs
  | [], _, _, _, _, _, _ => trivial
  | g :: gs, [], _, h, _, _, _ => by simp at h
  | g :: gs, a :: az, free, hl, ha, hg, hs => by
    have hal : a < free.length := ha a (by simp)
    have h0 := hs a hal
    have h1 := cs13_nonneg a az gs fun x hx => hg x (List.mem_cons_of_mem _ hx)
    rw [cs13, if_pos rfl] at h0
    refine ⟨free.getD a 0, getD_mem13 hal, by omega, Fits.perm gs (set_perm13 free a _ hal) ?_⟩
    refine fits_by gs az _ (by simpa using hl) (fun b hb => by rw [List.length_set]; exact ha b (List.mem_cons_of_mem _ hb)) (fun x hx => hg x (List.mem_cons_of_mem _ hx)) fun k hk => ?_
    rw [List.length_set] at hk
    by_cases e : a = k
    · subst e
      rw [show (free.set a (free.getD a 0 - g)).getD a 0 = free.getD a 0 - g by simp [List.getD, hal]]
      omega
    · have h2 := hs k hk
      rw [cs13, if_neg e] at h2
      rw [show (free.set a (free.getD a 0 - g)).getD k 0 = free.getD k 0 by simp [List.getD, e]]
      omega
end Go.Proofs.Ytkjdkfoeolcnkaa
