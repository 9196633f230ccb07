/- Numbers in order; a row of integers sorted. Condition: sizes. -/
import Derived.Test.YtkjdkfoeolcnkaaProfK
import Derived.Test.YtkjdkfoeolcnkaaAppAny
import Derived.Test.YtkjdkfoeolcnkaaShelfI
import Derived.Sort.OwnSortedInts
namespace Go.Proofs.Ytkjdkfoeolcnkaa
open Go.RowKit Go.Sort
set_option linter.unusedVariables false
theorem mem_gth {α : Type} [Inhabited α] {l : List α} {x : α} (h : x ∈ l) : ∃ i, i < l.length ∧ x = gth l i := by
  obtain ⟨i, hi, rfl⟩ := List.getElem_of_mem h
  exact ⟨i, hi, (gth_get hi).symm⟩
theorem pair_gth {α : Type} [Inhabited α] {R : α → α → Prop} {l : List α} (h : l.Pairwise R) {i j : Nat} (hij : i < j) (hj : j < l.length) : R (gth l i) (gth l j) := by
  rw [gth_get hj, gth_get (by omega : i < l.length)]
  exact List.pairwise_iff_getElem.1 h i j (by omega) hj hij
/-- Numbers in order. -/
def srt (l : List Int) : List Int := l.mergeSort (fun x y => decide (x ≤ y))
theorem srt_perm (l : List Int) : (srt l).Perm l := List.mergeSort_perm l _
theorem srt_pair (l : List Int) : (srt l).Pairwise (fun x y => x ≤ y) := by
  have h := List.pairwise_mergeSort (le := fun x y : Int => decide (x ≤ y)) (fun a b c h g => by simp at *; omega) (fun a b => by simp; omega) l
  exact h.imp (fun h => by simpa using h)
theorem srt_len (l : List Int) : (srt l).length = l.length := (srt_perm l).length_eq
theorem srt_one {l r : List Int} (hp : r.Perm l) (hs : r.Pairwise (fun x y => x ≤ y)) : r = srt l :=
  List.Perm.eq_of_pairwise (le := fun x y : Int => x ≤ y) (fun x y _ _ h g => by omega) hs (srt_pair l) (hp.trans (srt_perm l).symm)
theorem srt_nil : srt [] = [] := List.eq_nil_of_length_eq_zero (by rw [srt_len]; rfl)
theorem put_srt {l : List Int} {n : Int} {k : Nat} (hk : k ≤ l.length) (h1 : ∀ j, j < k → gth (srt l) j < n) (h2 : k < l.length → n ≤ gth (srt l) k) : (srt l).take k ++ [n] ++ (srt l).drop k = srt (l ++ [n]) := by
  have hs := srt_pair l
  have hl := srt_len l
  refine srt_one ?_ ?_
  · have h : (srt l).Perm ((srt l).take k ++ (srt l).drop k) := by rw [List.take_append_drop]
    refine List.Perm.trans ?_ (List.Perm.append_right [n] (h.symm.trans (srt_perm l)))
    rw [List.append_assoc, List.append_assoc]
    exact List.Perm.append_left _ List.perm_append_comm
  · have hT : ∀ y ∈ (srt l).take k, y ≤ n := by
      intro y hy
      obtain ⟨i, hil, rfl⟩ := mem_gth hy
      rw [List.length_take] at hil
      rw [gth_take (by omega)]
      have := h1 i (by omega); omega
    have hD : ∀ y ∈ (srt l).drop k, n ≤ y := by
      intro y hy
      obtain ⟨i, hil, rfl⟩ := mem_gth hy
      rw [List.length_drop] at hil
      rw [gth_drop]
      have h3 := h2 (by omega)
      by_cases e : i = 0
      · subst e; rw [Nat.add_zero]; exact h3
      · have := pair_gth hs (show k < k + i by omega) (by omega); omega
    rw [List.pairwise_append]
    refine ⟨?_, hs.sublist (List.drop_sublist _ _), ?_⟩
    · rw [List.pairwise_append]
      exact ⟨hs.sublist (List.take_sublist _ _), by simp, fun y hy z hz => by rw [List.mem_singleton.1 hz]; exact hT y hy⟩
    · intro y hy z hz
      rw [List.mem_append, List.mem_singleton] at hy
      rcases hy with hy | rfl
      · obtain ⟨i, hil, rfl⟩ := mem_gth hy
        obtain ⟨j, hjl, rfl⟩ := mem_gth hz
        rw [List.length_take] at hil
        rw [List.length_drop] at hjl
        rw [gth_take (by omega), gth_drop]
        exact pair_gth hs (by omega) (by omega)
      · exact hD z hz
theorem sortI_c (v : Value) (zs : List Int) (w : World) (B : Nat) (ho : w.ownsRow B 3 1 v zs.length (intVs zs)) (hn : zs.length ≤ 12) :
    Calls Try.prog 92 #[v] w fun e w' => e = .returned (.tuple #[]) ∧ w'.ownsRow B 3 1 v zs.length (intVs (srt zs)) ∧ w.grownBy w' v.ownBlock := by
  rcases ho.2 with ⟨rfl, h0⟩ | ⟨g, cap, cur, rfl, hbase, hb, h1, h2, h3, h4⟩
  · obtain rfl := List.eq_nil_of_length_eq_zero h0
    refine (Try.slices_Sort_int_none none 0 w).mono ?_
    rintro e w' ⟨he, rfl⟩
    exact ⟨he, by rw [srt_nil]; exact ho, World.grownBy.refl _ _⟩
  · refine (Try.slices_Sort_int g 0 cap zs w (holds_of_blockI hb (by rw [Nat.mul_one] at h4; exact h4)) (Array.getElem?_eq_some_iff.1 hb).1 (by omega)).mono ?_
    rintro e w' ⟨he, n, os, rfl⟩
    exact ⟨he, ownsRow_sortedI (srt_len zs) hbase hb h1 h2 h3, grownBy_sortedI _⟩
theorem put_srtE {l : List Int} {n : Int} {k : Nat} (hk : k ≤ l.length) (h1 : 0 < k → gth (srt l) (k - 1) ≤ n) (h2 : k < l.length → n < gth (srt l) k) : (srt l).take k ++ [n] ++ (srt l).drop k = srt (l ++ [n]) := by
  have hs := srt_pair l
  have hl := srt_len l
  refine srt_one ?_ ?_
  · have h : (srt l).Perm ((srt l).take k ++ (srt l).drop k) := by rw [List.take_append_drop]
    refine List.Perm.trans ?_ (List.Perm.append_right [n] (h.symm.trans (srt_perm l)))
    rw [List.append_assoc, List.append_assoc]
    exact List.Perm.append_left _ List.perm_append_comm
  · have hT : ∀ y ∈ (srt l).take k, y ≤ n := by
      intro y hy
      obtain ⟨i, hil, rfl⟩ := mem_gth hy
      rw [List.length_take] at hil
      rw [gth_take (by omega)]
      have h3 := h1 (by omega)
      by_cases e : i = k - 1
      · rw [e]; exact h3
      · have := pair_gth hs (show i < k - 1 by omega) (by omega); omega
    have hD : ∀ y ∈ (srt l).drop k, n ≤ y := by
      intro y hy
      obtain ⟨i, hil, rfl⟩ := mem_gth hy
      rw [List.length_drop] at hil
      rw [gth_drop]
      have h3 := h2 (by omega)
      by_cases e : i = 0
      · subst e; rw [Nat.add_zero]; omega
      · have := pair_gth hs (show k < k + i by omega) (by omega); omega
    rw [List.pairwise_append]
    refine ⟨?_, hs.sublist (List.drop_sublist _ _), ?_⟩
    · rw [List.pairwise_append]
      exact ⟨hs.sublist (List.take_sublist _ _), by simp, fun y hy z hz => by rw [List.mem_singleton.1 hz]; exact hT y hy⟩
    · intro y hy z hz
      rw [List.mem_append, List.mem_singleton] at hy
      rcases hy with hy | rfl
      · obtain ⟨i, hil, rfl⟩ := mem_gth hy
        obtain ⟨j, hjl, rfl⟩ := mem_gth hz
        rw [List.length_take] at hil
        rw [List.length_drop] at hjl
        rw [gth_take (by omega), gth_drop]
        exact pair_gth hs (by omega) (by omega)
      · exact hD z hz
end Go.Proofs.Ytkjdkfoeolcnkaa
