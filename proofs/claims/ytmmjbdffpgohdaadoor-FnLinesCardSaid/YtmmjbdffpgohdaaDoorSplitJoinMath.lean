/- Splitting and joining are inverse: plain facts. No condition. -/
import Derived.Test.YtmmjbdffpgohdaaDoorJoinMath
namespace Go.Proofs.YtmmjbdffpgohdaaDoor
open Go.RowKit
set_option linter.unusedVariables false
theorem ext_list (s : ByteArray) (a b : Nat) : (s.extract a b).data.toList = (s.data.toList.drop a).take (b - a) := by
  have e : (s.extract a b).data = s.data.extract a b := by simp
  rw [e, Array.toList_extract]
theorem sz_list (s : ByteArray) : s.data.toList.length = s.size := by rw [Array.length_toList]; rfl
/-- After each part the separator. -/
def catP (c : UInt8) (P : List ByteArray) : List UInt8 := (P.map fun p => p.data.toList ++ [c]).flatten
theorem join_snoc (c : UInt8) (P : List ByteArray) (x : ByteArray) : Lib.join ((P ++ [x]).map (·.data.toList)) [c] = catP c P ++ x.data.toList := by
  induction P with
  | nil => simp [catP, Lib.join_one]
  | cons p P ih =>
    have h : ∀ (y : List UInt8) (r : List (List UInt8)), r ≠ [] → Lib.join (y :: r) [c] = y ++ [c] ++ Lib.join r [c] := by
      intro y r hr
      cases r with
      | nil => exact absurd rfl hr
      | cons z r => rw [Lib.join_cons, Lib.join_cons]; simp [Lib.joinTail]
    rw [List.cons_append, List.map_cons, h _ _ (by simp), ih]
    simp [catP]
theorem sp_cat (c : UInt8) (s : ByteArray) : ∀ k, k ≤ s.size → catP c (spP c s k) = s.data.toList.take (spF c s k) ∧ (∀ i, spF c s k ≤ i → i < k → s.data.toList[i]? ≠ some c) ∧ (∀ x ∈ spP c s k, c ∉ x.data.toList) := by
  intro k
  induction k with
  | zero => intro _; exact ⟨by simp [spP, spF, catP], fun i h1 h2 => by omega, fun x hx => by simp [spP] at hx⟩
  | succ k ih =>
    intro hk
    obtain ⟨h1, h2, h3⟩ := ih (by omega)
    have hf := spF_le c s k
    have hlen := sz_list s
    by_cases h : s.data.toList[k]? = some c
    · rw [spP, spF, if_pos h, if_pos h]
      have hno : c ∉ (s.extract (spF c s k) k).data.toList := by
        rw [ext_list]
        intro hm
        obtain ⟨i, hi, he⟩ := List.getElem_of_mem hm
        have hi' : i < k - spF c s k := by simp at hi; omega
        have hg : s.data.toList[spF c s k + i]? = some c := by
          have : ((s.data.toList.drop (spF c s k)).take (k - spF c s k))[i]? = some c := by rw [List.getElem?_eq_getElem hi, he]
          rw [List.getElem?_take, if_pos hi', List.getElem?_drop] at this
          exact this
        exact h2 (spF c s k + i) (by omega) (by omega) hg
      refine ⟨?_, fun i h1 h2 => by omega, ?_⟩
      · have e : catP c (spP c s k ++ [s.extract (spF c s k) k]) = catP c (spP c s k) ++ ((s.extract (spF c s k) k).data.toList ++ [c]) := by simp [catP]
        rw [e, h1, ext_list]
        have hkc : s.data.toList.take (k + 1) = s.data.toList.take k ++ [c] := by rw [List.take_add_one, h]; rfl
        rw [hkc, ← List.append_assoc]
        congr 1
        have := List.take_append_drop (spF c s k) (s.data.toList.take k)
        rw [List.take_take, Nat.min_eq_left hf, List.drop_take] at this
        exact this
      · intro x hx
        rcases List.mem_append.1 hx with hx | hx
        · exact h3 x hx
        · rw [List.mem_singleton.1 hx]; exact hno
    · rw [spP, spF, if_neg h, if_neg h]
      refine ⟨h1, fun i hi1 hi2 => ?_, h3⟩
      by_cases e : i = k
      · subst e; exact h
      · exact h2 i hi1 (by omega)
theorem split_join (c : UInt8) (s : ByteArray) : joinAll (splitAll c s) ⟨#[c]⟩ = s := by
  have h := sp_cat c s s.size (Nat.le_refl _)
  unfold joinAll splitAll
  have e : (⟨#[c]⟩ : ByteArray).data.toList = [c] := rfl
  rw [e, join_snoc, h.1, ext_list]
  apply ByteArray.ext
  apply Array.ext'
  have hl := sz_list s
  have : (s.data.toList.drop (spF c s s.size)).take (s.size - spF c s s.size) = s.data.toList.drop (spF c s s.size) := by
    rw [List.take_of_length_le]; simp
  rw [this, List.take_append_drop]
theorem split_no (c : UInt8) (s : ByteArray) : ∀ x ∈ splitAll c s, c ∉ x.data.toList := by
  have h := sp_cat c s s.size (Nat.le_refl _)
  intro x hx
  rcases List.mem_append.1 hx with hx | hx
  · exact h.2.2 x hx
  · rw [List.mem_singleton.1 hx, ext_list]
    intro hm
    obtain ⟨i, hi, he⟩ := List.getElem_of_mem hm
    have hi' : i < s.size - spF c s s.size := by simp at hi; omega
    have : ((s.data.toList.drop (spF c s s.size)).take (s.size - spF c s s.size))[i]? = some c := by rw [List.getElem?_eq_getElem hi, he]
    rw [List.getElem?_take, if_pos hi', List.getElem?_drop] at this
    exact h.2.1 _ (by omega) (by omega) this
theorem split_jok (c : UInt8) (s : ByteArray) (h : s.size ≤ 4000) : Jok (splitAll c s) c := by
  refine ⟨split_no c s, ?_⟩
  have h1 := jnK_size (splitAll c s) ⟨#[c]⟩ rfl (splitAll c s).length (Nat.le_refl _)
  rw [jnK_all, split_join, List.take_length] at h1
  omega
end Go.Proofs.YtmmjbdffpgohdaaDoor
