/- Plain facts on sealed strings. No condition. -/
import Derived.Test.YthnbbaefeojanaaDoorL1Math
import Derived.Test.YthnbbaefeojanaaDoorNumMath
import Derived.Test.YthnbbaefeojanaaDoorSplitMath
import Derived.Lib.IndexMore
namespace Go.Proofs.YthnbbaefeojanaaDoor
open Go.RowKit
set_option linter.unusedVariables false
/-- s sealed. -/
def sealB (s : ByteArray) : ByteArray := s ++ (⟨#[35]⟩ : ByteArray) ++ num (ck s.data.toList)
def Sok (s : ByteArray) : Prop := s.size ≤ 4000 ∧ (35 : UInt8) ∉ s.data.toList ∧ (sealB s).size ≤ 4000
theorem seal_size (s : ByteArray) : (sealB s).size = s.size + 1 + (num (ck s.data.toList)).size := by
  unfold sealB; rw [ByteArray.size_append, ByteArray.size_append]; rfl
theorem ck_num (s : ByteArray) : (num (ck s.data.toList)).size ≤ 6 ∧ 1 ≤ (num (ck s.data.toList)).size := by
  have h := ck_bd s.data.toList
  exact num_len 5 _ h.1 (by omega)
/-- Where the first mark stands (or the end). -/
def fj (s : ByteArray) : Nat := (s.data.toList.takeWhile fun b => b != 35).length
/-- What stands before the first mark. -/
def pre (s : ByteArray) : ByteArray := s.extract 0 (fj s)
theorem tw_facts (l : List UInt8) : (l.takeWhile fun b => b != 35).length ≤ l.length ∧ l.take (l.takeWhile fun b => b != 35).length = l.takeWhile (fun b => b != 35) ∧
    (∀ i, i < (l.takeWhile fun b => b != 35).length → l[i]? ≠ some 35) ∧ ((l.takeWhile fun b => b != 35).length < l.length → l[(l.takeWhile fun b => b != 35).length]? = some 35) := by
  induction l with
  | nil => simp
  | cons b l ih =>
    obtain ⟨h1, h2, h3, h4⟩ := ih
    by_cases hb : b = 35
    · subst hb; simp
    · have hb' : (b != 35) = true := by simpa using hb
      simp only [List.takeWhile_cons, hb', if_true, List.length_cons, List.take_succ_cons]
      refine ⟨by omega, by rw [h2], fun i hi => ?_, fun hlt => ?_⟩
      · rcases i with _ | i
        · simpa using hb
        · simpa using h3 i (by omega)
      · simpa using h4 (by omega)
theorem list_size (s : ByteArray) : s.data.toList.length = s.size := by rw [Array.length_toList]; rfl
theorem fj_le (s : ByteArray) : fj s ≤ s.size := by rw [← list_size]; exact (tw_facts _).1
theorem fj_no (s : ByteArray) (i : Nat) (h : i < fj s) : s.data.toList[i]? ≠ some 35 := (tw_facts s.data.toList).2.2.1 i h
theorem fj_at (s : ByteArray) (h : fj s < s.size) : s.data.toList[fj s]? = some 35 := (tw_facts s.data.toList).2.2.2 (by rw [list_size]; exact h)
theorem pre_list (s : ByteArray) : (pre s).data.toList = s.data.toList.takeWhile fun b => b != 35 := by
  have e : (pre s).data = s.data.extract 0 (fj s) := by simp [pre]
  rw [e, Array.toList_extract]
  have := (tw_facts s.data.toList).2.1
  simpa [List.extract, fj] using this
theorem pre_no (s : ByteArray) : (35 : UInt8) ∉ (pre s).data.toList := by
  rw [pre_list]
  intro h
  have := List.all_takeWhile (p := fun b : UInt8 => b != 35) (l := s.data.toList)
  have h2 := List.all_eq_true.1 this 35 h
  simp at h2
theorem pre_size (s : ByteArray) : (pre s).size = fj s := by
  rw [← list_size, pre_list]; rfl
/-- What the library's Cut hands back first. -/
theorem cut_pre (s : ByteArray) : (⟨(Lib.cut s.data.toList [35]).1.toArray⟩ : ByteArray) = pre s := by
  have hx : ∀ l : List UInt8, (Lib.index l [35] = -1 ∧ l.takeWhile (fun b => b != 35) = l) ∨ (0 ≤ Lib.index l [35] ∧ (Lib.index l [35]).toNat = (l.takeWhile fun b => b != 35).length) := by
    intro l
    induction l with
    | nil => left; simp [Lib.index]
    | cons b l ih =>
      by_cases hb : b = 35
      · subst hb; right; simp [Lib.index]
      · have hb' : (b != 35) = true := by simpa using hb
        have hp : ([35] : List UInt8).isPrefixOf (b :: l) = false := by
          simp [List.isPrefixOf]; exact fun e => hb e.symm
        simp only [Lib.index, hp, List.takeWhile_cons, hb', if_true, Bool.false_eq_true, if_false]
        rcases ih with ⟨h1, h2⟩ | ⟨h1, h2⟩
        · left; rw [h1, h2]; simp
        · right
          have : ¬ (Lib.index l [35] == -1) = true := by simp; omega
          rw [if_neg this]
          simp; omega
  apply ByteArray.ext
  apply Array.ext'
  rw [pre_list]
  unfold Lib.cut
  rcases hx s.data.toList with ⟨h1, h2⟩ | ⟨h1, h2⟩
  · rw [if_neg (by omega)]; simp [h2]
  · rw [if_pos h1]; simp only [h2]; simpa using (tw_facts s.data.toList).2.1
theorem sp_none {c : UInt8} {s : ByteArray} : ∀ k, k ≤ s.size → (∀ i, i < k → s.data.toList[i]? ≠ some c) → spP c s k = [] ∧ spF c s k = 0 := by
  intro k
  induction k with
  | zero => intro _ _; exact ⟨rfl, rfl⟩
  | succ k ih =>
    intro hk hn
    have h1 := ih (by omega) (fun i hi => hn i (by omega))
    rw [spP, spF, if_neg (hn k (by omega)), if_neg (hn k (by omega))]
    exact h1
theorem split_mono {c : UInt8} {s : ByteArray} : ∀ k, k ≤ s.size → ∀ j, j ≤ k → spP c s j <+: spP c s k := by
  intro k
  induction k with
  | zero => intro _ j hj; obtain rfl : j = 0 := by omega
            exact List.prefix_refl _
  | succ k ih =>
    intro hk j hj
    by_cases e : j = k + 1
    · subst e; exact List.prefix_refl _
    · refine (ih (by omega) j (by omega)).trans ?_
      conv => rhs; unfold spP
      split
      · exact List.prefix_append _ _
      · exact List.prefix_refl _
/-- The first part is what stands before the first mark. -/
theorem split_first (s : ByteArray) : (splitAll 35 s)[0]? = some (pre s) := by
  by_cases h : fj s < s.size
  · have h0 := sp_none (c := 35) (s := s) (fj s) (by omega) (fun i hi => fj_no s i hi)
    have h1 : spP 35 s (fj s + 1) = [pre s] := by
      rw [spP, if_pos (fj_at s h), h0.1, h0.2]; rfl
    have h2 := split_mono (c := 35) (s := s) s.size (Nat.le_refl _) (fj s + 1) (by omega)
    rw [h1] at h2
    obtain ⟨r, hr⟩ := h2
    unfold splitAll
    rw [← hr]; rfl
  · have hj : fj s = s.size := by have := fj_le s; omega
    have h0 := sp_none (c := 35) (s := s) s.size (Nat.le_refl _) (fun i hi => fj_no s i (by omega))
    unfold splitAll
    rw [h0.1, h0.2]
    show some (s.extract 0 s.size) = _
    rw [pre, hj]
def Vok (s : ByteArray) : Prop := s.size ≤ 4000 ∧ sealB (pre s) = s
theorem sok_of_vok {s : ByteArray} (h : Vok s) : Sok (pre s) := by
  refine ⟨?_, pre_no s, by rw [h.2]; exact h.1⟩
  rw [pre_size]; have := fj_le s; have := h.1; omega
end Go.Proofs.YthnbbaefeojanaaDoor
