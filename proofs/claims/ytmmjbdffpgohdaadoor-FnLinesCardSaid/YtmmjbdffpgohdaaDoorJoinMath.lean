/- Plain facts on joining strings. No condition. -/
import Derived.Test.YtmmjbdffpgohdaaDoorSplitMath
import Derived.Lib.Join
namespace Go.Proofs.YtmmjbdffpgohdaaDoor
open Go.RowKit
set_option linter.unusedVariables false
/-- The sizes, added up. -/
def szs (l : List ByteArray) : Nat := (l.map ByteArray.size).sum
theorem szs_take (l : List ByteArray) (k : Nat) (h : k < l.length) : szs (l.take (k + 1)) = szs (l.take k) + l[k].size := by
  unfold szs; rw [List.take_succ_eq_append_getElem h, List.map_append, List.sum_append]; simp
theorem szs_take_le (l : List ByteArray) (k : Nat) : szs (l.take k) ≤ szs l := by
  have h : szs (l.take k) + szs (l.drop k) = szs l := by
    unfold szs; rw [← List.sum_append, ← List.map_append, List.take_append_drop]
  omega
/-- What is joined after k elements. -/
def jnK (l : List ByteArray) (sep : ByteArray) : Nat → ByteArray
  | 0 => ⟨#[]⟩
  | k + 1 => (if k = 0 then jnK l sep k else jnK l sep k ++ sep) ++ l[k]?.getD ⟨#[]⟩
theorem jnK_size (l : List ByteArray) (sep : ByteArray) (hp : sep.size = 1) : ∀ k, k ≤ l.length → (jnK l sep k).size = szs (l.take k) + (k - 1) := by
  intro k
  induction k with
  | zero => intro _; simp [jnK, szs]; rfl
  | succ k ih =>
    intro hk
    rw [szs_take l k (by omega), jnK, List.getElem?_eq_getElem (by omega : k < l.length)]
    have := ih (by omega)
    by_cases h : k = 0
    · subst h; rw [if_pos rfl, ByteArray.size_append, this]; simp
    · rw [if_neg h, ByteArray.size_append, ByteArray.size_append, this, hp]; simp; omega
def joinAll (l : List ByteArray) (sep : ByteArray) : ByteArray := ⟨(Lib.join (l.map (·.data.toList)) sep.data.toList).toArray⟩
theorem jnK_list (l : List ByteArray) (sep : ByteArray) : ∀ k, k ≤ l.length → (jnK l sep k).data.toList = Lib.join ((l.take k).map (·.data.toList)) sep.data.toList := by
  intro k
  induction k with
  | zero => intro _; simp [jnK, Lib.join_nil]
  | succ k ih =>
    intro hk
    have h1 := ih (by omega)
    have hk' : k < l.length := by omega
    rw [jnK, List.getElem?_eq_getElem hk']
    cases l with
    | nil => simp at hk
    | cons x r =>
      by_cases h : k = 0
      · subst h
        simp [jnK, Lib.join_one]
      · obtain ⟨j, rfl⟩ : ∃ j, k = j + 1 := ⟨k - 1, by omega⟩
        rw [if_neg h]
        have hj : j < r.length := by simp at hk; omega
        simp only [List.take_succ_cons, List.map_cons, Lib.join_cons] at h1 ⊢
        have ht := Lib.joinTail_take_succ sep.data.toList (r.map (·.data.toList)) j (r[j].data.toList) (by simp [hj])
        rw [List.map_take, ht]
        rw [List.map_take] at h1
        simp [h1, List.append_assoc]
theorem jnK_all (l : List ByteArray) (sep : ByteArray) : jnK l sep l.length = joinAll l sep := by
  have h := jnK_list l sep l.length (Nat.le_refl _)
  rw [List.take_length] at h
  have : (jnK l sep l.length).data = (joinAll l sep).data := by
    apply Array.ext'; rw [h]; simp [joinAll]
  cases hx : jnK l sep l.length; cases hy : joinAll l sep
  rw [hx, hy] at this; simp at this; rw [this]
/-- The elements may be joined. -/
def Jok (l : List ByteArray) (c : UInt8) : Prop := (∀ x ∈ l, c ∉ x.data.toList) ∧ szs l + (l.length - 1) ≤ 4000
end Go.Proofs.YtmmjbdffpgohdaaDoor
