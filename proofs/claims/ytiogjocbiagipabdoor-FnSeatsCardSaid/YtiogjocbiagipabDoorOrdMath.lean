/- Cabins in order: by seats or by trips, the smaller number first; there is one such order. No condition. -/
import Derived.Test.YtiogjocbiagipabDoorCabMath
import Derived.Sort.Statements
import Derived.Shelf.SlSortCmp.Insertion
namespace Go.Proofs.YtiogjocbiagipabDoor
open Go.RowKit
set_option linter.unusedVariables false
/-- What is compared first. -/
def keyC (b : Bool) (c : Cab) : Int := if b then c.p else c.s
/-- x comes ahead of y. -/
def Befo (b : Bool) (x y : Cab) : Prop := keyC b y < keyC b x ∨ (keyC b x = keyC b y ∧ x.i < y.i)
theorem Befo.not {b : Bool} {x y : Cab} (h : Befo b x y) (g : Befo b y x) : False := by
  unfold Befo at h g; omega
/-- The place of x in o: behind the last one that has as much. -/
def pkC (b : Bool) (o : List Cab) (x : Cab) : Nat → Nat
  | 0 => 0
  | k + 1 => if keyC b (gth o k) < keyC b x then pkC b o x k else k + 1
theorem pkC_le (b : Bool) (o : List Cab) (x : Cab) : ∀ k, pkC b o x k ≤ k
  | 0 => Nat.le_refl _
  | k + 1 => by rw [pkC]; have := pkC_le b o x k; split <;> omega
theorem pkC_down {b : Bool} {o : List Cab} {x : Cab} {k : Nat} (h : keyC b (gth o k) < keyC b x) : pkC b o x (k + 1) = pkC b o x k := by rw [pkC, if_pos h]
theorem pkC_stop {b : Bool} {o : List Cab} {x : Cab} {k : Nat} (h : keyC b x ≤ keyC b (gth o k)) : pkC b o x (k + 1) = k + 1 := by rw [pkC, if_neg (by omega)]
theorem pkC_above (b : Bool) (o : List Cab) (x : Cab) : ∀ k j, pkC b o x k ≤ j → j < k → keyC b (gth o j) < keyC b x
  | 0, j, _, h => by omega
  | k + 1, j, h, g => by
    by_cases hh : keyC b (gth o k) < keyC b x
    · rw [pkC_down hh] at h
      by_cases e : j = k
      · subst e; exact hh
      · exact pkC_above b o x k j h (by omega)
    · rw [pkC_stop (by omega)] at h; omega
theorem pkC_last (b : Bool) (o : List Cab) (x : Cab) : ∀ k, 0 < pkC b o x k → keyC b x ≤ keyC b (gth o (pkC b o x k - 1))
  | 0, h => by rw [pkC] at h; omega
  | k + 1, h => by
    by_cases hh : keyC b (gth o k) < keyC b x
    · rw [pkC_down hh] at h ⊢; exact pkC_last b o x k h
    · rw [pkC_stop (by omega)]; rw [Nat.add_sub_cancel]; omega
/-- x laid at its place. -/
def insC (b : Bool) (o : List Cab) (x : Cab) : List Cab := o.take (pkC b o x o.length) ++ [x] ++ o.drop (pkC b o x o.length)
theorem insC_perm (b : Bool) (o : List Cab) (x : Cab) : (insC b o x).Perm (o ++ [x]) := by
  unfold insC
  have h : o.Perm (o.take (pkC b o x o.length) ++ o.drop (pkC b o x o.length)) := by rw [List.take_append_drop]
  refine List.Perm.trans ?_ ((List.Perm.append_right [x] h).symm)
  rw [List.append_assoc, List.append_assoc]
  exact List.Perm.append_left _ List.perm_append_comm
theorem insC_len (b : Bool) (o : List Cab) (x : Cab) : (insC b o x).length = o.length + 1 := by
  have := (insC_perm b o x).length_eq; simpa using this
theorem mem_gth {α : Type} [Inhabited α] {l : List α} {x : α} (h : x ∈ l) : ∃ i, i < l.length ∧ x = gth l i := by
  obtain ⟨i, hi, rfl⟩ := List.getElem_of_mem h
  exact ⟨i, hi, (gth_get hi).symm⟩
theorem pair_gth {α : Type} [Inhabited α] {R : α → α → Prop} {l : List α} (h : l.Pairwise R) {i j : Nat} (hij : i < j) (hj : j < l.length) : R (gth l i) (gth l j) := by
  rw [gth_get hj, gth_get (by omega : i < l.length)]
  exact List.pairwise_iff_getElem.1 h i j (by omega) hj hij
theorem insC_pair {b : Bool} {o : List Cab} {x : Cab} (h : o.Pairwise (Befo b)) (hi : ∀ y ∈ o, y.i < x.i) : (insC b o x).Pairwise (Befo b) := by
  unfold insC
  obtain ⟨k, hk⟩ : ∃ k, k = pkC b o x o.length := ⟨_, rfl⟩
  have hkl := pkC_le b o x o.length
  have hA := pkC_above b o x o.length
  have hL := pkC_last b o x o.length
  rw [← hk] at hkl hA hL ⊢
  have hT : ∀ y ∈ o.take k, Befo b y x := by
    intro y hy
    obtain ⟨i, hil, rfl⟩ := mem_gth hy
    rw [List.length_take, Nat.min_eq_left hkl] at hil
    rw [gth_take hil]
    have h1 := hL (by omega)
    have h2 : keyC b (gth o (k - 1)) ≤ keyC b (gth o i) := by
      by_cases e : i = k - 1
      · subst e; exact Int.le_refl _
      · have := pair_gth h (show i < k - 1 by omega) (by omega)
        unfold Befo at this; omega
    have h3 := hi _ (gth_mem (show i < o.length by omega))
    unfold Befo; omega
  have hD : ∀ y ∈ o.drop k, Befo b x y := by
    intro y hy
    obtain ⟨i, hil, rfl⟩ := mem_gth hy
    rw [List.length_drop] at hil
    rw [gth_drop]
    exact .inl (hA (k + i) (by omega) (by omega))
  rw [List.pairwise_append]
  refine ⟨?_, h.sublist (List.drop_sublist _ _), ?_⟩
  · rw [List.pairwise_append]
    exact ⟨h.sublist (List.take_sublist _ _), by simp, fun y hy z hz => by rw [List.mem_singleton.1 hz]; exact hT y hy⟩
  · intro y hy z hz
    rw [List.mem_append, List.mem_singleton] at hy
    rcases hy with hy | rfl
    · obtain ⟨i, hil, rfl⟩ := mem_gth hy
      obtain ⟨j, hjl, rfl⟩ := mem_gth hz
      rw [List.length_take, Nat.min_eq_left hkl] at hil
      rw [List.length_drop] at hjl
      rw [gth_take hil, gth_drop]
      exact pair_gth h (by omega) (by omega)
    · exact hD z hz
/-- The first k in order. -/
def ordK (b : Bool) (l : List Cab) : Nat → List Cab
  | 0 => []
  | k + 1 => insC b (ordK b l k) (gth l k)
theorem ordK_len (b : Bool) (l : List Cab) : ∀ k, (ordK b l k).length = k
  | 0 => rfl
  | k + 1 => by rw [ordK, insC_len, ordK_len b l k]
theorem ordK_perm (b : Bool) (l : List Cab) : ∀ k, k ≤ l.length → (ordK b l k).Perm (l.take k)
  | 0, _ => by simp [ordK]
  | k + 1, h => by
    rw [ordK, take_gth l k (by omega)]
    exact (insC_perm b _ _).trans (List.Perm.append_right _ (ordK_perm b l k (by omega)))
theorem ordK_pair {b : Bool} {l : List Cab} (hl : Cabs l) : ∀ k, k ≤ l.length → (ordK b l k).Pairwise (Befo b)
  | 0, _ => by simp [ordK]
  | k + 1, h => by
    rw [ordK]
    refine insC_pair (ordK_pair hl k (by omega)) (fun y hy => ?_)
    have := (ordK_perm b l k (by omega)).mem_iff.1 hy
    obtain ⟨i, hil, rfl⟩ := mem_gth this
    rw [List.length_take, Nat.min_eq_left (by omega)] at hil
    rw [gth_take hil]
    exact hl.lt k i hil (by omega)
/-- All of them in order. -/
def ordA (b : Bool) (l : List Cab) : List Cab := ordK b l l.length
theorem ordA_len (b : Bool) (l : List Cab) : (ordA b l).length = l.length := ordK_len b l _
theorem ordA_perm (b : Bool) (l : List Cab) : (ordA b l).Perm l := by have := ordK_perm b l _ (Nat.le_refl _); rwa [List.take_length] at this
theorem ordA_pair {b : Bool} {l : List Cab} (hl : Cabs l) : (ordA b l).Pairwise (Befo b) := ordK_pair hl _ (Nat.le_refl _)
/-- There is one order. -/
theorem ord_one {b : Bool} {l r : List Cab} {q : Cab → Bool} (hl : Cabs l) (hp : r.Perm (l.filter q)) (hs : r.Pairwise (Befo b)) : r = (ordA b l).filter q :=
  List.Perm.eq_of_pairwise (le := Befo b) (fun x y _ _ h g => absurd g (fun g => h.not g)) hs ((ordA_pair hl).sublist List.filter_sublist) (hp.trans ((ordA_perm b l).filter q).symm)
/-- What the program compares. -/
def cfC (b : Bool) (x y : Cab) : Int := if Lib.compareInt (keyC b y) (keyC b x) ≠ 0 then Lib.compareInt (keyC b y) (keyC b x) else Lib.compareInt x.i y.i
theorem cfC_lt (b : Bool) (x y : Cab) : ltOf (cfC b) x y = true ↔ Befo b x y := by
  unfold ltOf cfC Lib.compareInt Befo
  rw [decide_eq_true_eq]
  repeat' split
  all_goals omega
theorem cfC_nlt (b : Bool) (x y : Cab) : ltOf (cfC b) x y = false ↔ ¬ Befo b x y := by
  rw [← cfC_lt]; simp
theorem cfC_swo (b : Bool) : Go.Sort.SWO (ltOf (cfC b)) where
  irrefl := fun x => by rw [cfC_nlt]; unfold Befo; omega
  trans := fun x y z h g => by rw [cfC_lt] at *; unfold Befo at *; omega
  ntrans := fun x y z h g => by rw [cfC_nlt] at *; unfold Befo at *; omega
theorem get_bang {α : Type} [Inhabited α] (d : Array α) (i : Nat) : d[i]! = gth d.toList i := by
  simp only [gth, List.getD, Array.getElem!_eq_getD, Array.getD_eq_getD_getElem?, Array.getElem?_toList]
/-- What the sort of the library makes of what is kept is in the one order. -/
theorem sorted_ord {b : Bool} {l : List Cab} {q : Cab → Bool} {d : Array Cab} (hl : Cabs l) (hp : Go.Sort.PermIn 0 (l.filter q).length (l.filter q).toArray d) (hs : Go.Sort.SortedIn (ltOf (cfC b)) 0 (l.filter q).length d) : d.toList = (ordA b l).filter q := by
  have hz : d.size = (l.filter q).length := by have := hp.1; simpa using this
  have hpp : d.toList.Perm (l.filter q) := by
    have h := hp.2.2
    rw [show (l.filter q).toArray.extract 0 (l.filter q).length = (l.filter q).toArray from by simp, ← hz, Array.extract_size] at h
    simpa using h
  refine ord_one hl hpp ?_
  rw [List.pairwise_iff_getElem]
  intro i j hi hj hij
  have h := hs i j (Nat.zero_le _) hij (by rw [← hz]; simpa using hj)
  rw [get_bang, get_bang, cfC_nlt, gth_get hi, gth_get hj] at h
  -- the numbers part them
  have hnd : d.toList.Pairwise (fun a c => a.i ≠ c.i) := by
    have h1 : (l.filter q).Pairwise (fun a c : Cab => a.i ≠ c.i) := (hl.pair.sublist List.filter_sublist).imp (fun h => by omega)
    exact hpp.symm.pairwise h1 (fun h => h.symm)
  have hne := List.pairwise_iff_getElem.1 hnd i j hi hj hij
  unfold Befo at h ⊢
  omega
end Go.Proofs.YtiogjocbiagipabDoor
