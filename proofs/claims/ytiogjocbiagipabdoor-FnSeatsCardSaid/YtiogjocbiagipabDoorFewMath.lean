/- The fewest cabins: how many of a list are taken; numbers in order. No condition. -/
import Derived.Test.YtiogjocbiagipabDoorOrdMath
namespace Go.Proofs.YtiogjocbiagipabDoor
open Go.RowKit
set_option linter.unusedVariables false
/-- Numbers in order. -/
def srt (l : List Int) : List Int := l.mergeSort (fun x y => decide (x ≤ y))
theorem srt_perm (l : List Int) : (srt l).Perm l := List.mergeSort_perm l _
theorem srt_pair (l : List Int) : (srt l).Pairwise (fun x y => x ≤ y) := by
  have h := List.pairwise_mergeSort (le := fun x y : Int => decide (x ≤ y)) (fun a b c h g => by simp at *; omega) (fun a b => by simp; omega) l
  exact h.imp (fun h => by simpa using h)
theorem srt_len (l : List Int) : (srt l).length = l.length := (srt_perm l).length_eq
theorem srt_one {l r : List Int} (hp : r.Perm l) (hs : r.Pairwise (fun x y => x ≤ y)) : r = srt l :=
  List.Perm.eq_of_pairwise (le := fun x y : Int => x ≤ y) (fun x y _ _ h g => by omega) hs (srt_pair l) (hp.trans (srt_perm l).symm)
theorem srt_nil : srt [] = [] := List.eq_nil_of_length_eq_zero (by rw [srt_len]; rfl)
theorem put_srt {l : List Int} {n : Int} {k : Nat} (hk : k ≤ l.length) (h1 : ∀ j, j < k → gth (srt l) j < n) (h2 : k < l.length → n ≤ gth (srt l) k) : (srt l).take k ++ [n] ++ (srt l).drop k = srt (l ++ [n]) := by
  have hs := srt_pair l
  have hl := srt_len l
  refine srt_one ?_ ?_
  · have h : (srt l).Perm ((srt l).take k ++ (srt l).drop k) := by rw [List.take_append_drop]
    refine List.Perm.trans ?_ (List.Perm.append_right [n] (h.symm.trans (srt_perm l)))
    rw [List.append_assoc, List.append_assoc]
    exact List.Perm.append_left _ List.perm_append_comm
  · have hT : ∀ y ∈ (srt l).take k, y ≤ n := by
      intro y hy
      obtain ⟨i, hil, rfl⟩ := mem_gth hy
      rw [List.length_take] at hil
      rw [gth_take (by omega)]
      have := h1 i (by omega); omega
    have hD : ∀ y ∈ (srt l).drop k, n ≤ y := by
      intro y hy
      obtain ⟨i, hil, rfl⟩ := mem_gth hy
      rw [List.length_drop] at hil
      rw [gth_drop]
      have h3 := h2 (by omega)
      by_cases e : i = 0
      · subst e; rw [Nat.add_zero]; exact h3
      · have := pair_gth hs (show k < k + i by omega) (by omega); omega
    rw [List.pairwise_append]
    refine ⟨?_, hs.sublist (List.drop_sublist _ _), ?_⟩
    · rw [List.pairwise_append]
      exact ⟨hs.sublist (List.take_sublist _ _), by simp, fun y hy z hz => by rw [List.mem_singleton.1 hz]; exact hT y hy⟩
    · intro y hy z hz
      rw [List.mem_append, List.mem_singleton] at hy
      rcases hy with hy | rfl
      · obtain ⟨i, hil, rfl⟩ := mem_gth hy
        obtain ⟨j, hjl, rfl⟩ := mem_gth hz
        rw [List.length_take] at hil
        rw [List.length_drop] at hjl
        rw [gth_take (by omega), gth_drop]
        exact pair_gth hs (by omega) (by omega)
      · exact hD z hz
/-- How many are taken till they seat m. -/
def fewN : List Cab → Int → Nat
  | [], _ => 0
  | c :: r, m => if m ≤ 0 then 0 else fewN r (m - c.s) + 1
theorem fewN_at : ∀ (r : List Cab) (m : Int) (t : Nat), t ≤ r.length → (∀ j, j < t → sumS (r.take j) < m) → (t = r.length ∨ m ≤ sumS (r.take t)) → fewN r m = t
  | [], m, t, ht, _, _ => by simp at ht; simp [fewN, ht]
  | c :: r, m, 0, _, _, h => by
    rcases h with h | h
    · simp at h
    · simp [sumS] at h; simp [fewN, h]
  | c :: r, m, t + 1, ht, hj, h => by
    have h0 := hj 0 (by omega)
    simp [sumS] at h0
    rw [fewN, if_neg (by omega)]
    have := fewN_at r (m - c.s) t (by simpa using ht) (fun j hjt => by
      have := hj (j + 1) (by omega)
      simp [sumS] at this; omega) (by
      rcases h with h | h
      · exact .inl (by simpa using h)
      · right; simp [sumS] at h; omega)
    omega
theorem fewN_le (r : List Cab) (m : Int) : fewN r m ≤ r.length := by
  induction r generalizing m with
  | nil => simp [fewN]
  | cons c r ih => rw [fewN]; split <;> simp [ih]
/-- What is asked. -/
noncomputable def fwIn (l : List Cab) (m : Int) : Bool := cabL l && inR m 0 200
/-- The ready ones in order. -/
def rdy (l : List Cab) : List Cab := (ordA false l).filter (inSt 0)
noncomputable def fwOk (l : List Cab) (m : Int) : Bool := fwIn l m && decide (m ≤ sumS (rdy l))
noncomputable def fwR (l : List Cab) (m : Int) : List Int := if fwOk l m then srt (nums ((rdy l).take (fewN (rdy l) m))) else []
theorem fw_no {l : List Cab} {m : Int} (h : fwIn l m = false) : fwOk l m = false ∧ fwR l m = [] := by
  have : fwOk l m = false := by simp [fwOk, h]
  exact ⟨this, by simp [fwR, this]⟩
theorem fw_none {l : List Cab} {m : Int} (h : sumS (rdy l) < m) : fwOk l m = false ∧ fwR l m = [] := by
  have : fwOk l m = false := by simp [fwOk]; intro _; omega
  exact ⟨this, by simp [fwR, this]⟩
theorem fw_yes {l : List Cab} {m : Int} (h : fwIn l m = true) (g : m ≤ sumS (rdy l)) : fwOk l m = true ∧ fwR l m = srt (nums ((rdy l).take (fewN (rdy l) m))) := by
  have : fwOk l m = true := by simp [fwOk, h, g]
  exact ⟨this, by simp [fwR, this]⟩
theorem sumS_take_le {r : List Cab} (h : ∀ c ∈ r, 1 ≤ c.s ∧ c.s ≤ 16) (t : Nat) : sumS (r.take t) ≤ sumS r := by
  have h1 := sumS_append (r.take t) (r.drop t)
  rw [List.take_append_drop] at h1
  have h2 := (sumS_bound (r.drop t) (fun c hc => h c (List.mem_of_mem_drop hc))).1
  omega
theorem rdy_len (l : List Cab) : (rdy l).length ≤ l.length := by
  have := List.length_filter_le (inSt 0) (ordA false l); rw [ordA_len] at this; exact this
theorem rdy_seats {l : List Cab} (hl : Cabs l) : ∀ c ∈ rdy l, 1 ≤ c.s ∧ c.s ≤ 16 := fun c hc =>
  hl.seats ((ordA_perm false l).mem_iff.1 ((List.mem_filter.1 hc).1))
theorem fwR_len (l : List Cab) (m : Int) : (fwR l m).length ≤ l.length := by
  unfold fwR
  split
  · rw [srt_len, nums_len, List.length_take]; have := rdy_len l; omega
  · simp
theorem rdy_nums {l : List Cab} (hl : Cabs l) : (rdy l).Pairwise (fun a c => a.i ≠ c.i) := by
  have h1 : l.Pairwise (fun a c : Cab => a.i ≠ c.i) := hl.pair.imp (fun h => by omega)
  have h2 : (ordA false l).Pairwise (fun a c : Cab => a.i ≠ c.i) := (ordA_perm false l).symm.pairwise h1 (fun h => h.symm)
  exact h2.sublist List.filter_sublist
end Go.Proofs.YtiogjocbiagipabDoor
