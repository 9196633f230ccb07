/- Sets of brakes, and what the functions of the chapter answer, in plain words. No condition. -/
import Derived.Test.YthmoogkllpcebaaDoorBrkMath
import Derived.Test.YthmoogkllpcebaaDoorKindW
namespace Go.Proofs.YthmoogkllpcebaaDoor
open Go.RowKit
set_option linter.unusedVariables false
/-- The members of a set of four. -/
def mem10 (s : Nat) : List Nat := (List.range 4).filter (fun i => s.testBit i)
def tz10 (s : Nat) : Nat := if s.testBit 0 then 0 else if s.testBit 1 then 1 else if s.testBit 2 then 2 else if s.testBit 3 then 3 else 64
theorem mem10_step : ∀ s, s < 16 → s ≠ 0 → mem10 s = tz10 s :: mem10 (s &&& (s - 1)) := by decide
theorem mem10_zero : mem10 0 = [] := by decide
theorem low10_lt : ∀ s, s < 16 → s ≠ 0 → s &&& (s - 1) < s := by decide
theorem mem10_len : ∀ s, s < 16 → (mem10 s).length ≤ 4 := by decide
theorem tz10_lt : ∀ s, s < 16 → s ≠ 0 → tz10 s < 4 := by decide
/-- The set of all of n. -/
def full10 (n : Nat) : Nat := 2 ^ n - 1
theorem full10_lt : ∀ n, n ≤ 4 → full10 n < 16 := by
  intro n hn
  have : n = 0 ∨ n = 1 ∨ n = 2 ∨ n = 3 ∨ n = 4 := by omega
  rcases this with rfl | rfl | rfl | rfl | rfl <;> decide
theorem full10_bit : ∀ n i, i < n → (full10 n).testBit i = true := by
  intro n i h
  simp [full10, h]
theorem set_bit {n s i : Nat} (h : s < 2 ^ n) (hi : n ≤ i) : s.testBit i = false := Nat.testBit_lt_two_pow (Nat.lt_of_lt_of_le h (Nat.pow_le_pow_right (by decide) hi))
theorem filter_range_more (u : Nat → Bool) (n : Nat) : ∀ m, (∀ i, n ≤ i → i < n + m → u i = false) → (List.range (n + m)).filter u = (List.range n).filter u
  | 0, _ => rfl
  | m + 1, h => by
    have ih := filter_range_more u n m (fun i a b => h i a (by omega))
    rw [show n + (m + 1) = (n + m) + 1 by omega, List.range_succ, List.filter_append, ih]
    simp [h (n + m) (by omega) (by omega)]
theorem mem10_of {n s : Nat} (hn : n ≤ 4) (h : s < 2 ^ n) : mem10 s = (List.range n).filter (fun i => s.testBit i) := by
  unfold mem10
  have := filter_range_more (fun i => s.testBit i) n (4 - n) (fun i hi _ => set_bit h hi)
  rw [show n + (4 - n) = 4 by omega] at this
  exact this
theorem set_lt16 {n s : Nat} (hn : n ≤ 4) (h : s < 2 ^ n) : s < 16 := Nat.lt_of_lt_of_le h (by
  have := Nat.pow_le_pow_right (n := 2) (by decide) hn
  simpa using this)
theorem mem10_lt {n s i : Nat} (hn : n ≤ 4) (h : s < 2 ^ n) (hi : i < (mem10 s).length) : (mem10 s).getD i 0 < n := by
  have hm : (mem10 s).getD i 0 ∈ mem10 s := by
    simp only [List.getD, List.getElem?_eq_getElem hi, Option.getD_some]
    exact List.getElem_mem hi
  generalize (mem10 s).getD i 0 = x at *
  rw [mem10_of hn h] at hm
  have := (List.mem_filter.1 hm).1
  simpa using this
/-- What the brakes of a list of indices hold back. -/
def holdL (l : List Brk) (k : Int) : List Nat → Int
  | [] => 0
  | i :: r => (if (gth l i).d ≤ k then (gth l i).f else 0) + holdL l k r
theorem holdL_append (l : List Brk) (k : Int) : ∀ a b, holdL l k (a ++ b) = holdL l k a + holdL l k b
  | [], b => by simp [holdL]
  | i :: r, b => by
    have ih := holdL_append l k r b
    simp only [List.cons_append, holdL, ih]
    omega
theorem holdL_hold (l : List Brk) (u : Nat → Bool) (k : Int) : ∀ n, holdL l k ((List.range n).filter u) = hold l u k n
  | 0 => rfl
  | n + 1 => by
    have ih := holdL_hold l u k n
    rw [List.range_succ, List.filter_append, holdL_append, ih]
    simp only [hold]
    congr 1
    cases hu : u n with
    | true => simp [hu, holdL]
    | false => simp [hu, holdL]
theorem holdL_take (l : List Brk) (k : Int) (ms : List Nat) (j : Nat) (h : j < ms.length) : holdL l k (ms.take (j + 1)) = holdL l k (ms.take j) + (if (gth l (ms.getD j 0)).d ≤ k then (gth l (ms.getD j 0)).f else 0) := by
  rw [List.take_add_one, holdL_append]
  simp only [List.getElem?_eq_getElem h, Option.toList_some, List.getD, Option.getD_some, holdL]
  omega
theorem holdL_bd {l : List Brk} (h : GoodB l) (k : Int) : ∀ ms : List Nat, (∀ i ∈ ms, i < l.length) → 0 ≤ holdL l k ms ∧ holdL l k ms ≤ 100000 * (ms.length : Int)
  | [], _ => by simp [holdL]
  | i :: r, hm => by
    have ih := holdL_bd h k r (fun x hx => hm x (List.mem_cons_of_mem _ hx))
    have hb := (h.2 i (hm i (List.mem_cons_self ..))).1
    simp only [holdL, List.length_cons]
    split <;> omega
/-- A valid brake, a valid drive. -/
def bkOk (b : Brk) : Bool := inR b.f 0 100000 && inR b.d 0 10
theorem bkOk_iff (b : Brk) : bkOk b = true ↔ (0 ≤ b.f ∧ b.f ≤ 100000) ∧ (0 ≤ b.d ∧ b.d ≤ 10) := by simp [bkOk, inR_iff]
def drvOk (M P : Int) (l : List Brk) : Bool := inR M 1 100000 && inR P (-100000) 100000 && decide (l.length ≤ 4) && l.all bkOk
theorem all_gth {α : Type} [Inhabited α] (l : List α) (p : α → Bool) : l.all p = true ↔ ∀ i, i < l.length → p (gth l i) = true := by
  rw [List.all_eq_true]
  constructor
  · intro h i hi; exact h _ (gth_mem hi)
  · intro h x hx
    obtain ⟨i, hi, rfl⟩ := List.getElem_of_mem hx
    rw [← gth_get hi]; exact h i hi
theorem drvOk_iff (M P : Int) (l : List Brk) : drvOk M P l = true ↔ (1 ≤ M ∧ M ≤ 100000) ∧ (-100000 ≤ P ∧ P ≤ 100000) ∧ GoodB l := by
  unfold drvOk GoodB
  rw [Bool.and_eq_true, Bool.and_eq_true, Bool.and_eq_true, inR_iff, inR_iff, all_gth, decide_eq_true_iff]
  constructor
  · rintro ⟨⟨⟨a, b⟩, c⟩, d⟩
    exact ⟨a, b, c, fun i hi => (bkOk_iff _).1 (d i hi)⟩
  · rintro ⟨a, b, c, d⟩
    exact ⟨⟨⟨a, b⟩, c⟩, fun i hi => (bkOk_iff _).2 (d i hi)⟩
/-- The force with a set of brakes. -/
def frS (P : Int) (l : List Brk) (s : Nat) (k : Nat) : Int := frc P l (fun i => s.testBit i) k
theorem frS_mem {P : Int} {l : List Brk} {s : Nat} (hl : l.length ≤ 4) (hs : s < 2 ^ l.length) (k : Nat) : frS P l s k = P - holdL l (k : Int) (mem10 s) := by
  unfold frS frc
  rw [mem10_of hl hs, holdL_hold]
def ask10 (M P : Int) (l : List Brk) (v : Int) : Bool := drvOk M P l && inR v 0 100
/-- It stops within sixty seconds with a set of brakes. -/
def stp10 (M P : Int) (l : List Brk) (v : Int) (s : Nat) : Bool := decide (spK M (frS P l s) v 60 = 0)
def sw10 (M P : Int) (l : List Brk) (v : Int) (s : Nat) : Bool := ask10 M P l v && stp10 M P l v s
def rd10 (M P : Int) (l : List Brk) (v : Int) (s : Nat) : Nat := rdK M (frS P l s) v 60
def spR10 (M P : Int) (l : List Brk) (v : Int) (s : Nat) : List Int := if sw10 M P l v s then spL M (frS P l s) v (rd10 M P l v s) else []
def way10 (M P : Int) (l : List Brk) (v : Int) (s : Nat) : Int := wyK M (frS P l s) v 60
def wy10 (M P : Int) (l : List Brk) (v : Int) (s : Nat) : Int := if sw10 M P l v s then way10 M P l v s else 0
theorem spR10_len (M P : Int) (l : List Brk) (v : Int) (s : Nat) : (spR10 M P l v s).length ≤ 61 := by
  unfold spR10 rd10
  split
  · rw [spL_len]
    have := rdK_le M (frS P l s) v 60
    omega
  · simp
theorem ask10_iff (M P : Int) (l : List Brk) (v : Int) : ask10 M P l v = true ↔ drvOk M P l = true ∧ (0 ≤ v ∧ v ≤ 100) := by simp [ask10, inR_iff]
/-- The sum of successive pairs. -/
def pairs10 (l : List Int) : Nat → Int
  | 0 => 0
  | k + 1 => pairs10 l k + (l.getD k 0 + l.getD (k + 1) 0)
theorem pairs_spL {m : Int} {fr : Nat → Int} {v : Int} {n : Nat} : ∀ k, k ≤ n → pairs10 (spL m fr v n) k = wyK m fr v k
  | 0, _ => rfl
  | k + 1, h => by
    have ih := pairs_spL (m := m) (fr := fr) (v := v) (n := n) k (by omega)
    simp only [pairs10, wyK, ih, spL_get (m := m) (fr := fr) (v := v) (show k ≤ n by omega), spL_get (m := m) (fr := fr) (v := v) h]
/-- The ways of the chapter lie below ten billions. -/
theorem frS_bd {P : Int} {l : List Brk} (h : GoodB l) (hp : -100000 ≤ P ∧ P ≤ 100000) (s k : Nat) : -500000 ≤ frS P l s k ∧ frS P l s k ≤ 100000 := frc_bd h hp _ k
theorem way10_bd {M P : Int} {l : List Brk} {v : Int} (h : ask10 M P l v = true) (s : Nat) : 0 ≤ way10 M P l v s ∧ way10 M P l v s ≤ 10000000000 := by
  obtain ⟨h1, h2⟩ := (ask10_iff _ _ _ _).1 h
  obtain ⟨hm, hp, hg⟩ := (drvOk_iff _ _ _).1 h1
  have a := wyK_bd hm.1 (frS_bd hg hp s) h2 60 (by omega)
  have b := wyK_nonneg (m := M) (fr := frS P l s) h2.1 60
  unfold way10
  omega
end Go.Proofs.YthmoogkllpcebaaDoor
