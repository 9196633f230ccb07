/- Brakes in plain words: the forces, the speeds, the way; what a greater force does. No condition. -/
import Derived.Test.YthmoogkllpcebaaDoorBrkS
namespace Go.Proofs.YthmoogkllpcebaaDoor
open Go.RowKit
set_option linter.unusedVariables false
/-- A quotient rounded down, as the specification reckons it. -/
theorem floor_pos {a b : Int} (h : 0 ≤ a) (hb : 0 < b) : Int.tdiv a b = a / b := Int.tdiv_eq_ediv_of_nonneg h
theorem floor_neg {a b : Int} (h : a < 0) (hb : 0 < b) : -(Int.tdiv (-a + b - 1) b) = a / b := by
  rw [Int.tdiv_eq_ediv_of_nonneg (by omega)]
  have h1 := Int.mul_ediv_self_le (x := a) (k := b) (by omega)
  have h2 := Int.lt_mul_ediv_self_add (x := a) (k := b) hb
  have h3 : (-a + b - 1) / b = -(a / b) := by
    rw [Int.ediv_eq_iff_of_pos hb]
    generalize a / b = q at *
    have e1 : b * q = q * b := Int.mul_comm _ _
    have e2 : -q * b = -(q * b) := Int.neg_mul _ _
    have e3 : (-q + 1) * b = -(q * b) + b := by rw [Int.add_mul, Int.neg_mul, Int.one_mul]
    constructor <;> omega
  rw [h3]
  omega
/-- What the used brakes among the first j hold back in the second k. -/
def hold (bs : List Brk) (u : Nat → Bool) (k : Int) : Nat → Int
  | 0 => 0
  | j + 1 => hold bs u k j + (if u j && decide ((gth bs j).d ≤ k) then (gth bs j).f else 0)
def GoodB (bs : List Brk) : Prop := bs.length ≤ 4 ∧ ∀ i, i < bs.length → (0 ≤ (gth bs i).f ∧ (gth bs i).f ≤ 100000) ∧ (0 ≤ (gth bs i).d ∧ (gth bs i).d ≤ 10)
theorem hold_bd {bs : List Brk} (h : GoodB bs) (u : Nat → Bool) (k : Int) : ∀ j, j ≤ bs.length → 0 ≤ hold bs u k j ∧ hold bs u k j ≤ 100000 * (j : Int)
  | 0, _ => by simp [hold]
  | j + 1, hj => by
    have ih := hold_bd h u k j (by omega)
    have hb := (h.2 j (by omega)).1
    simp only [hold]
    split <;> omega
/-- More brakes hold back more. -/
theorem hold_more {bs : List Brk} (h : GoodB bs) {u v : Nat → Bool} (huv : ∀ i, i < bs.length → u i = true → v i = true) (k : Int) : ∀ j, j ≤ bs.length → hold bs u k j ≤ hold bs v k j
  | 0, _ => by simp [hold]
  | j + 1, hj => by
    have ih := hold_more h huv k j (by omega)
    have hb := (h.2 j (by omega)).1
    have hx := huv j (by omega)
    simp only [hold]
    cases hu : u j with
    | false =>
      simp only [Bool.false_and]
      split
      · rename_i hc; simp at hc
      · split <;> omega
    | true =>
      rw [hx hu]
      omega
/-- The force in the second k. -/
def frc (p : Int) (bs : List Brk) (u : Nat → Bool) (k : Nat) : Int := p - hold bs u (k : Int) bs.length
theorem frc_bd {p : Int} {bs : List Brk} (h : GoodB bs) (hp : -100000 ≤ p ∧ p ≤ 100000) (u : Nat → Bool) (k : Nat) : -500000 ≤ frc p bs u k ∧ frc p bs u k ≤ 100000 := by
  have hb := hold_bd h u (k : Int) bs.length (Nat.le_refl _)
  have h4 := h.1
  unfold frc
  omega
/-- The speed after one second more. -/
def nxt (m v f : Int) : Int := if v + 10 * f / m < 0 then 0 else v + 10 * f / m
/-- The speed after k seconds: a rope that stands stays. -/
def spK (m : Int) (fr : Nat → Int) (v : Int) : Nat → Int
  | 0 => v
  | k + 1 => if 0 < spK m fr v k then nxt m (spK m fr v k) (fr k) else spK m fr v k
theorem spK_nonneg {m : Int} {fr : Nat → Int} {v : Int} (hv : 0 ≤ v) : ∀ k, 0 ≤ spK m fr v k
  | 0 => hv
  | k + 1 => by
    have ih := spK_nonneg (m := m) (fr := fr) hv k
    simp only [spK]
    split
    · unfold nxt; split <;> omega
    · exact ih
theorem quo_bd {m f : Int} (hm : 1 ≤ m) (hf : -500000 ≤ f ∧ f ≤ 100000) : -5000000 ≤ 10 * f / m ∧ 10 * f / m ≤ 1000000 := by
  constructor
  · rw [Int.le_ediv_iff_mul_le (by omega)]
    omega
  · by_cases h0 : 0 ≤ 10 * f
    · exact Int.le_trans (Int.ediv_le_self _ h0) (by omega)
    · have := Int.ediv_neg_of_neg_of_pos (a := 10 * f) (b := m) (by omega) (by omega)
      omega
theorem spK_bd {m : Int} {fr : Nat → Int} {v : Int} (hm : 1 ≤ m) (hf : ∀ k, -500000 ≤ fr k ∧ fr k ≤ 100000) (hv : 0 ≤ v ∧ v ≤ 100) : ∀ k, spK m fr v k ≤ 100 + 1000000 * (k : Int)
  | 0 => by simp [spK]; omega
  | k + 1 => by
    have ih := spK_bd hm hf hv k
    have q := quo_bd hm (hf k)
    simp only [spK]
    split
    · unfold nxt; split <;> omega
    · omega
theorem spK_stay {m : Int} {fr : Nat → Int} {v : Int} {k : Nat} (h : spK m fr v k = 0) : ∀ j, spK m fr v (k + j) = 0
  | 0 => h
  | j + 1 => by
    have ih := spK_stay h j
    rw [show k + (j + 1) = (k + j) + 1 by omega]
    simp only [spK]
    rw [ih]
    simp
/-- A greater force never makes it slower. -/
theorem spK_more {m : Int} {fr gr : Nat → Int} {v u : Int} (hm : 1 ≤ m) (hv : 0 ≤ v ∧ v ≤ u) (h : ∀ k, fr k ≤ gr k) : ∀ k, spK m fr v k ≤ spK m gr u k
  | 0 => hv.2
  | k + 1 => by
    have ih := spK_more hm hv h k
    have p1 := spK_nonneg (m := m) (fr := fr) hv.1 k
    have p2 := spK_nonneg (m := m) (fr := gr) (v := u) (by omega) k
    simp only [spK]
    by_cases c1 : 0 < spK m fr v k
    · have c2 : 0 < spK m gr u k := by omega
      rw [if_pos c1, if_pos c2]
      have hq : 10 * fr k / m ≤ 10 * gr k / m := Int.ediv_le_ediv (by omega) (by have := h k; omega)
      unfold nxt
      split <;> split <;> omega
    · rw [if_neg c1]
      split
      · unfold nxt; split <;> omega
      · omega
/-- The way of the first k seconds, in half decimeters. -/
def wyK (m : Int) (fr : Nat → Int) (v : Int) : Nat → Int
  | 0 => 0
  | k + 1 => wyK m fr v k + (spK m fr v k + spK m fr v (k + 1))
theorem wyK_nonneg {m : Int} {fr : Nat → Int} {v : Int} (hv : 0 ≤ v) : ∀ k, 0 ≤ wyK m fr v k
  | 0 => Int.le_refl _
  | k + 1 => by
    have ih := wyK_nonneg (m := m) (fr := fr) hv k
    have h1 := spK_nonneg (m := m) (fr := fr) hv k
    have h2 := spK_nonneg (m := m) (fr := fr) hv (k + 1)
    simp only [wyK]
    omega
theorem wyK_more {m : Int} {fr gr : Nat → Int} {v u : Int} (hm : 1 ≤ m) (hv : 0 ≤ v ∧ v ≤ u) (h : ∀ k, fr k ≤ gr k) : ∀ k, wyK m fr v k ≤ wyK m gr u k
  | 0 => Int.le_refl _
  | k + 1 => by
    have ih := wyK_more hm hv h k
    have h1 := spK_more hm hv h k
    have h2 := spK_more hm hv h (k + 1)
    simp only [wyK]
    omega
theorem wyK_stay {m : Int} {fr : Nat → Int} {v : Int} {k : Nat} (h : spK m fr v k = 0) : ∀ j, wyK m fr v (k + j) = wyK m fr v k
  | 0 => rfl
  | j + 1 => by
    have ih := wyK_stay h j
    have h1 := spK_stay h j
    have h2 := spK_stay h (j + 1)
    rw [show k + (j + 1) = (k + j) + 1 by omega] at h2 ⊢
    simp only [wyK]
    rw [ih, h1, h2]
    omega
theorem wyK_bd {m : Int} {fr : Nat → Int} {v : Int} (hm : 1 ≤ m) (hf : ∀ k, -500000 ≤ fr k ∧ fr k ≤ 100000) (hv : 0 ≤ v ∧ v ≤ 100) : ∀ k, k ≤ 60 → wyK m fr v k ≤ 130000000 * (k : Int)
  | 0, _ => by simp [wyK]
  | k + 1, hk => by
    have ih := wyK_bd hm hf hv k (by omega)
    have h1 := spK_bd hm hf hv k
    have h2 := spK_bd hm hf hv (k + 1)
    simp only [wyK]
    omega
/-- How many of the first k seconds pass until it stands. -/
def rdK (m : Int) (fr : Nat → Int) (v : Int) : Nat → Nat
  | 0 => 0
  | k + 1 => if 0 < spK m fr v k then k + 1 else rdK m fr v k
theorem rdK_le (m : Int) (fr : Nat → Int) (v : Int) : ∀ k, rdK m fr v k ≤ k
  | 0 => Nat.le_refl _
  | k + 1 => by
    have ih := rdK_le m fr v k
    unfold rdK
    split <;> omega
/-- All before it moved; at it the rope stands, or the seconds are over. -/
theorem rdK_at {m : Int} {fr : Nat → Int} {v : Int} (hv : 0 ≤ v) : ∀ k, (∀ j, j < rdK m fr v k → 0 < spK m fr v j) ∧ (rdK m fr v k < k → spK m fr v (rdK m fr v k) = 0)
  | 0 => by simp [rdK]
  | k + 1 => by
    obtain ⟨h1, h2⟩ := rdK_at (m := m) (fr := fr) hv k
    have hle := rdK_le m fr v k
    have p := spK_nonneg (m := m) (fr := fr) hv k
    unfold rdK
    by_cases c : 0 < spK m fr v k
    · rw [if_pos c]
      refine ⟨fun j hj => ?_, fun hh => by omega⟩
      by_cases e : j = k
      · subst e; exact c
      · by_cases hlt : j < rdK m fr v k
        · exact h1 j hlt
        · exfalso
          have hz := h2 (by omega)
          have := spK_stay hz (k - rdK m fr v k)
          rw [show rdK m fr v k + (k - rdK m fr v k) = k by omega] at this
          omega
    · rw [if_neg c]
      refine ⟨h1, fun _ => ?_⟩
      by_cases e : rdK m fr v k < k
      · exact h2 e
      · rw [show rdK m fr v k = k by omega]; omega
/-- It stands within sixty seconds: its way then is that of all sixty. -/
theorem rdK_way {m : Int} {fr : Nat → Int} {v : Int} {n : Nat} (h : spK m fr v (rdK m fr v n) = 0) : wyK m fr v n = wyK m fr v (rdK m fr v n) ∧ spK m fr v n = 0 := by
  have hle := rdK_le m fr v n
  have h1 := wyK_stay h (n - rdK m fr v n)
  have h2 := spK_stay h (n - rdK m fr v n)
  rw [show rdK m fr v n + (n - rdK m fr v n) = n by omega] at h1 h2
  exact ⟨h1, h2⟩
theorem rdK_stop {m : Int} {fr : Nat → Int} {v : Int} {n : Nat} (hv : 0 ≤ v) : spK m fr v (rdK m fr v n) = 0 ↔ spK m fr v n = 0 := by
  refine ⟨fun h => (rdK_way h).2, fun h => ?_⟩
  obtain ⟨_, h2⟩ := rdK_at (m := m) (fr := fr) hv n
  by_cases e : rdK m fr v n < n
  · exact h2 e
  · rw [show rdK m fr v n = n by have := rdK_le m fr v n; omega]; exact h
/-- The speeds, one after another. -/
def spL (m : Int) (fr : Nat → Int) (v : Int) (k : Nat) : List Int := (List.range (k + 1)).map (spK m fr v)
theorem spL_len (m : Int) (fr : Nat → Int) (v : Int) (k : Nat) : (spL m fr v k).length = k + 1 := by simp [spL]
theorem spL_get {m : Int} {fr : Nat → Int} {v : Int} {k i : Nat} (h : i ≤ k) : (spL m fr v k).getD i 0 = spK m fr v i := by
  have : i < k + 1 := by omega
  simp [spL, List.getD, this]
theorem spL_succ (m : Int) (fr : Nat → Int) (v : Int) (k : Nat) : spL m fr v (k + 1) = spL m fr v k ++ [spK m fr v (k + 1)] := by
  unfold spL
  rw [List.range_succ, List.map_append]
  rfl
end Go.Proofs.YthmoogkllpcebaaDoor
