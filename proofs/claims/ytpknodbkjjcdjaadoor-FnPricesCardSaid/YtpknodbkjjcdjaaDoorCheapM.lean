/- The cheapest tickets: the first least of all numbers of singles, returns and days, with the tens that are still needed; more than one day ticket is never better. No condition. -/
import Derived.Test.YtpknodbkjjcdjaaDoorTkMath
import Derived.Test.YtpknodbkjjcdjaaDoorPrcS
namespace Go.Proofs.YtpknodbkjjcdjaaDoor
open Go.RowKit
set_option linter.unusedVariables false
/-- Valid prices. -/
def prcV (p : Prc) : Bool := inR p.a 0 50000 && inR p.b 0 50000 && inR p.c 0 50000 && inR p.d 0 50000
theorem prcV_iff (p : Prc) : prcV p = true ↔ (0 ≤ p.a ∧ p.a ≤ 50000) ∧ (0 ≤ p.b ∧ p.b ≤ 50000) ∧ (0 ≤ p.c ∧ p.c ≤ 50000) ∧ (0 ≤ p.d ∧ p.d ≤ 50000) := by
  unfold prcV; simp only [Bool.and_eq_true, inR_iff]
  constructor
  · rintro ⟨⟨⟨a, b⟩, c⟩, d⟩; exact ⟨a, b, c, d⟩
  · rintro ⟨a, b, c, d⟩; exact ⟨⟨⟨a, b⟩, c⟩, d⟩
def chOk (p : Prc) (u v : Int) : Bool := prcV p && inR u 0 20 && inR v 0 20
/-- The tens that are needed beside s singles, r returns and d days. -/
def chT (u v s r d : Int) : Int := (max 0 (max 0 (u - r - 50 * d) + max 0 (v - r - 50 * d) - s) + 9) / 10
def chC (p : Prc) (u v s r d : Int) : Int := s * p.a + r * p.b + d * p.c + chT u v s r d * p.d
structure ChS where
  least : Int
  s : Int
  r : Int
  d : Int
  t : Int
def ch0 : ChS := ⟨-1, 0, 0, 0, 0⟩
def chU (p : Prc) (u v : Int) (z : ChS) (s r d : Int) : ChS := if z.least < 0 ∨ chC p u v s r d < z.least then ⟨chC p u v s r d, s, r, d, chT u v s r d⟩ else z
def chD (p : Prc) (u v s r : Int) (z : ChS) : Nat → ChS
  | 0 => z
  | k + 1 => chU p u v (chD p u v s r z k) s r k
def chB (m : Nat) (p : Prc) (u v s : Int) (z : ChS) : Nat → ChS
  | 0 => z
  | k + 1 => chD p u v s k (chB m p u v s z k) m
def chS (m : Nat) (p : Prc) (u v : Int) : Nat → ChS
  | 0 => ch0
  | k + 1 => chB m p u v k (chS m p u v k) 21
theorem chT_bd {u v s r d : Int} (hu : u ≤ 20) (hv : v ≤ 20) (hs : 0 ≤ s) (hr : 0 ≤ r) (hd : 0 ≤ d) : 0 ≤ chT u v s r d ∧ chT u v s r d ≤ 4 := by
  unfold chT; omega
theorem chT_day {u v s r d : Int} (hu : u ≤ 20) (hv : v ≤ 20) (hs : 0 ≤ s) (hr : 0 ≤ r) (hd : 1 ≤ d) : chT u v s r d = 0 := by
  unfold chT; omega
theorem mul_bd {x y m n : Int} (h0 : 0 ≤ x) (h1 : x ≤ m) (h2 : 0 ≤ y) (h3 : y ≤ n) : 0 ≤ x * y ∧ x * y ≤ m * n :=
  ⟨Int.mul_nonneg h0 h2, Int.mul_le_mul h1 h3 h2 (by omega)⟩
theorem chC_bd {p : Prc} {u v s r d : Int} (hp : prcV p = true) (hu : u ≤ 20) (hv : v ≤ 20) (hs : 0 ≤ s ∧ s ≤ 20) (hr : 0 ≤ r ∧ r ≤ 20) (hd : 0 ≤ d ∧ d ≤ 20) : 0 ≤ chC p u v s r d ∧ chC p u v s r d ≤ 4000000 := by
  rw [prcV_iff] at hp
  obtain ⟨t0, t1⟩ := chT_bd hu hv hs.1 hr.1 hd.1
  have e1 := mul_bd hs.1 hs.2 hp.1.1 hp.1.2
  have e2 := mul_bd hr.1 hr.2 hp.2.1.1 hp.2.1.2
  have e3 := mul_bd hd.1 hd.2 hp.2.2.1.1 hp.2.2.1.2
  have e4 := mul_bd t0 t1 hp.2.2.2.1 hp.2.2.2.2
  unfold chC
  omega
theorem chU_le {p : Prc} {u v : Int} (z : ChS) {s r d : Int} (h : 0 ≤ chC p u v s r d) : 0 ≤ (chU p u v z s r d).least ∧ (chU p u v z s r d).least ≤ chC p u v s r d ∧ (0 ≤ z.least → (chU p u v z s r d).least ≤ z.least) := by
  unfold chU
  split
  · rename_i h1
    refine ⟨h, Int.le_refl _, fun h2 => ?_⟩
    show chC p u v s r d ≤ z.least
    omega
  · rename_i h1
    exact ⟨by omega, by omega, fun _ => Int.le_refl _⟩
theorem chU_keep {p : Prc} {u v : Int} {z : ChS} {s r d : Int} (h0 : 0 ≤ z.least) (h : z.least ≤ chC p u v s r d) : chU p u v z s r d = z := by
  unfold chU
  rw [if_neg (by omega)]
theorem chD_two {p : Prc} {u v : Int} (hp : prcV p = true) (hu : u ≤ 20) (hv : v ≤ 20) {s r : Int} (hs : 0 ≤ s ∧ s ≤ 20) (hr : 0 ≤ r ∧ r ≤ 20) (z : ChS) :
    ∀ k : Nat, k ≤ 19 → chD p u v s r z (k + 2) = chD p u v s r z 2 := by
  intro k
  induction k with
  | zero => intro _; rfl
  | succ k ih =>
    intro hk
    rw [show k + 1 + 2 = (k + 2) + 1 by omega, chD, ih (by omega)]
    have hb := chC_bd hp hu hv hs hr (d := 1) (by omega)
    have h1 := chU_le (p := p) (u := u) (v := v) (chD p u v s r z 1) (s := s) (r := r) (d := 1) hb.1
    have e : chD p u v s r z 2 = chU p u v (chD p u v s r z 1) s r 1 := rfl
    refine chU_keep (by rw [e]; exact h1.1) (Int.le_trans (by rw [e]; exact h1.2.1) ?_)
    unfold chC
    rw [chT_day hu hv hs.1 hr.1 (by omega), chT_day hu hv hs.1 hr.1 (by omega)]
    rw [prcV_iff] at hp
    have hc := hp.2.2.1.1
    have : (1 : Int) * p.c ≤ ((k + 2 : Nat) : Int) * p.c := Int.mul_le_mul_of_nonneg_right (by omega) hc
    omega
theorem chB_eq {p : Prc} {u v : Int} (hp : prcV p = true) (hu : u ≤ 20) (hv : v ≤ 20) {s : Int} (hs : 0 ≤ s ∧ s ≤ 20) (z : ChS) : ∀ k : Nat, k ≤ 21 → chB 21 p u v s z k = chB 2 p u v s z k := by
  intro k
  induction k with
  | zero => intro _; rfl
  | succ k ih =>
    intro hk
    show chD p u v s k (chB 21 p u v s z k) 21 = chD p u v s k (chB 2 p u v s z k) 2
    rw [ih (by omega)]
    exact chD_two hp hu hv hs (by omega) _ 19 (by omega)
theorem chS_eq {p : Prc} {u v : Int} (hp : prcV p = true) (hu : u ≤ 20) (hv : v ≤ 20) : ∀ n : Nat, n ≤ 21 → chS 21 p u v n = chS 2 p u v n := by
  intro n
  induction n with
  | zero => intro _; rfl
  | succ n ih =>
    intro hn
    show chB 21 p u v n (chS 21 p u v n) 21 = chB 2 p u v n (chS 2 p u v n) 21
    rw [ih (by omega)]
    exact chB_eq hp hu hv (by omega) _ 21 (by omega)
/-- The cheapest ones. -/
def chZ (p : Prc) (u v : Int) : ChS := chS 2 p u v 21
def chR (p : Prc) (u v : Int) : List Int := if chOk p u v then [(chZ p u v).s, (chZ p u v).r, (chZ p u v).d, (chZ p u v).t] else []
def chV (p : Prc) (u v : Int) : Int := if chOk p u v then (chZ p u v).least else 0
theorem chOk_iff (p : Prc) (u v : Int) : chOk p u v = true ↔ prcV p = true ∧ (0 ≤ u ∧ u ≤ 20) ∧ (0 ≤ v ∧ v ≤ 20) := by
  unfold chOk; simp only [Bool.and_eq_true, inR_iff]
  constructor
  · rintro ⟨⟨a, b⟩, c⟩; exact ⟨a, b, c⟩
  · rintro ⟨a, b, c⟩; exact ⟨⟨a, b⟩, c⟩
theorem chR_len (p : Prc) (u v : Int) : (chR p u v).length ≤ 4 := by unfold chR; split <;> simp
/-- The state is sound: what it costs, and where its numbers lie. -/
structure ChOk (p : Prc) (u v : Int) (z : ChS) : Prop where
  bd : z.least < 0 ∨ (0 ≤ z.least ∧ z.least ≤ 4000000 ∧ z.least = z.s * p.a + z.r * p.b + z.d * p.c + z.t * p.d ∧ (0 ≤ z.s ∧ z.s ≤ 20) ∧ (0 ≤ z.r ∧ z.r ≤ 20) ∧ (0 ≤ z.d ∧ z.d ≤ 20) ∧ (0 ≤ z.t ∧ z.t ≤ 4))
  lo : -1 ≤ z.least
theorem ChOk.zero (p : Prc) (u v : Int) : ChOk p u v ch0 := ⟨.inl (by show (-1 : Int) < 0; omega), by show (-1 : Int) ≤ -1; omega⟩
theorem ChOk.step {p : Prc} {u v : Int} {z : ChS} (h : ChOk p u v z) (hp : prcV p = true) (hu : u ≤ 20) (hv : v ≤ 20) {s r d : Int} (hs : 0 ≤ s ∧ s ≤ 20) (hr : 0 ≤ r ∧ r ≤ 20) (hd : 0 ≤ d ∧ d ≤ 20) :
    ChOk p u v (chU p u v z s r d) ∧ 0 ≤ (chU p u v z s r d).least := by
  have hb := chC_bd hp hu hv hs hr hd
  unfold chU
  split
  · have ht := chT_bd hu hv hs.1 hr.1 hd.1
    exact ⟨⟨.inr ⟨hb.1, hb.2, rfl, hs, hr, hd, ht⟩, by show -1 ≤ chC p u v s r d; omega⟩, hb.1⟩
  · rename_i h1
    exact ⟨h, by omega⟩
theorem ChOk.days {p : Prc} {u v : Int} (hp : prcV p = true) (hu : u ≤ 20) (hv : v ≤ 20) {s r : Int} (hs : 0 ≤ s ∧ s ≤ 20) (hr : 0 ≤ r ∧ r ≤ 20) {z : ChS} (h : ChOk p u v z) :
    ∀ k : Nat, k ≤ 21 → ChOk p u v (chD p u v s r z k) ∧ ((0 < k ∨ 0 ≤ z.least) → 0 ≤ (chD p u v s r z k).least) := by
  intro k
  induction k with
  | zero => intro _; exact ⟨h, fun g => g.elim (fun g => by omega) id⟩
  | succ k ih =>
    intro hk
    have := (ih (by omega)).1.step hp hu hv hs hr (d := (k : Int)) (by omega)
    exact ⟨this.1, fun _ => this.2⟩
theorem ChOk.rets {p : Prc} {u v : Int} (hp : prcV p = true) (hu : u ≤ 20) (hv : v ≤ 20) {m : Nat} (hm : 0 < m ∧ m ≤ 21) {s : Int} (hs : 0 ≤ s ∧ s ≤ 20) {z : ChS} (h : ChOk p u v z) :
    ∀ k : Nat, k ≤ 21 → ChOk p u v (chB m p u v s z k) ∧ ((0 < k ∨ 0 ≤ z.least) → 0 ≤ (chB m p u v s z k).least) := by
  intro k
  induction k with
  | zero => intro _; exact ⟨h, fun g => g.elim (fun g => by omega) id⟩
  | succ k ih =>
    intro hk
    have := ChOk.days hp hu hv hs (r := (k : Int)) (by omega) (ih (by omega)).1 m (by omega)
    exact ⟨this.1, fun _ => this.2 (.inl hm.1)⟩
theorem ChOk.sings {p : Prc} {u v : Int} (hp : prcV p = true) (hu : u ≤ 20) (hv : v ≤ 20) {m : Nat} (hm : 0 < m ∧ m ≤ 21) :
    ∀ n : Nat, n ≤ 21 → ChOk p u v (chS m p u v n) ∧ (0 < n → 0 ≤ (chS m p u v n).least) := by
  intro n
  induction n with
  | zero => intro _; exact ⟨ChOk.zero p u v, fun g => by omega⟩
  | succ n ih =>
    intro hn
    have := ChOk.rets hp hu hv hm (s := (n : Int)) (by omega) (ih (by omega)).1 21 (by omega)
    exact ⟨this.1, fun _ => this.2 (.inl (by omega))⟩
end Go.Proofs.YtpknodbkjjcdjaaDoor
