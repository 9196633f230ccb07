/- Clearances in plain words. No condition. -/
import Derived.Test.YteglekfiannncaaSagC
import Derived.Test.YteglekfiannncaaGroundC
namespace Go.Proofs.Yteglekfiannncaa
open Go.RowKit
set_option linter.unusedVariables false
/-- The part of the ground with a place: the first one that ends at it or behind it. -/
def grN (g : List GP) (p : Int) : Nat := (List.range (g.length - 1)).findIdx (fun i => decide (p ≤ (gth g (i + 1)).a))
theorem grN_lt {g : List GP} {p : Int} (h2 : 2 ≤ g.length) (h : p ≤ (gth g (g.length - 1)).a) : grN g p + 1 < g.length := by
  have : grN g p < (List.range (g.length - 1)).length := by
    unfold grN
    rw [List.findIdx_lt_length]
    refine ⟨g.length - 2, by simp; omega, ?_⟩
    have e : g.length - 2 + 1 = g.length - 1 := by omega
    simpa [e] using h
  simp at this; omega
theorem grN_hit {g : List GP} {p : Int} (h2 : 2 ≤ g.length) (h : p ≤ (gth g (g.length - 1)).a) : p ≤ (gth g (grN g p + 1)).a := by
  have hlt := grN_lt h2 h
  have : grN g p < (List.range (g.length - 1)).length := by simp; omega
  unfold grN at this ⊢
  have := List.findIdx_getElem (w := this)
  simpa using this
theorem grN_least {g : List GP} {p : Int} {j : Nat} (h : j < grN g p) : (gth g (j + 1)).a < p := by
  unfold grN at h
  have := List.not_of_lt_findIdx h
  simp at this
  exact this
theorem IsG.asc {l : List Sup} {g : List GP} (h : IsG l g) {i : Nat} (hi : i + 1 < g.length) : (gth g i).a < (gth g (i + 1)).a := (h.ok (i + 1) hi).2 (by omega)
theorem IsG.mono {l : List Sup} {g : List GP} (h : IsG l g) : ∀ (d i : Nat), i + d < g.length → (gth g i).a ≤ (gth g (i + d)).a
  | 0, i, _ => Int.le_refl _
  | d + 1, i, hi => by
    have h1 := IsG.mono h d i (by omega)
    have h2 := h.asc (i := i + d) (by omega)
    have e : i + (d + 1) = i + d + 1 := by omega
    rw [e]; omega
theorem IsG.bd {l : List Sup} {g : List GP} (h : IsG l g) {i : Nat} (hi : i < g.length) : (0 ≤ (gth g i).a ∧ (gth g i).a ≤ 3000) ∧ (0 ≤ (gth g i).h ∧ (gth g i).h ≤ 2000) := by
  have h1 := h.mono i 0 (by omega)
  have h2 := h.mono (g.length - 1 - i) i (by omega)
  have e1 : 0 + i = i := by omega
  have e2 : i + (g.length - 1 - i) = g.length - 1 := by omega
  rw [e1, h.zero] at h1
  have hl := h.line.two
  have hb := h.line.bd (i := l.length - 1) (by omega)
  rw [e2, h.last] at h2
  exact ⟨by omega, (h.ok i hi).1⟩
/-- What is known of a place above a ground. -/
structure GAt (g : List GP) (p : Int) (i : Nat) : Prop where
  lt : i + 1 < g.length
  eight : g.length ≤ 8
  lo : (gth g i).a ≤ p
  hi : p ≤ (gth g (i + 1)).a
  a0 : 0 ≤ (gth g i).a
  a1 : (gth g (i + 1)).a ≤ 3000
  asc : (gth g i).a < (gth g (i + 1)).a
  h0 : 0 ≤ (gth g i).h ∧ (gth g i).h ≤ 2000
  h1 : 0 ≤ (gth g (i + 1)).h ∧ (gth g (i + 1)).h ≤ 2000
theorem gAt {l : List Sup} {g : List GP} {p : Int} (h : IsG l g) (ho : onL l p = true) : GAt g p (grN g p) := by
  obtain ⟨hl, h0, h1⟩ := (onL_iff l p).1 ho
  rw [← h.last] at h1
  have hlt := grN_lt h.two h1
  have b0 := h.bd (i := grN g p) (by omega)
  have b1 := h.bd hlt
  refine ⟨hlt, h.eight, ?_, grN_hit h.two h1, b0.1.1, b1.1.2, h.asc hlt, b0.2, b1.2⟩
  cases e : grN g p with
  | zero => rw [h.zero]; exact h0
  | succ j => have := grN_least (g := g) (p := p) (j := j) (by omega); omega
/-- The ground's height times the length of its part. -/
def gRaw (g : List GP) (i : Nat) (p : Int) : Int := (gth g i).h * ((gth g (i + 1)).a - p) + (gth g (i + 1)).h * (p - (gth g i).a)
def gLen (g : List GP) (i : Nat) : Int := (gth g (i + 1)).a - (gth g i).a
theorem gRaw_eq (g : List GP) (i : Nat) (p : Int) : (gth g i).h * gLen g i + ((gth g (i + 1)).h - (gth g i).h) * (p - (gth g i).a) = gRaw g i p := by
  unfold gRaw gLen
  grind
theorem gRaw_bd {g : List GP} {p : Int} {i : Nat} (h : GAt g p i) : 0 ≤ gRaw g i p ∧ gRaw g i p ≤ 12000000 := by
  have := h.lo; have := h.hi; have := h.a0; have := h.a1
  have m1 := mulB h.h0 (y := (gth g (i + 1)).a - p) (by omega)
  have m2 := mulB h.h1 (y := p - (gth g i).a) (by omega)
  unfold gRaw
  omega
theorem gLen_bd {g : List GP} {p : Int} {i : Nat} (h : GAt g p i) : 0 < gLen g i ∧ gLen g i ≤ 3000 := by
  have := h.asc; have := h.a0; have := h.a1
  unfold gLen; omega
/-- The chord's height, as before, in lowest terms. -/
theorem ch_eq {l : List Sup} {p : Int} (ho : onL l p = true) : chN l p = rN (chRaw l (spanN l p) p) (slen l (spanN l p)) ∧ chD l p = rD (chRaw l (spanN l p) p) (slen l (spanN l p)) := by
  have h := onAt ho
  have h1 := chRaw_bd h.line h.lt h.lo h.hi
  have h2 := slen_bd h.line h.lt
  have e : gcdI (chRaw l (spanN l p) p) (slen l (spanN l p)) = gA (chRaw l (spanN l p) p) (slen l (spanN l p)) := by
    unfold gcdI gA Int.gcd
    congr 2 <;> omega
  unfold chN chD rN rD
  rw [ho, e]
  exact ⟨rfl, rfl⟩
noncomputable def clOk (l : List Sup) (r : Rp) (g : List GP) (p : Int) : Bool := sgOk l r p && isG l g
/-- The clearance as the specification has it, not in lowest terms. -/
def c0N (l : List Sup) (g : List GP) (p : Int) : Int := chRaw l (spanN l p) p * gLen g (grN g p) - gRaw g (grN g p) p * slen l (spanN l p)
def c0D (l : List Sup) (g : List GP) (p : Int) : Int := slen l (spanN l p) * gLen g (grN g p)
def cRn (l : List Sup) (r : Rp) (g : List GP) (p : Int) : Int := rN (c0N l g p) (c0D l g p) * (2 * r.p) - r.w * (pX l p * pY l p) * rD (c0N l g p) (c0D l g p)
def cRd (l : List Sup) (r : Rp) (g : List GP) (p : Int) : Int := rD (c0N l g p) (c0D l g p) * (2 * r.p)
noncomputable def clN (l : List Sup) (r : Rp) (g : List GP) (p : Int) : Int := if clOk l r g p then rN (cRn l r g p) (cRd l r g p) else 0
noncomputable def clD (l : List Sup) (r : Rp) (g : List GP) (p : Int) : Int := if clOk l r g p then rD (cRn l r g p) (cRd l r g p) else 0
theorem fe_add {a b a' b' c d c' d' : Int} (h1 : a * b' = a' * b) (h2 : c * d' = c' * d) : (a * d + c * b) * (b' * d') = (a' * d' + c' * b') * (b * d) := by grind
theorem fe_trans {a b c d e f : Int} (hd : 0 < d) (h1 : a * d = c * b) (h2 : c * f = e * d) : a * f = e * b := by
  have : d * (a * f) = d * (e * b) := by grind
  exact Int.eq_of_mul_eq_mul_left (by omega) this
/-- The program's sum of three and the specification's clearance are the same fraction. -/
theorem cl_sum {C L S T G wd : Int} (hL : 0 < L) (hT : 0 < T) (hw : 0 < wd) :
    rN ((rN C L * rD S T + -rN S T * rD C L) * wd + -G * (rD C L * rD S T)) (rD C L * rD S T * wd) = rN (rN (C * wd - G * L) (L * wd) * T - S * rD (C * wd - G * L) (L * wd)) (rD (C * wd - G * L) (L * wd) * T) ∧
    rD ((rN C L * rD S T + -rN S T * rD C L) * wd + -G * (rD C L * rD S T)) (rD C L * rD S T * wd) = rD (rN (C * wd - G * L) (L * wd) * T - S * rD (C * wd - G * L) (L * wd)) (rD (C * wd - G * L) (L * wd) * T) := by
  have q1 := rD_pos (n := C) hL
  have q2 := rD_pos (n := S) hT
  have hLw := Int.mul_pos hL hw
  have q3 := rD_pos (n := C * wd - G * L) hLw
  have f1 := r_cross C L
  have f2 := r_cross S T
  have f3 := r_cross (C * wd - G * L) (L * wd)
  refine r_eq (Int.mul_pos (Int.mul_pos q1 q2) hw) (Int.mul_pos q3 hT) ?_
  have hpos : 0 < L * T * wd := Int.mul_pos (Int.mul_pos hL hT) hw
  generalize rN C L = a at *
  generalize rD C L = b at *
  generalize rN S T = s at *
  generalize rD S T = t at *
  generalize hc0 : C * wd - G * L = c0 at *
  generalize hd0 : L * wd = d0 at *
  generalize rN c0 d0 = n at *
  generalize rD c0 d0 = m at *
  have f2' : -s * T = -S * t := by rw [Int.neg_mul, Int.neg_mul, f2]
  have k1 := fe_add f1 f2'
  have k2 := fe_add k1 (show -G * wd = -G * wd from rfl)
  have k3 := fe_add f3 (show -S * T = -S * T from rfl)
  have k4 : ((C * T + -S * L) * wd + -G * (L * T)) * (d0 * T) = (c0 * T + -S * d0) * (L * T * wd) := by
    rw [← hc0, ← hd0]; grind
  have j1 := fe_trans (c := (C * T + -S * L) * wd + -G * (L * T)) (d := L * T * wd) hpos k2 k4
  have j2 := fe_trans (Int.mul_pos hLw hT) j1 k3.symm
  rw [j2]
  grind
end Go.Proofs.Yteglekfiannncaa
