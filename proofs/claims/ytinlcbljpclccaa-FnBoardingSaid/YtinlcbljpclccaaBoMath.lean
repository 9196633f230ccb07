/- Platforms, events and runs of them, as functions. No condition. -/
import Derived.Test.YtinlcbljpclccaaKindW
import Derived.Test.YtinlcbljpclccaaPltS
import Derived.Test.YtinlcbljpclccaaBevS
namespace Go.Proofs.Ytinlcbljpclccaa
open Go.RowKit
set_option linter.unusedVariables false
abbrev kCome : ByteArray := ⟨#[99, 111, 109, 101]⟩
abbrev kOpen : ByteArray := ⟨#[111, 112, 101, 110]⟩
abbrev kShut : ByteArray := ⟨#[115, 104, 117, 116]⟩
abbrev kEnter : ByteArray := ⟨#[101, 110, 116, 101, 114]⟩
abbrev kLeave : ByteArray := ⟨#[108, 101, 97, 118, 101]⟩
abbrev kArrive : ByteArray := ⟨#[97, 114, 114, 105, 118, 101]⟩
abbrev kLevel : ByteArray := ⟨#[108, 101, 118, 101, 108]⟩
abbrev kGo : ByteArray := ⟨#[103, 111]⟩
/-- The kinds by number; 8 is no kind. -/
def kd (k : ByteArray) : Nat := if k = kCome then 0 else if k = kOpen then 1 else if k = kShut then 2 else if k = kEnter then 3 else if k = kLeave then 4 else if k = kArrive then 5 else if k = kLevel then 6 else if k = kGo then 7 else 8
theorem kd_0 : kd kCome = 0 := by decide +kernel
theorem kd_1 : kd kOpen = 1 := by decide +kernel
theorem kd_2 : kd kShut = 2 := by decide +kernel
theorem kd_3 : kd kEnter = 3 := by decide +kernel
theorem kd_4 : kd kLeave = 4 := by decide +kernel
theorem kd_5 : kd kArrive = 5 := by decide +kernel
theorem kd_6 : kd kLevel = 6 := by decide +kernel
theorem kd_7 : kd kGo = 7 := by decide +kernel
theorem kd_not {k : ByteArray} (h0 : k ≠ kCome) (h1 : k ≠ kOpen) (h2 : k ≠ kShut) (h3 : k ≠ kEnter) (h4 : k ≠ kLeave) (h5 : k ≠ kArrive) (h6 : k ≠ kLevel) (h7 : k ≠ kGo) : kd k = 8 := by simp [kd, h0, h1, h2, h3, h4, h5, h6, h7]
theorem kd_cases (k : ByteArray) : k = kCome ∨ k = kOpen ∨ k = kShut ∨ k = kEnter ∨ k = kLeave ∨ k = kArrive ∨ k = kLevel ∨ k = kGo ∨ (k ≠ kCome ∧ k ≠ kOpen ∧ k ≠ kShut ∧ k ≠ kEnter ∧ k ≠ kLeave ∧ k ≠ kArrive ∧ k ≠ kLevel ∧ k ≠ kGo) := by
  by_cases h0 : k = kCome
  · exact .inl h0
  by_cases h1 : k = kOpen
  · exact .inr ((.inl h1))
  by_cases h2 : k = kShut
  · exact .inr (.inr ((.inl h2)))
  by_cases h3 : k = kEnter
  · exact .inr (.inr (.inr ((.inl h3))))
  by_cases h4 : k = kLeave
  · exact .inr (.inr (.inr (.inr ((.inl h4)))))
  by_cases h5 : k = kArrive
  · exact .inr (.inr (.inr (.inr (.inr ((.inl h5))))))
  by_cases h6 : k = kLevel
  · exact .inr (.inr (.inr (.inr (.inr (.inr ((.inl h6)))))))
  by_cases h7 : k = kGo
  · exact .inr (.inr (.inr (.inr (.inr (.inr (.inr ((.inl h7))))))))
  exact .inr (.inr (.inr (.inr (.inr (.inr (.inr (.inr (⟨h0, h1, h2, h3, h4, h5, h6, h7⟩))))))))
theorem kd_le (k : ByteArray) : kd k ≤ 8 := by
  unfold kd
  repeat (split; omega)
  omega
/-- The greatest count of a kind. -/
def mostV (n : Nat) : Int := if n = 0 then 16 else if n = 1 then 0 else if n = 2 then 0 else if n = 3 then 16 else if n = 4 then 16 else if n = 5 then 100 else if n = 6 then 0 else if n = 7 then 0 else -1
def mostK (k : ByteArray) : Int := mostV (kd k)
theorem mostK_bd (k : ByteArray) : -1 ≤ mostK k ∧ mostK k ≤ 100 := by unfold mostK mostV; constructor <;> (repeat (split; omega)) <;> omega
/-- A valid event. -/
def evV (e : Bev) : Bool := (decide (mostK e.k = 0) && decide (e.c = 0)) || (decide (0 < mostK e.k) && inR e.c 1 (mostK e.k))
theorem evV_iff (e : Bev) : evV e = true ↔ (mostK e.k = 0 ∧ e.c = 0) ∨ (1 ≤ e.c ∧ e.c ≤ mostK e.k) := by
  unfold evV
  simp only [Bool.or_eq_true, Bool.and_eq_true, inR_iff, decide_eq_true_eq]
  omega
theorem evV_impl (e : Bev) : evV e = if mostK e.k ≤ 0 then (decide (mostK e.k = 0) && decide (e.c = 0)) else inR e.c 1 (mostK e.k) := by
  rw [Bool.eq_iff_iff, evV_iff]
  split <;> simp only [Bool.and_eq_true, inR_iff, decide_eq_true_eq] <;> omega
theorem evV_bd {e : Bev} (h : evV e = true) : 0 ≤ e.c ∧ e.c ≤ 100 ∧ kd e.k < 8 := by
  have h1 := (evV_iff e).1 h
  have h2 := mostK_bd e.k
  have h3 := kd_le e.k
  refine ⟨by omega, by omega, ?_⟩
  by_cases h8 : kd e.k = 8
  · have : mostK e.k = -1 := by unfold mostK; rw [h8]; rfl
    omega
  · omega
/-- A valid platform. -/
def plV (p : Plt) : Bool := inR p.d 0 1 && (inR p.s 0 16 && (inR p.i 0 p.s && (inR p.w 0 500 && (inR p.g 0 9999 && (decide (0 < p.s) || decide (p.d = 0))))))
theorem plV_iff (p : Plt) : plV p = true ↔ (0 ≤ p.d ∧ p.d ≤ 1) ∧ (0 ≤ p.s ∧ p.s ≤ 16) ∧ (0 ≤ p.i ∧ p.i ≤ p.s) ∧ (0 ≤ p.w ∧ p.w ≤ 500) ∧ (0 ≤ p.g ∧ p.g ≤ 9999) ∧ (0 < p.s ∨ p.d = 0) := by
  unfold plV; simp only [Bool.or_eq_true, Bool.and_eq_true, inR_iff, decide_eq_true_eq]
/-- How many can enter. -/
def entP (p : Plt) : Int := if p.d = 1 then (if p.l then min 1 (min p.w (p.s - p.i)) else min p.w (p.s - p.i)) else 0
theorem entP_bd {p : Plt} (h : plV p = true) : 0 ≤ entP p ∧ entP p ≤ p.w ∧ entP p ≤ p.s - p.i := by
  have h1 := (plV_iff p).1 h
  unfold entP
  refine ⟨?_, ?_, ?_⟩ <;> (repeat (split <;> try omega)) <;> omega
/-- Is an event possible. -/
def canP (p : Plt) (n : Nat) (c : Int) : Bool := if n = 0 then decide (p.s = 0) else if n = 1 then (decide (0 < p.s) && decide (p.d = 0)) else if n = 2 then decide (p.d = 1) else if n = 3 then decide (c ≤ entP p) else if n = 4 then (decide (p.d = 1) && decide (c ≤ p.i)) else if n = 5 then decide (p.w + c ≤ 500) else if n = 6 then (!p.l && decide (0 < p.w)) else (decide (0 < p.s) && (decide (p.d = 0) && decide (p.g < 9999)))
/-- The platform behind an event. -/
def stP (p : Plt) (n : Nat) (c : Int) : Plt := if n = 0 then { p with s := c } else if n = 1 then { p with d := 1 } else if n = 2 then { p with d := 0 } else if n = 3 then { p with i := p.i + c, w := p.w - c, l := false } else if n = 4 then { p with i := p.i - c } else if n = 5 then { p with w := p.w + c } else if n = 6 then { p with l := true } else { p with s := 0, i := 0, g := p.g + 1 }
def stOk (p : Plt) (e : Bev) : Bool := evV e && canP p (kd e.k) e.c
def plZ : Plt := ⟨0, 0, 0, 0, false, 0⟩
def stR (p : Plt) (e : Bev) : Plt := if stOk p e then stP p (kd e.k) e.c else plZ
theorem stR_yes {p : Plt} {e : Bev} (h : stOk p e = true) : stR p e = stP p (kd e.k) e.c := by simp [stR, h]
theorem stR_no {p : Plt} {e : Bev} (h : stOk p e = false) : stR p e = plZ := by simp [stR, h]
theorem st_keeps {p : Plt} {e : Bev} (h : plV p = true) (hs : stOk p e = true) : plV (stP p (kd e.k) e.c) = true := by
  have h1 := (plV_iff p).1 h
  unfold stOk at hs
  rw [Bool.and_eq_true] at hs
  have h2 := evV_bd hs.1
  have h3 := (evV_iff e).1 hs.1
  have h4 := hs.2
  have h5 := entP_bd h
  unfold mostK at h3
  rw [plV_iff]
  generalize kd e.k = n at *
  rcases (by omega : n = 0 ∨ n = 1 ∨ n = 2 ∨ n = 3 ∨ n = 4 ∨ n = 5 ∨ n = 6 ∨ n = 7) with rfl | rfl | rfl | rfl | rfl | rfl | rfl | rfl <;>
    (simp [canP, stP, mostV] at h3 h4 ⊢; omega)
/-- The whole answer of StepPlatform. -/
def spOk (p : Plt) (e : Bev) : Bool := plV p && stOk p e
def spR (p : Plt) (e : Bev) : Plt := if spOk p e then stP p (kd e.k) e.c else plZ
/-- A run: the platform where it stops, and the number of events before. -/
def runP (p : Plt) : List Bev → Plt × Nat
  | [] => (p, 0)
  | e :: l => if stOk p e then ((runP (stP p (kd e.k) e.c) l).1, (runP (stP p (kd e.k) e.c) l).2 + 1) else (p, 0)
theorem run_ok : ∀ (l : List Bev) (p : Plt), plV p = true → plV (runP p l).1 = true := by
  intro l
  induction l with
  | nil => intro p h; exact h
  | cons e l ih =>
    intro p h
    rw [runP]
    by_cases hs : stOk p e = true
    · rw [if_pos hs]; exact ih _ (st_keeps h hs)
    · rw [if_neg hs]; exact h
theorem run_le : ∀ (l : List Bev) (p : Plt), (runP p l).2 ≤ l.length := by
  intro l
  induction l with
  | nil => intro p; exact Nat.le_refl _
  | cons e l ih =>
    intro p
    rw [runP]
    by_cases hs : stOk p e = true
    · rw [if_pos hs]; have := ih (stP p (kd e.k) e.c); simp only [List.length_cons]; omega
    · rw [if_neg hs]; exact Nat.zero_le _
/-- Where a run stops the next step is not possible. -/
theorem run_stop : ∀ (l : List Bev) (p : Plt), (runP p l).2 < l.length → stOk (runP p l).1 (gth l (runP p l).2) = false := by
  intro l
  induction l with
  | nil => intro p h; cases h
  | cons e l ih =>
    intro p h
    rw [runP] at h ⊢
    by_cases hs : stOk p e = true
    · rw [if_pos hs] at h ⊢
      have := ih (stP p (kd e.k) e.c) (by simp only [List.length_cons] at h; omega)
      simpa [gth] using this
    · rw [if_neg hs]; simpa [gth] using hs
theorem run_first {l : List Bev} {p : Plt} (h : 0 < (runP p l).2) : ∃ e r, l = e :: r ∧ stOk p e = true ∧ (runP p l).2 = (runP (stP p (kd e.k) e.c) r).2 + 1 ∧ (runP p l).1 = (runP (stP p (kd e.k) e.c) r).1 := by
  cases l with
  | nil => cases h
  | cons e r =>
    rw [runP] at h
    by_cases hs : stOk p e = true
    · exact ⟨e, r, rfl, hs, by rw [runP, if_pos hs], by rw [runP, if_pos hs]⟩
    · rw [if_neg hs] at h; cases h
/-- The run by rounds: the platform behind the first k events, while all of them go. -/
def runK (p : Plt) (l : List Bev) : Nat → Plt
  | 0 => p
  | k + 1 => stP (runK p l k) (kd (gth l k).k) (gth l k).c
theorem runK_cons (p : Plt) (e : Bev) (l : List Bev) : ∀ k, runK p (e :: l) (k + 1) = runK (stP p (kd e.k) e.c) l k := by
  intro k
  induction k with
  | zero => simp [runK, gth]
  | succ k ih => rw [runK, ih, runK]; simp [gth]
theorem run_at : ∀ (l : List Bev) (p : Plt) (k : Nat), k ≤ l.length → (∀ j, j < k → stOk (runK p l j) (gth l j) = true) → (k = l.length ∨ stOk (runK p l k) (gth l k) = false) → runP p l = (runK p l k, k) := by
  intro l
  induction l with
  | nil => intro p k hk _ _; obtain rfl : k = 0 := by simpa using hk
           rfl
  | cons e l ih =>
    intro p k hk ha hz
    cases k with
    | zero =>
      rcases hz with h | h
      · simp at h
      · rw [runP, if_neg (by simpa [runK, gth] using h)]; rfl
    | succ k =>
      have h0 := ha 0 (by omega)
      have h0 : stOk p e = true := by simpa [runK, gth] using h0
      have hi := ih (stP p (kd e.k) e.c) k (by simpa using hk) (fun j hj => by
        have := ha (j + 1) (by omega)
        rw [runK_cons] at this
        simpa [gth] using this) (by
        rcases hz with h | h
        · left; simpa using h
        · right; rw [runK_cons] at h; simpa [gth] using h)
      rw [runP, if_pos h0, hi, runK_cons]
theorem runK_ok {l : List Bev} {p : Plt} (h : plV p = true) : ∀ k, (∀ j, j < k → stOk (runK p l j) (gth l j) = true) → plV (runK p l k) = true := by
  intro k
  induction k with
  | zero => intro _; exact h
  | succ k ih => intro ha; exact st_keeps (ih (fun j hj => ha j (by omega))) (ha k (by omega))
/-- RunPlatform's answer. -/
def rpOk (p : Plt) (l : List Bev) : Bool := plV p && decide (l.length ≤ 20)
def rpP (p : Plt) (l : List Bev) : Plt := if rpOk p l then (runP p l).1 else plZ
def rpN (p : Plt) (l : List Bev) : Nat := if rpOk p l then (runP p l).2 else 0
/-- The kinds that are possible. -/
def allK : List ByteArray := [kCome, kOpen, kShut, kEnter, kLeave, kArrive, kLevel, kGo]
def pkB (p : Plt) (k : ByteArray) : Bool := canP p (kd k) (min 1 (mostK k))
def pkL (p : Plt) : List ByteArray := if plV p then allK.filter (pkB p) else []
theorem pk_has {p : Plt} {e : Bev} (h : plV p = true) (hs : stOk p e = true) : e.k ∈ pkL p := by
  unfold pkL
  rw [if_pos h, List.mem_filter]
  unfold stOk at hs
  rw [Bool.and_eq_true] at hs
  have h2 := evV_bd hs.1
  have h3 := (evV_iff e).1 hs.1
  refine ⟨?_, ?_⟩
  · rcases kd_cases e.k with h | h | h | h | h | h | h | h | ⟨a0, a1, a2, a3, a4, a5, a6, a7⟩
    · simp [allK, h]
    · simp [allK, h]
    · simp [allK, h]
    · simp [allK, h]
    · simp [allK, h]
    · simp [allK, h]
    · simp [allK, h]
    · simp [allK, h]
    · have := kd_not a0 a1 a2 a3 a4 a5 a6 a7; omega
  · have h4 := hs.2
    have h5 := entP_bd h
    unfold pkB
    unfold mostK at h3 ⊢
    have h6 := h2.2.2
    generalize kd e.k = n at *
    rcases (by omega : n = 0 ∨ n = 1 ∨ n = 2 ∨ n = 3 ∨ n = 4 ∨ n = 5 ∨ n = 6 ∨ n = 7) with rfl | rfl | rfl | rfl | rfl | rfl | rfl | rfl <;>
      (simp [canP, mostV] at h3 h4 ⊢; first | omega | (refine ⟨?_, ?_⟩ <;> omega) | simp_all)
/-- CountEvents's answer. -/
def ceOk (l : List Bev) (k : ByteArray) : Bool := decide (l.length ≤ 20) && (decide (0 ≤ mostK k) && l.all evV)
def ceN (l : List Bev) (k : ByteArray) : Int := ((l.filter fun e => decide (e.k = k)).length : Int)
def ceS (l : List Bev) (k : ByteArray) : Int := ((l.filter fun e => decide (e.k = k)).map Bev.c).sum
end Go.Proofs.Ytinlcbljpclccaa
