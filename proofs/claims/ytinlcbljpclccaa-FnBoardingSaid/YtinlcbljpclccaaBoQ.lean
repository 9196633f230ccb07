/- The quickest events, the run over them, the most that can enter: as functions. No condition. -/
import Derived.Test.YtinlcbljpclccaaBoMath
namespace Go.Proofs.Ytinlcbljpclccaa
open Go.RowKit
set_option linter.unusedVariables false
/-- The platform behind one entering, the events of entering, the platform behind all of them. -/
def enS (q : Plt) : Plt := stP q 3 (entP q)
theorem enS_eq (q : Plt) : enS q = { q with i := q.i + entP q, w := q.w - entP q, l := false } := rfl
def enL (q : Plt) : List Bev := if 0 < entP q then (⟨kEnter, entP q⟩ :: (if 0 < entP (enS q) then [⟨kEnter, entP (enS q)⟩] else [])) else []
def enP (q : Plt) : Plt := if 0 < entP q then (if 0 < entP (enS q) then enS (enS q) else enS q) else q
theorem entP_d {q : Plt} (h : 0 < entP q) : q.d = 1 := by
  unfold entP at h; by_cases hd : q.d = 1
  · exact hd
  · rw [if_neg hd] at h; omega
theorem enS2 {q : Plt} (hv : plV q = true) (h : 0 < entP q) : entP (enS (enS q)) = 0 := by
  have h1 := (plV_iff q).1 hv
  have hd := entP_d h
  unfold entP at h
  simp only [enS_eq, entP, hd, if_true] at h ⊢
  cases hl : q.l <;> simp [hl] at h ⊢ <;> omega
theorem ent_le {q : Plt} (hv : plV q = true) : entP q ≤ 16 := by
  have h1 := (plV_iff q).1 hv
  have := entP_bd hv
  omega
theorem en_ok {q : Plt} (hv : plV q = true) (h : 0 < entP q) : stOk q ⟨kEnter, entP q⟩ = true := by
  have := ent_le hv
  unfold stOk evV mostK
  rw [show (Bev.mk kEnter (entP q)).k = kEnter from rfl, kd_3]
  simp [mostV, inR, canP]
  omega
theorem enS_ok {q : Plt} (hv : plV q = true) (h : 0 < entP q) : plV (enS q) = true := by
  have h1 := st_keeps hv (en_ok hv h)
  rw [show kd (Bev.mk kEnter (entP q)).k = 3 from kd_3] at h1
  exact h1
theorem enL_pos {q : Plt} (hv : plV q = true) (h : 0 < entP q) : enL q = ⟨kEnter, entP q⟩ :: enL (enS q) ∧ enP q = enP (enS q) := by
  have h2 := enS2 hv h
  refine ⟨?_, ?_⟩
  · rw [enL, if_pos h, enL]
    by_cases h3 : 0 < entP (enS q)
    · rw [if_pos h3, if_pos h3, h2, if_neg (by omega)]
    · rw [if_neg h3, if_neg h3]
  · rw [enP, if_pos h, enP]
    by_cases h3 : 0 < entP (enS q)
    · rw [if_pos h3, if_pos h3, h2, if_neg (by omega)]
    · rw [if_neg h3, if_neg h3]
theorem enL_neg {q : Plt} (h : ¬ 0 < entP q) : enL q = [] ∧ enP q = q := by simp [enL, enP, h]
theorem enL_len (q : Plt) : (enL q).length ≤ 2 := by unfold enL; split <;> (try split) <;> simp
/-- The start: with the door open, if somebody could enter then. -/
def opB (p : Plt) : Bool := decide (p.d = 0) && (decide (0 < p.w) && decide (p.i < p.s))
def opP (p : Plt) : Plt := { p with d := 1 }
def qgS (p : Plt) : Plt := if opB p then opP p else p
def qgO (p : Plt) : List Bev := if opB p then [⟨kOpen, 0⟩] else []
def qgE (q : Plt) : List Bev := (if q.d = 1 then [⟨kShut, 0⟩] else []) ++ [⟨kGo, 0⟩]
def qgV (p : Plt) : Bool := plV p && (!decide (p.s = 0) && !decide (p.g = 9999))
def qgX (p : Plt) : List Bev := qgO p ++ (enL (qgS p) ++ qgE (enP (qgS p)))
def qgL (p : Plt) : List Bev := if qgV p then qgX p else []
theorem opP_ok {p : Plt} (h : plV p = true) (hs : p.s ≠ 0) : plV (opP p) = true := by
  have h1 := (plV_iff p).1 h
  rw [plV_iff]; simp only [opP]; omega
theorem op_most {p : Plt} (h : plV p = true) : opB p = (decide (p.d = 0) && decide (0 < entP (opP p))) := by
  have h1 := (plV_iff p).1 h
  unfold opB entP opP
  rw [Bool.eq_iff_iff]
  cases hl : p.l <;> simp <;> omega
theorem opB_s {p : Plt} (h : plV p = true) (ho : opB p = true) : p.d = 0 ∧ 0 < p.w ∧ p.i < p.s ∧ p.s ≠ 0 := by
  have h1 := (plV_iff p).1 h
  simp [opB] at ho
  omega
theorem qgS_ok {p : Plt} (h : plV p = true) : plV (qgS p) = true := by
  unfold qgS
  by_cases ho : opB p = true
  · rw [if_pos ho]; exact opP_ok h (opB_s h ho).2.2.2
  · rw [if_neg ho]; exact h
theorem enP_ok {q : Plt} (h : plV q = true) : plV (enP q) = true := by
  unfold enP
  by_cases h1 : 0 < entP q
  · rw [if_pos h1]
    by_cases h2 : 0 < entP (enS q)
    · rw [if_pos h2]; exact enS_ok (enS_ok h h1) h2
    · rw [if_neg h2]; exact enS_ok h h1
  · rw [if_neg h1]; exact h
theorem qgE_len (q : Plt) : (qgE q).length ≤ 2 := by unfold qgE; split <;> simp
theorem qgL_len (p : Plt) : (qgL p).length ≤ 5 := by
  unfold qgL qgX qgO
  have h1 := enL_len (qgS p)
  have h2 := qgE_len (enP (qgS p))
  split
  · rw [List.length_append, List.length_append]
    split <;> simp <;> omega
  · simp
/-- Runs put together. -/
theorem run_app : ∀ (a b : List Bev) (p : Plt), (runP p a).2 = a.length → runP p (a ++ b) = ((runP (runP p a).1 b).1, (runP (runP p a).1 b).2 + a.length) := by
  intro a
  induction a with
  | nil => intro b p _; simp [runP]
  | cons e a ih =>
    intro b p h
    rw [runP] at h
    by_cases hs : stOk p e = true
    · rw [if_pos hs] at h
      have h1 : (runP (stP p (kd e.k) e.c) a).2 = a.length := by simpa using h
      rw [List.cons_append, runP, if_pos hs, ih b _ h1, runP, if_pos hs]
      simp only [List.length_cons, Nat.add_assoc]
    · rw [if_neg hs] at h; simp at h
theorem run_one {p : Plt} {e : Bev} (hs : stOk p e = true) : runP p [e] = (stP p (kd e.k) e.c, 1) := by simp [runP, hs]
theorem run_two {p : Plt} {e f : Bev} (hs : stOk p e = true) (hf : stOk (stP p (kd e.k) e.c) f = true) : runP p [e, f] = (stP (stP p (kd e.k) e.c) (kd f.k) f.c, 2) := by simp [runP, hs, hf]
theorem run_en {q : Plt} (h : plV q = true) : runP q (enL q) = (enP q, (enL q).length) := by
  have hS : ∀ x : Plt, stP x (kd (Bev.mk kEnter (entP x)).k) (entP x) = enS x := fun x => by show stP x (kd kEnter) (entP x) = _; rw [kd_3]; rfl
  unfold enL enP
  by_cases h1 : 0 < entP q
  · rw [if_pos h1, if_pos h1]
    by_cases h2 : 0 < entP (enS q)
    · rw [if_pos h2, if_pos h2, run_two (en_ok h h1) (by rw [hS]; exact en_ok (enS_ok h h1) h2), hS, hS]; rfl
    · rw [if_neg h2, if_neg h2, run_one (en_ok h h1), hS]; rfl
  · rw [if_neg h1, if_neg h1]; rfl
theorem enP_at {q : Plt} (h : plV q = true) : (enP q).d = q.d ∧ (enP q).s = q.s ∧ (enP q).g = q.g ∧ (q.d = 1 → (enP q).w = q.w - min q.w (q.s - q.i)) ∧ (q.d ≠ 1 → enP q = q) := by
  have h1 := (plV_iff q).1 h
  unfold enP
  by_cases hd : q.d = 1
  · cases hl : q.l
    · have e1 : entP q = min q.w (q.s - q.i) := by simp [entP, hd, hl]
      have e2 : entP (enS q) = min (q.w - entP q) (q.s - (q.i + entP q)) := by simp [enS_eq, entP, hd]
      rw [if_neg (show ¬ 0 < entP (enS q) by rw [e2, e1]; omega)]
      split
      · rw [e1.symm]; exact ⟨rfl, rfl, rfl, fun _ => rfl, fun h => absurd hd h⟩
      · exact ⟨rfl, rfl, rfl, fun _ => by omega, fun _ => rfl⟩
    · have e1 : entP q = min 1 (min q.w (q.s - q.i)) := by simp [entP, hd, hl]
      have e2 : entP (enS q) = min (q.w - entP q) (q.s - (q.i + entP q)) := by simp [enS_eq, entP, hd]
      have e3 : (enS q).w = q.w - entP q := rfl
      have e4 : (enS (enS q)).w = q.w - entP q - entP (enS q) := rfl
      split
      · split
        · exact ⟨rfl, rfl, rfl, fun _ => by rw [e4]; omega, fun h => absurd hd h⟩
        · exact ⟨rfl, rfl, rfl, fun _ => by rw [e3]; omega, fun h => absurd hd h⟩
      · exact ⟨rfl, rfl, rfl, fun _ => by omega, fun _ => rfl⟩
  · have e1 : entP q = 0 := by simp [entP, hd]
    rw [if_neg (by omega)]
    exact ⟨rfl, rfl, rfl, fun h => absurd h hd, fun _ => rfl⟩
theorem ok_open {p : Plt} (h0 : p.d = 0) (hs : 0 < p.s) : stOk p ⟨kOpen, 0⟩ = true ∧ stP p (kd kOpen) 0 = opP p := by
  refine ⟨?_, by rw [kd_1]; rfl⟩
  unfold stOk evV mostK
  rw [show (Bev.mk kOpen 0).k = kOpen from rfl, kd_1]
  simp [mostV, canP, h0, hs]
theorem ok_shut {p : Plt} (h0 : p.d = 1) : stOk p ⟨kShut, 0⟩ = true ∧ stP p (kd kShut) 0 = { p with d := 0 } := by
  refine ⟨?_, by rw [kd_2]; rfl⟩
  unfold stOk evV mostK
  rw [show (Bev.mk kShut 0).k = kShut from rfl, kd_2]
  simp [mostV, canP, h0]
theorem ok_go {p : Plt} (h0 : p.d = 0) (hs : 0 < p.s) (hg : p.g < 9999) : stOk p ⟨kGo, 0⟩ = true ∧ stP p (kd kGo) 0 = { p with s := 0, i := 0, g := p.g + 1 } := by
  refine ⟨?_, by rw [kd_7]; rfl⟩
  unfold stOk evV mostK
  rw [show (Bev.mk kGo 0).k = kGo from rfl, kd_7]
  simp [mostV, canP, h0, hs, hg]
theorem run_qgE {q : Plt} (h : plV q = true) (hs : q.s ≠ 0) (hg : q.g ≠ 9999) : (runP q (qgE q)).2 = (qgE q).length ∧ (runP q (qgE q)).1.s = 0 ∧ (runP q (qgE q)).1.g = q.g + 1 ∧ (runP q (qgE q)).1.w = q.w := by
  have h1 := (plV_iff q).1 h
  unfold qgE
  by_cases hd : q.d = 1
  · rw [if_pos hd]
    have a := ok_shut hd
    have b := ok_go (p := { q with d := 0 }) rfl (show 0 < q.s by omega) (show q.g < 9999 by omega)
    have e : runP q ([(⟨kShut, 0⟩ : Bev)] ++ [⟨kGo, 0⟩]) = _ := run_two (e := ⟨kShut, 0⟩) (f := ⟨kGo, 0⟩) a.1 (by show stOk (stP q (kd kShut) 0) _ = true; rw [a.2]; exact b.1)
    rw [e]
    show 2 = 2 ∧ (stP (stP q (kd kShut) 0) (kd kGo) 0).s = 0 ∧ (stP (stP q (kd kShut) 0) (kd kGo) 0).g = _ ∧ (stP (stP q (kd kShut) 0) (kd kGo) 0).w = _
    rw [a.2, b.2]
    exact ⟨rfl, rfl, rfl, rfl⟩
  · rw [if_neg hd]
    have b := ok_go (p := q) (by omega) (show 0 < q.s by omega) (show q.g < 9999 by omega)
    have e : runP q ([] ++ [(⟨kGo, 0⟩ : Bev)]) = _ := run_one (e := ⟨kGo, 0⟩) b.1
    rw [e]
    show 1 = 1 ∧ (stP q (kd kGo) 0).s = 0 ∧ (stP q (kd kGo) 0).g = _ ∧ (stP q (kd kGo) 0).w = _
    rw [b.2]
    exact ⟨rfl, rfl, rfl, rfl⟩
theorem run_qg {p : Plt} (h : qgV p = true) : plV p = true ∧ rpOk p (qgL p) = true ∧ (runP p (qgL p)).2 = (qgL p).length ∧ (runP p (qgL p)).1.s = 0 ∧ (runP p (qgL p)).1.g = p.g + 1 ∧ (0 < (runP p (qgL p)).1.w → p.w - (runP p (qgL p)).1.w = p.s - p.i) := by
  have hv : plV p = true ∧ p.s ≠ 0 ∧ p.g ≠ 9999 := by simpa [qgV] using h
  obtain ⟨hp, hs, hg⟩ := hv
  have hlen := qgL_len p
  have hl : qgL p = qgX p := by rw [qgL, if_pos h]
  have h1 := (plV_iff p).1 hp
  refine ⟨hp, ?_⟩
  have hO : (runP p (qgO p)).2 = (qgO p).length ∧ (runP p (qgO p)).1 = qgS p := by
    unfold qgO qgS
    by_cases ho : opB p = true
    · have a := ok_open (opB_s hp ho).1 (show 0 < p.s by have := opB_s hp ho; omega)
      rw [if_pos ho, if_pos ho, run_one a.1]
      exact ⟨rfl, a.2⟩
    · rw [if_neg ho, if_neg ho]; exact ⟨rfl, rfl⟩
  have hq := qgS_ok hp
  have hqs : (qgS p).s = p.s ∧ (qgS p).g = p.g ∧ (qgS p).w = p.w ∧ (qgS p).i = p.i := by unfold qgS; split <;> exact ⟨rfl, rfl, rfl, rfl⟩
  have hR := run_en hq
  have hE := enP_at hq
  have hF := run_qgE (enP_ok hq) (by rw [hE.2.1, hqs.1]; exact hs) (by rw [hE.2.2.1, hqs.2.1]; exact hg)
  have e1 : runP p (qgL p) = ((runP (enP (qgS p)) (qgE (enP (qgS p)))).1, (qgL p).length) := by
    rw [hl, qgX, run_app _ _ _ hO.1, hO.2, run_app _ _ _ (by rw [hR]), hR]
    simp only [hF.1, List.length_append]
    refine Prod.ext rfl ?_
    show _ + _ + _ = _
    omega
  rw [e1]
  refine ⟨by simp [rpOk, hp]; omega, rfl, hF.2.1, by rw [hF.2.2.1, hE.2.2.1, hqs.2.1], ?_⟩
  show 0 < (runP _ _).1.w → p.w - (runP _ _).1.w = _
  rw [hF.2.2.2]
  intro hw
  by_cases hd : (qgS p).d = 1
  · have := hE.2.2.2.1 hd
    rw [hqs.1, hqs.2.2.1, hqs.2.2.2] at this
    omega
  · have := hE.2.2.2.2 hd
    rw [this, hqs.2.2.1] at hw ⊢
    have hq1 := (plV_iff _).1 hq
    have ho : ¬ opB p = true := fun ho => hd (by unfold qgS; rw [if_pos ho]; rfl)
    have hd0 : p.d ≠ 1 := by unfold qgS at hd; rw [if_neg ho] at hd; exact hd
    have hn : ¬ (p.d = 0 ∧ 0 < p.w ∧ p.i < p.s) := fun hh => ho (by simp [opB, hh])
    omega
/-- How many can enter: one more is not possible, so many is. -/
theorem me_step {x : Plt} (h : plV x = true) (c : Int) : stOk x ⟨kEnter, c⟩ = (decide (1 ≤ c) && decide (c ≤ entP x)) := by
  have h1 := ent_le h
  unfold stOk evV mostK
  rw [show (Bev.mk kEnter c).k = kEnter from rfl, kd_3, Bool.eq_iff_iff]
  simp [mostV, inR, canP]
  omega
end Go.Proofs.Ytinlcbljpclccaa
