/- What adding a damage gives, in plain words. No condition. -/
import Derived.Test.YtiogjocbiagipabWinMath
namespace Go.Proofs.Ytiogjocbiagipab
open Go.RowKit
set_option linter.unusedVariables false
/-- How many stand ahead of d. -/
def posn (l : List Dmg) (d : Dmg) : Nat := (l.takeWhile (fun x => bef x d)).length
theorem posn_le (l : List Dmg) (d : Dmg) : posn l d ≤ l.length := by
  unfold posn
  induction l with
  | nil => simp
  | cons x r ih => rw [List.takeWhile_cons]; split <;> simp <;> omega
theorem posn_lt : ∀ (l : List Dmg) (d : Dmg) (j : Nat), j < posn l d → bef (gth l j) d = true
  | [], d, j, h => by simp [posn] at h
  | x :: r, d, j, h => by
    unfold posn at h
    rw [List.takeWhile_cons] at h
    by_cases hx : bef x d = true
    · rw [if_pos hx, List.length_cons] at h
      cases j with
      | zero => exact hx
      | succ j => exact posn_lt r d j (by unfold posn; omega)
    · rw [if_neg hx] at h; simp at h
theorem posn_at : ∀ (l : List Dmg) (d : Dmg), posn l d < l.length → bef (gth l (posn l d)) d = false
  | [], d, h => by simp [posn] at h
  | x :: r, d, h => by
    by_cases hx : bef x d = true
    · have e : posn (x :: r) d = posn r d + 1 := by unfold posn; rw [List.takeWhile_cons, if_pos hx, List.length_cons]
      rw [e] at h ⊢
      exact posn_at r d (by simpa using h)
    · have e : posn (x :: r) d = 0 := by unfold posn; rw [List.takeWhile_cons, if_neg hx]; rfl
      rw [e]
      show bef x d = false
      cases hb : bef x d with
      | false => rfl
      | true => exact absurd hb hx
theorem posn_eq {l : List Dmg} {d : Dmg} {p : Nat} (h : p ≤ l.length) (h1 : ∀ j, j < p → bef (gth l j) d = true) (h2 : p < l.length → bef (gth l p) d = false) : posn l d = p := by
  rcases Nat.lt_trichotomy (posn l d) p with g | g | g
  · have := posn_at l d (by omega)
    rw [h1 _ g] at this; cases this
  · exact g
  · have a := posn_lt l d p g
    have := posn_le l d
    rw [h2 (by omega)] at a; cases a
/-- The same place in the same strand. -/
def sameP (x d : Dmg) : Bool := x.a == d.a && x.s == d.s
def fnd (l : List Dmg) (d : Dmg) : Bool := decide (posn l d < l.length) && sameP (gth l (posn l d)) d
/-- The wires together, as Go adds them. -/
def smW (l : List Dmg) (d : Dmg) : Int := IntKind.i64.wrap (d.w + (gth l (posn l d)).w)
def addL (l : List Dmg) (d : Dmg) : List Dmg :=
  if fnd l d then l.take (posn l d) ++ ([⟨d.a, d.s, smW l d⟩] ++ l.drop (posn l d + 1)) else l.take (posn l d) ++ ([d] ++ l.drop (posn l d))
theorem addL_yes {l : List Dmg} {d : Dmg} (h : fnd l d = true) : addL l d = l.take (posn l d) ++ ([⟨d.a, d.s, smW l d⟩] ++ l.drop (posn l d + 1)) := by rw [addL, if_pos h]
theorem addL_no {l : List Dmg} {d : Dmg} (h : fnd l d = false) : addL l d = l.take (posn l d) ++ ([d] ++ l.drop (posn l d)) := by rw [addL, if_neg (by rw [h]; exact Bool.false_ne_true)]
theorem addL_len (l : List Dmg) (d : Dmg) : (addL l d).length ≤ l.length + 1 := by
  have := posn_le l d
  unfold addL
  split <;> simp <;> omega
theorem fnd_lt {l : List Dmg} {d : Dmg} (h : fnd l d = true) : posn l d < l.length ∧ (gth l (posn l d)).a = d.a ∧ (gth l (posn l d)).s = d.s := by
  simp [fnd, sameP] at h; exact h
theorem addL_nth (l : List Dmg) (d : Dmg) : gth (addL l d) (posn l d) = if fnd l d then ⟨d.a, d.s, smW l d⟩ else d := by
  have hp := posn_le l d
  have ht : (l.take (posn l d)).length = posn l d := by rw [List.length_take]; omega
  unfold addL
  split
  · rw [gth_append_right (by omega), ht, Nat.sub_self]; rfl
  · rw [gth_append_right (by omega), ht, Nat.sub_self]; rfl
theorem addL_pos (l : List Dmg) (d : Dmg) : posn l d < (addL l d).length := by
  have hp := posn_le l d
  unfold addL
  split <;> simp <;> omega
noncomputable def adIn (k : RK) (l : List Dmg) (d : Dmg) : Bool := good k l && decide (1 ≤ d.w)
noncomputable def adOk (k : RK) (l : List Dmg) (d : Dmg) : Bool := adIn k l d && good k (addL l d)
noncomputable def adR (k : RK) (l : List Dmg) (d : Dmg) : List Dmg := if adOk k l d then addL l d else []
theorem ad_no {k : RK} {l : List Dmg} {d : Dmg} (h : adOk k l d = false) : adR k l d = [] := by simp [adR, h]
theorem ad_yes {k : RK} {l : List Dmg} {d : Dmg} (h : adOk k l d = true) : adR k l d = addL l d := by simp [adR, h]
theorem ad_not1 {k : RK} {l : List Dmg} {d : Dmg} (h : good k l = false ∨ ¬ 1 ≤ d.w) : adOk k l d = false := by
  unfold adOk adIn
  rcases h with h | h
  · simp [h]
  · simp [h]
theorem adR_len (k : RK) (l : List Dmg) (d : Dmg) : (adR k l d).length ≤ 15 := by
  cases h : adOk k l d with
  | false => rw [ad_no h]; simp
  | true =>
    rw [ad_yes h]
    simp [adOk] at h
    exact (good_yes h.2).len
/-- A damage that is in order for the kind. -/
def isD (k : RK) (d : Dmg) : Bool := inR d.a 0 3000 && inR d.s 0 (k.s - 1) && inR d.w 1 k.w
theorem isD_iff (k : RK) (d : Dmg) : isD k d = true ↔ (0 ≤ d.a ∧ d.a ≤ 3000) ∧ (0 ≤ d.s ∧ d.s ≤ k.s - 1) ∧ (1 ≤ d.w ∧ d.w ≤ k.w) := by
  unfold isD; rw [Bool.and_eq_true, Bool.and_eq_true, inR_iff, inR_iff, inR_iff]
  constructor
  · rintro ⟨⟨a, b⟩, c⟩; exact ⟨a, b, c⟩
  · rintro ⟨a, b, c⟩; exact ⟨⟨a, b⟩, c⟩
theorem wf_range {n : Int} (h : (Lit.int .i64 n).wf = true) : -9223372036854775808 ≤ n ∧ n ≤ 9223372036854775807 := by
  simp [Lit.wf, IntKind.min, IntKind.max, IntKind.signed, IntKind.bits] at h <;> omega
/-- Wires that are too many do not come back into range. -/
theorem wrap_back {x g : Int} (hx : x ≤ 9223372036854775807) (h1 : 1 ≤ x) (hg : 1 ≤ g ∧ g ≤ 40) (h2 : 1 ≤ IntKind.i64.wrap (x + g)) : IntKind.i64.wrap (x + g) = x + g := by
  by_cases h : x + g ≤ 9223372036854775807
  · exact IntWalk.i64_in _ (by omega)
  · rw [IntKind.wrap_i64] at h2
    omega
theorem add_isD {k : RK} {l : List Dmg} {d : Dmg} (hw : d.wf) (hg : Good k l) (h1 : 1 ≤ d.w) (h : Good k (addL l d)) : isD k d = true := by
  obtain ⟨o1, o2, o3, _⟩ := h.ok (posn l d) (addL_pos l d)
  rw [addL_nth] at o1 o2 o3
  rw [isD_iff]
  rw [inR_iff] at o1 o2 o3
  cases hf : fnd l d with
  | false =>
    rw [hf] at o1 o2 o3
    exact ⟨o1, o2, o3⟩
  | true =>
    rw [hf] at o1 o2 o3
    simp only [if_true] at o1 o2 o3
    have hb := hg.srt.bd _ (fnd_lt hf).1
    have := wrap_back (wf_range hw.2.2).2 h1 ⟨hb.2.2.1, hb.2.2.2⟩ o3.1
    unfold smW at o3
    rw [this] at o3
    exact ⟨o1, o2, by omega⟩
theorem ad_not2 {k : RK} {l : List Dmg} {d : Dmg} (hw : d.wf) (hg : good k l = true) (h : isD k d = false) : adOk k l d = false := by
  cases ha : adOk k l d with
  | false => rfl
  | true =>
    simp [adOk, adIn] at ha
    rw [add_isD hw (good_yes hg) ha.1.2 (good_yes ha.2)] at h
    cases h
theorem smW_in {k : RK} {l : List Dmg} {d : Dmg} (hg : Good k l) (h : isD k d = true) (hf : fnd l d = true) : smW l d = d.w + (gth l (posn l d)).w ∧ 2 ≤ smW l d ∧ smW l d ≤ 80 := by
  have hb := hg.srt.bd _ (fnd_lt hf).1
  have hk := (isK_iff k).1 hg.kind
  have hd := (isD_iff k d).1 h
  have : smW l d = d.w + (gth l (posn l d)).w := IntWalk.i64_in _ (by omega)
  omega
/-- Damages stand in order. -/
theorem Good.bef {k : RK} {l : List Dmg} (h : Good k l) : ∀ i j, i < j → j < l.length → bef (gth l i) (gth l j) = true
  | i, 0, h1, _ => by omega
  | i, j + 1, h1, h2 => by
    have h3 := (h.ok (j + 1) h2).2.2.2 (by omega)
    simp only [Nat.add_sub_cancel] at h3
    by_cases e : i = j
    · subst e; exact h3
    · have h4 := Good.bef h i j (by omega) (by omega)
      rw [bef_iff] at h3 h4 ⊢
      omega
theorem bef_trans {x y z : Dmg} (h : bef x y = true) (g : bef y z = true) : bef x z = true := by
  rw [bef_iff] at h g ⊢; omega
end Go.Proofs.Ytiogjocbiagipab
