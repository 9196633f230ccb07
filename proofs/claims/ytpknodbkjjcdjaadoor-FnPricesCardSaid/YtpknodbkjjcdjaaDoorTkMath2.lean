/- Lists of tickets: who is still up, what was sold, which ones are expired, one that is used, one that is sold. No condition. -/
import Derived.Test.YtpknodbkjjcdjaaDoorTiksW
import Derived.Test.YtpknodbkjjcdjaaDoorCheapM
namespace Go.Proofs.YtpknodbkjjcdjaaDoor
open Go.RowKit
set_option linter.unusedVariables false
theorem TikV.one {l : List Tik} (h : TikV l) {j : Nat} (hj : j < l.length) : isT (gth l j) = true := (h.ok j hj).1
theorem TikV.nums {l : List Tik} (h : TikV l) : ∀ k, k < l.length → ∀ j, j < k → (gth l j).i < (gth l k).i := by
  intro k
  induction k with
  | zero => intro _ j hj; omega
  | succ k ih =>
    intro hk j hj
    have h1 := (h.ok (k + 1) hk).2 (by omega)
    rw [Nat.add_sub_cancel] at h1
    by_cases e : j = k
    · subst e; exact h1
    · have := ih (by omega) j (by omega); omega
/-- Who is still up, after the first n tickets. -/
def upT (k : Tik) : Int := max (k.g - k.p) 0
def upN (l : List Tik) : Nat → Int
  | 0 => 0
  | n + 1 => upN l n + upT (gth l n)
theorem upT_bd {k : Tik} (h : isT k = true) : 0 ≤ upT k ∧ upT k ≤ 50 := by
  rw [isT_iff] at h
  have := tE_bd k.s
  unfold upT
  omega
theorem upN_bd {l : List Tik} (h : TikV l) : ∀ n, n ≤ l.length → 0 ≤ upN l n ∧ upN l n ≤ n * 50 := by
  intro n
  induction n with
  | zero => intro _; exact ⟨Int.le_refl _, Int.le_refl _⟩
  | succ n ih =>
    intro hn
    have h1 := ih (by omega)
    have h2 := upT_bd (h.one (j := n) (by omega))
    show 0 ≤ upN l n + upT (gth l n) ∧ upN l n + upT (gth l n) ≤ ((n + 1 : Nat) : Int) * 50
    omega
noncomputable def suV (l : List Tik) : Int := if tikL l then upN l l.length else 0
theorem su_no {l : List Tik} (h : tikL l = false) : suV l = 0 := by simp [suV, h]
theorem su_yes {l : List Tik} (h : tikL l = true) : suV l = upN l l.length := by simp [suV, h]
/-- The price of a kind. -/
def priT (p : Prc) (s : Int) : Int := if s = 0 then p.a else if s = 1 then p.b else if s = 2 then p.c else p.d
theorem priT_bd {p : Prc} (h : prcV p = true) (s : Int) : 0 ≤ priT p s ∧ priT p s ≤ 50000 := by
  rw [prcV_iff] at h
  unfold priT; repeat' split
  all_goals omega
def saN (p : Prc) (l : List Tik) (d : Int) : Nat → Int
  | 0 => 0
  | n + 1 => if (gth l n).w = d then saN p l d n + priT p (gth l n).s else saN p l d n
theorem saN_bd {p : Prc} (hp : prcV p = true) (l : List Tik) (d : Int) : ∀ n : Nat, 0 ≤ saN p l d n ∧ saN p l d n ≤ n * 50000 := by
  intro n
  induction n with
  | zero => exact ⟨Int.le_refl _, Int.le_refl _⟩
  | succ n ih =>
    have h2 := priT_bd hp (gth l n).s
    unfold saN
    split <;> omega
theorem saN_yes {p : Prc} {l : List Tik} {d : Int} {n : Nat} (h : (gth l n).w = d) : saN p l d (n + 1) = saN p l d n + priT p (gth l n).s := by show (if _ then _ else _) = _; rw [if_pos h]
theorem saN_no {p : Prc} {l : List Tik} {d : Int} {n : Nat} (h : ¬ (gth l n).w = d) : saN p l d (n + 1) = saN p l d n := by show (if _ then _ else _) = _; rw [if_neg h]
noncomputable def saOk (p : Prc) (l : List Tik) (d : Int) : Bool := prcV p && tikL l && inR d 0 999
noncomputable def saV (p : Prc) (l : List Tik) (d : Int) : Int := if saOk p l d then saN p l d l.length else 0
theorem sa_no {p : Prc} {l : List Tik} {d : Int} (h : saOk p l d = false) : saV p l d = 0 := by simp [saV, h]
theorem sa_yes {p : Prc} {l : List Tik} {d : Int} (h : saOk p l d = true) : saV p l d = saN p l d l.length := by simp [saV, h]
/-- The ticket is expired on the day. -/
def expd (d : Int) (k : Tik) : Bool := decide (k.w + tD k.s - 1 < d)
def numsT (l : List Tik) : List Int := l.map (·.i)
theorem numsT_len (l : List Tik) : (numsT l).length = l.length := by simp [numsT]
theorem numsT_one (l : List Tik) (k : Tik) : numsT (l ++ [k]) = numsT l ++ [k.i] := by simp [numsT]
theorem take_gthT (l : List Tik) (j : Nat) (h : j < l.length) : l.take (j + 1) = l.take j ++ [gth l j] := by
  rw [gth_get h, List.take_succ_eq_append_getElem h]
theorem filtT_yes {q : Tik → Bool} {l : List Tik} {k : Nat} (hk : k < l.length) (h : q (gth l k) = true) : (l.take (k + 1)).filter q = (l.take k).filter q ++ [gth l k] := by
  rw [take_gthT l k hk, List.filter_append]; simp [h]
theorem filtT_no {q : Tik → Bool} {l : List Tik} {k : Nat} (hk : k < l.length) (h : q (gth l k) = false) : (l.take (k + 1)).filter q = (l.take k).filter q := by
  rw [take_gthT l k hk, List.filter_append]; simp [h]
theorem filtT_len (q : Tik → Bool) (l : List Tik) (k : Nat) : ((l.take k).filter q).length ≤ l.length := by
  have h1 := List.length_filter_le q (l.take k)
  rw [List.length_take] at h1
  omega
noncomputable def exOk (l : List Tik) (d : Int) : Bool := tikL l && inR d 0 999
noncomputable def exR (l : List Tik) (d : Int) : List Int := if exOk l d then numsT (l.filter (expd d)) else []
theorem ex_no {l : List Tik} {d : Int} (h : exOk l d = false) : exR l d = [] := by simp [exR, h]
theorem ex_yes {l : List Tik} {d : Int} (h : exOk l d = true) : exR l d = numsT (l.filter (expd d)) := by simp [exR, h]
theorem exR_len (l : List Tik) (d : Int) : (exR l d).length ≤ 12 := by
  cases h : exOk l d with
  | false => rw [ex_no h]; simp
  | true =>
    rw [ex_yes h, numsT_len]
    simp only [exOk, Bool.and_eq_true] at h
    have h1 := (tikL_yes h.1).len
    have h2 := List.length_filter_le (expd d) l
    omega
theorem exp_iff {k : Tik} {d : Int} (h : isT k = true) : expd d k = (decide (k.w ≤ d) && !(forD k d)) := by
  have := tD_bd k.s
  unfold expd forD inR
  rw [Bool.eq_iff_iff]
  simp
  omega
/-- The place of number n. -/
def idxT (l : List Tik) (n : Int) : Nat := l.findIdx (fun c => c.i == n)
theorem idxT_le (l : List Tik) (n : Int) : idxT l n ≤ l.length := List.findIdx_le_length
theorem idxT_at {l : List Tik} {n : Int} (h : idxT l n < l.length) : (gth l (idxT l n)).i = n := by
  have := List.findIdx_getElem (p := fun c : Tik => c.i == n) (xs := l) (w := h)
  rw [gth_get h]
  exact eq_of_beq this
theorem idxT_lt {l : List Tik} {n : Int} {j : Nat} (h : j < idxT l n) : (gth l j).i ≠ n := by
  have hl : j < l.length := Nat.lt_of_lt_of_le h (idxT_le l n)
  have := List.not_of_lt_findIdx (p := fun c : Tik => c.i == n) (xs := l) h
  rw [gth_get hl]
  intro e
  simp [e] at this
theorem idxT_is {l : List Tik} {n : Int} {k : Nat} (hk : k < l.length) (h0 : ∀ j, j < k → (gth l j).i ≠ n) (h : (gth l k).i = n) : idxT l n = k := by
  rcases Nat.lt_trichotomy (idxT l n) k with hh | hh | hh
  · exact absurd (idxT_at (Nat.lt_trans hh hk)) (h0 _ hh)
  · exact hh
  · exact absurd h (idxT_lt hh)
theorem idxT_none {l : List Tik} {n : Int} (h0 : ∀ j, j < l.length → (gth l j).i ≠ n) : idxT l n = l.length := by
  rcases Nat.lt_or_ge (idxT l n) l.length with h | h
  · exact absurd (idxT_at h) (h0 _ h)
  · exact Nat.le_antisymm (idxT_le l n) h
/-- The place of a number is the only one. -/
theorem idxT_one {l : List Tik} (h : TikV l) {n : Int} {k : Nat} (hk : k < l.length) (hn : (gth l k).i = n) : idxT l n = k :=
  idxT_is hk (fun j hj e => by have := h.nums k hk j hj; omega) hn
/-- The ticket with one use more. -/
def usT (k : Tik) (u : Bool) : Tik := ⟨k.i, k.s, k.w, if u then k.g + 1 else k.g, if u then k.p else k.p + 1⟩
noncomputable def usOk (l : List Tik) (n d : Int) (u : Bool) : Bool := tikL l && inR d 0 999 && decide (idxT l n < l.length) && canT (gth l (idxT l n)) d u
noncomputable def usR (l : List Tik) (n d : Int) (u : Bool) : List Tik := if usOk l n d u then l.set (idxT l n) (usT (gth l (idxT l n)) u) else []
theorem us_no {l : List Tik} {n d : Int} {u : Bool} (h : usOk l n d u = false) : usR l n d u = [] := by simp [usR, h]
theorem us_yes {l : List Tik} {n d : Int} {u : Bool} (h : usOk l n d u = true) : usR l n d u = l.set (idxT l n) (usT (gth l (idxT l n)) u) := by simp [usR, h]
theorem us_list {l : List Tik} {n d : Int} {u : Bool} (h : tikL l = false) : usOk l n d u = false := by simp [usOk, h]
theorem us_day {l : List Tik} {n d : Int} {u : Bool} (h : inR d 0 999 = false) : usOk l n d u = false := by simp [usOk, h]
theorem us_none {l : List Tik} {n d : Int} {u : Bool} (h : idxT l n = l.length) : usOk l n d u = false := by simp [usOk, h]
theorem us_can {l : List Tik} {n d : Int} {u : Bool} (h : canT (gth l (idxT l n)) d u = false) : usOk l n d u = false := by simp [usOk, h]
theorem us_all {l : List Tik} {n d : Int} {u : Bool} (h1 : tikL l = true) (h2 : inR d 0 999 = true) (h3 : idxT l n < l.length) (h4 : canT (gth l (idxT l n)) d u = true) : usOk l n d u = true := by simp [usOk, h1, h2, h3, h4]
theorem usR_len (l : List Tik) (n d : Int) (u : Bool) : (usR l n d u).length ≤ l.length := by
  unfold usR; split <;> simp
/-- The ticket that is sold next. -/
def nwN (l : List Tik) : Int := if l.length = 0 then 1 else IntKind.i64.wrap ((gth l (l.length - 1)).i + 1)
def nwT (l : List Tik) (s d : Int) : Tik := ⟨nwN l, s, d, 0, 0⟩
noncomputable def slOk (l : List Tik) (s d : Int) : Bool := tikL (l ++ [nwT l s d])
noncomputable def slR (l : List Tik) (s d : Int) : List Tik := if slOk l s d then l ++ [nwT l s d] else []
noncomputable def slV (l : List Tik) (s d : Int) : Int := if slOk l s d then nwN l else 0
theorem sl_no {l : List Tik} {s d : Int} (h : slOk l s d = false) : slR l s d = [] ∧ slV l s d = 0 := by simp [slR, slV, h]
theorem sl_yes {l : List Tik} {s d : Int} (h : slOk l s d = true) : slR l s d = l ++ [nwT l s d] ∧ slV l s d = nwN l := by simp [slR, slV, h]
theorem tikV_left {l : List Tik} {k : Tik} (h : TikV (l ++ [k])) : TikV l := by
  refine ⟨by have := h.len; simp at this; omega, fun i hi => ?_⟩
  have hi2 : i < (l ++ [k]).length := by simp; omega
  obtain ⟨a, b⟩ := h.ok i hi2
  rw [gth_append_left hi] at a
  refine ⟨a, fun h0 => ?_⟩
  have := b h0
  rwa [gth_append_left hi, gth_append_left (by omega)] at this
theorem sl_list {l : List Tik} {s d : Int} (h : tikL l = false) : slOk l s d = false := by
  cases e : slOk l s d with
  | false => rfl
  | true =>
    have := (tikL_iff l).2 (tikV_left (tikL_yes e))
    rw [h] at this; cases this
theorem slR_len (l : List Tik) (s d : Int) : (slR l s d).length ≤ 12 := by
  cases h : slOk l s d with
  | false => rw [(sl_no h).1]; simp
  | true => rw [(sl_yes h).1]; exact (tikL_yes h).len
theorem tiks_split (l : List Tik) (i : Nat) (hi : i < l.length) (x : Tik) : tiks (l.set i x) = tiks (l.take i) ++ ([.int .i64 x.i, .int .i64 x.s, .int .i64 x.w, .int .i64 x.g, .int .i64 x.p] ++ tiks (l.drop (i + 1))) := by
  rw [← tiks_one, ← tiks_append, ← tiks_append, List.set_eq_take_append_cons_drop, if_pos hi, List.singleton_append]
theorem tiks_set3 (l : List Tik) (i : Nat) (hi : i < l.length) (G : Int) : (tiks l).set (i * 5 + 3) (.int .i64 G) = tiks (l.set i ⟨(gth l i).i, (gth l i).s, (gth l i).w, G, (gth l i).p⟩) := by
  have hal : (tiks (l.take i)).length = i * 5 := tiks_take_len l i (by omega)
  have h0 := tiks_split l i hi (gth l i)
  have e : l.set i (gth l i) = l := by rw [gth_get hi]; exact List.set_getElem_self hi
  rw [e] at h0
  rw [tiks_split l i hi, h0, List.set_append_right _ _ (by omega), hal, Nat.add_sub_cancel_left]
  rfl
theorem tiks_set4 (l : List Tik) (i : Nat) (hi : i < l.length) (P : Int) : (tiks l).set (i * 5 + 4) (.int .i64 P) = tiks (l.set i ⟨(gth l i).i, (gth l i).s, (gth l i).w, (gth l i).g, P⟩) := by
  have hal : (tiks (l.take i)).length = i * 5 := tiks_take_len l i (by omega)
  have h0 := tiks_split l i hi (gth l i)
  have e : l.set i (gth l i) = l := by rw [gth_get hi]; exact List.set_getElem_self hi
  rw [e] at h0
  rw [tiks_split l i hi, h0, List.set_append_right _ _ (by omega), hal, Nat.add_sub_cancel_left]
  rfl
end Go.Proofs.YtpknodbkjjcdjaaDoor
