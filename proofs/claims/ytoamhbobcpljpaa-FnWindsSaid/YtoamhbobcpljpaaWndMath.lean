/- Wind rules, states, readings and runs of them, as functions. No condition. -/
import Derived.Test.YtoamhbobcpljpaaKindW
import Derived.Test.YtoamhbobcpljpaaWruS
import Derived.Test.YtoamhbobcpljpaaWstS
namespace Go.Proofs.Ytoamhbobcpljpaa
open Go.RowKit
set_option linter.unusedVariables false
/-- A valid rule. -/
def wrV (r : Wru) : Bool := inR r.a 2 60 && inR r.b (r.a + 1) 60 && inR r.c 1 (r.a - 1) && inR r.d 1 10
theorem wrV_iff (r : Wru) : wrV r = true ↔ (2 ≤ r.a ∧ r.a ≤ 60) ∧ (r.a + 1 ≤ r.b ∧ r.b ≤ 60) ∧ (1 ≤ r.c ∧ r.c ≤ r.a - 1) ∧ (1 ≤ r.d ∧ r.d ≤ 10) := by
  unfold wrV; simp only [Bool.and_eq_true, inR_iff]
  constructor
  · rintro ⟨⟨⟨a, b⟩, c⟩, d⟩; exact ⟨a, b, c, d⟩
  · rintro ⟨a, b, c, d⟩; exact ⟨⟨⟨a, b⟩, c⟩, d⟩
/-- A valid state with a valid rule. -/
def wsX (r : Wru) (s : Wst) : Bool := (decide (s.l = 0) && decide (s.c = 0)) || (inR s.l 1 2 && inR s.c 0 (r.d - 1))
def wsV (r : Wru) (s : Wst) : Bool := wrV r && wsX r s
theorem wsX_iff (r : Wru) (s : Wst) : wsX r s = true ↔ (s.l = 0 ∧ s.c = 0) ∨ ((1 ≤ s.l ∧ s.l ≤ 2) ∧ 0 ≤ s.c ∧ s.c ≤ r.d - 1) := by
  unfold wsX; simp only [Bool.or_eq_true, Bool.and_eq_true, inR_iff, decide_eq_true_eq]
theorem wsV_iff (r : Wru) (s : Wst) : wsV r s = true ↔ wrV r = true ∧ ((s.l = 0 ∧ s.c = 0) ∨ ((1 ≤ s.l ∧ s.l ≤ 2) ∧ 0 ≤ s.c ∧ s.c ≤ r.d - 1)) := by
  unfold wsV; rw [Bool.and_eq_true, wsX_iff]
theorem wsV_spec (r : Wru) (s : Wst) : wsV r s = (wrV r && (inR s.l 0 2 && (inR s.c 0 (r.d - 1) && (decide (0 < s.l) || decide (s.c = 0))))) := by
  unfold wsV
  cases h : wrV r with
  | false => rfl
  | true =>
    have h1 := (wrV_iff r).1 h
    simp only [Bool.true_and]
    rw [Bool.eq_iff_iff, wsX_iff]
    simp only [Bool.or_eq_true, Bool.and_eq_true, inR_iff, decide_eq_true_eq]
    omega
/-- The limit of a level. -/
def limW (r : Wru) (l : Int) : Int := if l = 2 then r.b else r.a
/-- The state after a reading. -/
def wnx (r : Wru) (s : Wst) (v : Int) : Wst :=
  if r.b ≤ v then ⟨2, 0⟩ else if s.l = 0 then (if r.a ≤ v then ⟨1, 0⟩ else ⟨0, 0⟩) else if limW r s.l - r.c ≤ v then ⟨s.l, 0⟩ else if s.c + 1 = r.d then ⟨s.l - 1, 0⟩ else ⟨s.l, s.c + 1⟩
theorem wnx_ok {r : Wru} {s : Wst} (h : wsV r s = true) (v : Int) : wsV r (wnx r s v) = true := by
  obtain ⟨h1, h2⟩ := (wsV_iff r s).1 h
  have h3 := (wrV_iff r).1 h1
  rw [wsV_iff]
  refine ⟨h1, ?_⟩
  unfold wnx
  split
  · simp; omega
  · split
    · split <;> simp <;> omega
    · split
      · simp; omega
      · split <;> simp <;> omega
theorem zero_ok {r : Wru} (h : wrV r = true) : wsV r ⟨0, 0⟩ = true := by rw [wsV_iff]; exact ⟨h, .inl ⟨rfl, rfl⟩⟩
theorem lim_bd {r : Wru} (h : wrV r = true) (l : Int) : r.c < limW r l ∧ limW r l ≤ 60 := by
  have h3 := (wrV_iff r).1 h
  unfold limW
  split <;> omega
/-- What NextWind answers. -/
def nxOk (r : Wru) (s : Wst) (v : Int) : Bool := wsV r s && inR v 0 60
def nxR (r : Wru) (s : Wst) (v : Int) : Wst := if nxOk r s v then wnx r s v else ⟨0, 0⟩
theorem nx_no {r : Wru} {s : Wst} {v : Int} (h : nxOk r s v = false) : nxR r s v = ⟨0, 0⟩ := by simp [nxR, h]
theorem nx_yes {r : Wru} {s : Wst} {v : Int} (h : nxOk r s v = true) : nxR r s v = wnx r s v := by simp [nxR, h]
/-- The state after k of the votes. -/
def stK (r : Wru) (s : Wst) (l : List Int) (k : Nat) : Wst := (l.take k).foldl (wnx r) s
theorem stK_zero (r : Wru) (s : Wst) (l : List Int) : stK r s l 0 = s := by simp [stK]
theorem stK_succ {r : Wru} {s : Wst} {l : List Int} {k : Nat} (h : k < l.length) : stK r s l (k + 1) = wnx r (stK r s l k) (l.getD k 0) := by
  unfold stK
  rw [List.take_succ_eq_append_getElem h, List.foldl_append, show l.getD k 0 = l[k] by simp [List.getD, h]]
  rfl
theorem stK_ok {r : Wru} {s : Wst} (l : List Int) (h : wsV r s = true) : ∀ k, wsV r (stK r s l k) = true := by
  intro k
  unfold stK
  induction (l.take k) generalizing s with
  | nil => exact h
  | cons v t ih => exact ih (wnx_ok h v)
/-- The levels after each of the first k votes. -/
def lvK (r : Wru) (s : Wst) (l : List Int) (k : Nat) : List Int := (List.range k).map fun i => (stK r s l (i + 1)).l
theorem lvK_len (r : Wru) (s : Wst) (l : List Int) (k : Nat) : (lvK r s l k).length = k := by simp [lvK]
theorem lvK_succ (r : Wru) (s : Wst) (l : List Int) (k : Nat) : lvK r s l (k + 1) = lvK r s l k ++ [(stK r s l (k + 1)).l] := by simp [lvK, List.range_succ]
theorem lvK_at {r : Wru} {s : Wst} {l : List Int} {k i : Nat} (h : i < k) : (lvK r s l k).getD i 0 = (stK r s l (i + 1)).l := by simp [lvK, List.getD, h]
/-- A list of votes is valid. -/
def vtL (l : List Int) : Bool := decide (l.length ≤ 50) && l.all fun v => inR v 0 60
theorem vtL_iff (l : List Int) : vtL l = true ↔ l.length ≤ 50 ∧ ∀ j, j < l.length → inR (l.getD j 0) 0 60 = true := by
  unfold vtL
  rw [Bool.and_eq_true, decide_eq_true_eq, List.all_eq_true]
  constructor
  · rintro ⟨h, g⟩
    exact ⟨h, fun j hj => by rw [show l.getD j 0 = l[j] by simp [List.getD, hj]]; exact g _ (List.getElem_mem hj)⟩
  · rintro ⟨h, g⟩
    refine ⟨h, fun x hx => ?_⟩
    obtain ⟨j, hj, rfl⟩ := List.getElem_of_mem hx
    have := g j hj
    rwa [show l.getD j 0 = l[j] by simp [List.getD, hj]] at this
theorem vtL_long {l : List Int} (h : 50 < l.length) : vtL l = false := by
  cases e : vtL l with
  | false => rfl
  | true => have := ((vtL_iff l).1 e).1; omega
theorem vtL_bad {l : List Int} {k : Nat} (hk : k < l.length) (h : inR (l.getD k 0) 0 60 = false) : vtL l = false := by
  cases e : vtL l with
  | false => rfl
  | true => have := ((vtL_iff l).1 e).2 k hk; rw [h] at this; cases this
theorem vtL_good {l : List Int} (h : l.length ≤ 50) (g : ∀ j, j < l.length → inR (l.getD j 0) 0 60 = true) : vtL l = true := (vtL_iff l).2 ⟨h, g⟩
/-- What RunWind answers. -/
def rnOk (r : Wru) (s : Wst) (l : List Int) : Bool := wsV r s && vtL l
def rnL (r : Wru) (s : Wst) (l : List Int) : List Int := if rnOk r s l then lvK r s l l.length else []
def rnS (r : Wru) (s : Wst) (l : List Int) : Wst := if rnOk r s l then stK r s l l.length else ⟨0, 0⟩
theorem rn_no {r : Wru} {s : Wst} {l : List Int} (h : rnOk r s l = false) : rnL r s l = [] ∧ rnS r s l = ⟨0, 0⟩ := by simp [rnL, rnS, h]
theorem rn_yes {r : Wru} {s : Wst} {l : List Int} (h : rnOk r s l = true) : rnL r s l = lvK r s l l.length ∧ rnS r s l = stK r s l l.length := by simp [rnL, rnS, h]
theorem rnL_len (r : Wru) (s : Wst) (l : List Int) : (rnL r s l).length ≤ 50 := by
  cases h : rnOk r s l with
  | false => rw [(rn_no h).1]; simp
  | true =>
    rw [(rn_yes h).1, lvK_len]
    unfold rnOk at h
    rw [Bool.and_eq_true] at h
    exact ((vtL_iff l).1 h.2).1
/-- What TimeStopped answers. -/
def tsK (r : Wru) (l : List Int) (k : Nat) : Nat := ((List.range k).filter fun i => decide ((stK r ⟨0, 0⟩ l (i + 1)).l = 2)).length
theorem tsK_yes {r : Wru} {l : List Int} {k : Nat} (h : (stK r ⟨0, 0⟩ l (k + 1)).l = 2) : tsK r l (k + 1) = tsK r l k + 1 := by simp [tsK, List.range_succ, List.filter_append, h]
theorem tsK_no {r : Wru} {l : List Int} {k : Nat} (h : (stK r ⟨0, 0⟩ l (k + 1)).l ≠ 2) : tsK r l (k + 1) = tsK r l k := by simp [tsK, List.range_succ, List.filter_append, h]
theorem tsK_le (r : Wru) (l : List Int) (k : Nat) : tsK r l k ≤ k := by
  have := List.length_filter_le (fun i => decide ((stK r ⟨0, 0⟩ l (i + 1)).l = 2)) (List.range k)
  simpa [tsK] using this
def tsOk (r : Wru) (l : List Int) : Bool := wrV r && vtL l
def tsV (r : Wru) (l : List Int) : Int := if tsOk r l then (tsK r l l.length : Int) else 0
theorem ts_no {r : Wru} {l : List Int} (h : tsOk r l = false) : tsV r l = 0 := by simp [tsV, h]
theorem ts_yes {r : Wru} {l : List Int} (h : tsOk r l = true) : tsV r l = (tsK r l l.length : Int) := by simp [tsV, h]
theorem ts_rn (r : Wru) (l : List Int) : rnOk r ⟨0, 0⟩ l = tsOk r l := by
  unfold rnOk tsOk wsV
  have : wsX r ⟨0, 0⟩ = true := by rw [wsX_iff]; exact .inl ⟨rfl, rfl⟩
  rw [this, Bool.and_true]
/-- What EarliestFree answers. -/
def efV (r : Wru) (s : Wst) : Int := if wsV r s then s.l * r.d - s.c else 0
theorem ef_no {r : Wru} {s : Wst} (h : wsV r s = false) : efV r s = 0 := by simp [efV, h]
theorem ef_yes {r : Wru} {s : Wst} (h : wsV r s = true) : efV r s = s.l * r.d - s.c := by simp [efV, h]
theorem ef_bd {r : Wru} {s : Wst} (h : wsV r s = true) : 0 ≤ s.l * r.d - s.c ∧ s.l * r.d - s.c ≤ 20 ∧ 0 ≤ s.l * r.d ∧ s.l * r.d ≤ 20 := by
  obtain ⟨h1, h2⟩ := (wsV_iff r s).1 h
  have h3 := (wrV_iff r).1 h1
  have h4 : s.l = 0 ∨ s.l = 1 ∨ s.l = 2 := by omega
  rcases h4 with h | h | h <;> rw [h] at h2 ⊢ <;> omega
theorem ef_zero {r : Wru} {s : Wst} (h : wsV r s = true) (h0 : s.l = 0) : s.l * r.d - s.c = 0 := by
  obtain ⟨h1, h2⟩ := (wsV_iff r s).1 h
  rw [h0] at h2 ⊢; omega
/-- A reading of 0 brings the free level one reading nearer. -/
theorem ef_step {r : Wru} {s : Wst} (h : wsV r s = true) (h0 : 0 < s.l) : (wnx r s 0).l * r.d - (wnx r s 0).c = s.l * r.d - s.c - 1 := by
  obtain ⟨h1, h2⟩ := (wsV_iff r s).1 h
  have h3 := (wrV_iff r).1 h1
  have h5 := lim_bd h1 s.l
  unfold wnx
  rw [if_neg (by omega), if_neg (by omega), if_neg (by omega)]
  have h4 : s.l = 1 ∨ s.l = 2 := by omega
  split
  · rcases h4 with h | h <;> rw [h] at h2 ⊢ <;> simp <;> omega
  · simp; omega
/-- What GreatestFree answers. -/
def gfV (r : Wru) : Int := if wrV r then r.a - 1 else 0
/-- What CompareRules answers. -/
def cmK (a b : Wru) (l : List Int) (k : Nat) : Nat := ((List.range k).filter fun i => decide ((stK b ⟨0, 0⟩ l (i + 1)).l < (stK a ⟨0, 0⟩ l (i + 1)).l)).length
theorem cmK_yes {a b : Wru} {l : List Int} {k : Nat} (h : (stK b ⟨0, 0⟩ l (k + 1)).l < (stK a ⟨0, 0⟩ l (k + 1)).l) : cmK a b l (k + 1) = cmK a b l k + 1 := by simp [cmK, List.range_succ, List.filter_append, h]
theorem cmK_no {a b : Wru} {l : List Int} {k : Nat} (h : ¬ (stK b ⟨0, 0⟩ l (k + 1)).l < (stK a ⟨0, 0⟩ l (k + 1)).l) : cmK a b l (k + 1) = cmK a b l k := by simp [cmK, List.range_succ, List.filter_append, h]
theorem cmK_le (a b : Wru) (l : List Int) (k : Nat) : cmK a b l k ≤ k := by
  have := List.length_filter_le (fun i => decide ((stK b ⟨0, 0⟩ l (i + 1)).l < (stK a ⟨0, 0⟩ l (i + 1)).l)) (List.range k)
  simpa [cmK] using this
def cmOk (a b : Wru) (l : List Int) : Bool := (wrV a && wrV b) && vtL l
def cmV (a b : Wru) (l : List Int) : Int := if cmOk a b l then (cmK a b l l.length : Int) else 0
theorem cm_no {a b : Wru} {l : List Int} (h : cmOk a b l = false) : cmV a b l = 0 := by simp [cmV, h]
theorem cm_yes {a b : Wru} {l : List Int} (h : cmOk a b l = true) : cmV a b l = (cmK a b l l.length : Int) := by simp [cmV, h]
end Go.Proofs.Ytoamhbobcpljpaa
