/- Tickets: the table of the kinds' rules, what a valid ticket is, and what rides are left. Condition: the table is as laid. -/
import Derived.Test.YtpknodbkjjcdjaaDoorTikS
import Derived.Test.YtpknodbkjjcdjaaDoorKindW
import Derived.WalkSmall
namespace Go.Proofs.YtpknodbkjjcdjaaDoor
open Go.RowKit
set_option linter.unusedVariables false
/-- How often in each direction, in both, and on how many days a kind can be used. -/
def tE (s : Int) : Int := if s = 0 then 1 else if s = 1 then 1 else if s = 2 then 50 else 10
def tB (s : Int) : Int := if s = 0 then 1 else if s = 1 then 2 else if s = 2 then 100 else 10
def tD (s : Int) : Int := if s = 0 then 2 else if s = 1 then 2 else if s = 2 then 1 else 365
theorem kind_of {s : Int} (h : inR s 0 3 = true) : ∃ K : Nat, K < 4 ∧ s = (K : Int) := by
  rw [inR_iff] at h
  exact ⟨s.toNat, by omega, by omega⟩
theorem tE_bd (s : Int) : 0 ≤ tE s ∧ tE s ≤ 50 := by
  unfold tE; repeat' split
  all_goals omega
theorem tB_bd (s : Int) : 0 ≤ tB s ∧ tB s ≤ 100 := by
  unfold tB; repeat' split
  all_goals omega
theorem tD_bd (s : Int) : 1 ≤ tD s ∧ tD s ≤ 365 := by
  unfold tD; repeat' split
  all_goals omega
/-- The table, rule after rule. -/
def rulCells : Array Value := #[.int .i64 1, .int .i64 1, .int .i64 2, .int .i64 1, .int .i64 2, .int .i64 2, .int .i64 50, .int .i64 100, .int .i64 1, .int .i64 10, .int .i64 10, .int .i64 365]
theorem rul_at (K : Nat) (h : K < 4) : rulCells[K * 3]? = some (.int .i64 (tE K)) ∧ rulCells[K * 3 + 1]? = some (.int .i64 (tB K)) ∧ rulCells[K * 3 + 2]? = some (.int .i64 (tD K)) := by
  rcases (by omega : K = 0 ∨ K = 1 ∨ K = 2 ∨ K = 3) with rfl | rfl | rfl | rfl <;> exact ⟨rfl, rfl, rfl⟩
/-- The program's table is as laid. -/
def RulP (w : World) : Prop := w.var? Tryd.prog "loop.example/g00935/impl.ticketRules" = some rulCells
theorem gRul : Tryd.prog.globalNamed "loop.example/g00935/impl.ticketRules" = some 0 := by kernel_rfl
theorem rul_lt {w : World} (h : RulP w) : 0 < w.heap.size := by
  have h' : w.var? Tryd.prog "loop.example/g00935/impl.ticketRules" = _ := h
  unfold World.var? at h'
  simp only [gRul, Option.bind_some] at h'
  cases hb : w.heap[0]? with
  | none => simp [hb] at h'
  | some o => exact (Array.getElem?_eq_some_iff.1 hb).1
theorem RulP.below {w w' : World} (h : RulP w) (hb : Below w.heap.size w w') : RulP w' := var?_below hb gRul (rul_lt h) h
theorem RulP.cells {w : World} (h : RulP w) (K : Nat) (hK : K < 4) :
    w.cell? ⟨0, K * 3, none⟩ = some (.int .i64 (tE K)) ∧ w.cell? ⟨0, K * 3 + 1, none⟩ = some (.int .i64 (tB K)) ∧ w.cell? ⟨0, K * 3 + 2, none⟩ = some (.int .i64 (tD K)) := by
  obtain ⟨a, b, c⟩ := rul_at K hK
  exact ⟨(World.var?_cell gRul h _).trans a, (World.var?_cell gRul h _).trans b, (World.var?_cell gRul h _).trans c⟩
/-- A valid ticket. -/
def isT (k : Tik) : Bool := inR k.i 1 9999 && inR k.s 0 3 && inR k.w 0 999 && inR k.g 0 (tE k.s) && inR k.p 0 (tE k.s) && decide (k.g + k.p ≤ tB k.s)
theorem isT_iff (k : Tik) : isT k = true ↔ (1 ≤ k.i ∧ k.i ≤ 9999) ∧ (0 ≤ k.s ∧ k.s ≤ 3) ∧ (0 ≤ k.w ∧ k.w ≤ 999) ∧ (0 ≤ k.g ∧ k.g ≤ tE k.s) ∧ (0 ≤ k.p ∧ k.p ≤ tE k.s) ∧ k.g + k.p ≤ tB k.s := by
  unfold isT; simp only [Bool.and_eq_true, inR_iff, decide_eq_true_eq]
  constructor
  · rintro ⟨⟨⟨⟨⟨a, b⟩, c⟩, d⟩, e⟩, f⟩; exact ⟨a, b, c, d, e, f⟩
  · rintro ⟨a, b, c, d, e, f⟩; exact ⟨⟨⟨⟨⟨a, b⟩, c⟩, d⟩, e⟩, f⟩
/-- How often a ticket can still be used up, and down. -/
def lfU (k : Tik) : Int := if k.s = 0 then 1 - k.g - k.p else if k.s = 1 then 1 - k.g else if k.s = 2 then 50 - k.g else 10 - k.g - k.p
def lfD (k : Tik) : Int := if k.s = 0 then 1 - k.g - k.p else if k.s = 1 then 1 - k.p else if k.s = 2 then 50 - k.p else 10 - k.g - k.p
theorem lf_min {k : Tik} (h : isT k = true) : min (tE k.s - k.g) (tB k.s - k.g - k.p) = lfU k ∧ min (tE k.s - k.p) (tB k.s - k.g - k.p) = lfD k := by
  rw [isT_iff] at h
  unfold lfU lfD tE tB at *
  rcases (by omega : k.s = 0 ∨ k.s = 1 ∨ k.s = 2 ∨ k.s = 3) with e | e | e | e <;> simp [e] at h ⊢ <;> omega
theorem lf_ok {k : Tik} (h : isT k = true) : 0 ≤ lfU k ∧ 0 ≤ lfD k ∧ lfU k ≤ 50 ∧ lfD k ≤ 50 := by
  rw [isT_iff] at h
  unfold lfU lfD tE tB at *
  rcases (by omega : k.s = 0 ∨ k.s = 1 ∨ k.s = 2 ∨ k.s = 3) with e | e | e | e <;> simp [e] at h ⊢ <;> omega
/-- The specification's test of a ticket. -/
theorem isT_spec (k : Tik) : isT k = (inR k.i 1 9999 && inR k.s 0 3 && inR k.w 0 999 && inR k.g 0 50 && inR k.p 0 50 && decide (0 ≤ lfU k) && decide (0 ≤ lfD k)) := by
  rw [Bool.eq_iff_iff, isT_iff]
  simp only [Bool.and_eq_true, inR_iff, decide_eq_true_eq]
  unfold lfU lfD tE tB
  constructor
  · rintro ⟨a, b, c, d, e, f⟩
    rcases (by omega : k.s = 0 ∨ k.s = 1 ∨ k.s = 2 ∨ k.s = 3) with z | z | z | z <;> simp [z] at d e f ⊢ <;> omega
  · rintro ⟨⟨⟨⟨⟨⟨a, b⟩, c⟩, d⟩, e⟩, f⟩, g⟩
    rcases (by omega : k.s = 0 ∨ k.s = 1 ∨ k.s = 2 ∨ k.s = 3) with z | z | z | z <;> simp [z] at f g ⊢ <;> omega
/-- The ticket can be used on the day, if it is unused. -/
def forD (k : Tik) (d : Int) : Bool := inR d k.w (k.w + tD k.s - 1)
def rdU (k : Tik) (d : Int) : Int := if forD k d then lfU k else 0
def rdD (k : Tik) (d : Int) : Int := if forD k d then lfD k else 0
def rdOk (k : Tik) (d : Int) : Bool := isT k && inR d 0 999
/-- A use is possible. -/
def canT (k : Tik) (d : Int) (u : Bool) : Bool := if u then decide (0 < rdU k d) else decide (0 < rdD k d)
theorem last_day (k : Tik) (h : isT k = true) : (if k.s = 2 then k.w else if k.s = 3 then k.w + 364 else k.w + 1) = k.w + tD k.s - 1 := by
  rw [isT_iff] at h
  unfold tD
  rcases (by omega : k.s = 0 ∨ k.s = 1 ∨ k.s = 2 ∨ k.s = 3) with e | e | e | e <;> simp [e] <;> omega
end Go.Proofs.YtpknodbkjjcdjaaDoor
