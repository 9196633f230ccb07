/- What damages are, in plain words. No condition. -/
import Derived.Test.YtiogjocbiagipabDmgS
import Derived.Test.YtiogjocbiagipabKindW
namespace Go.Proofs.Ytiogjocbiagipab
open Go.RowKit
set_option linter.unusedVariables false
/-- x stands ahead of y. -/
def bef (x y : Dmg) : Bool := decide (x.a < y.a) || (x.a == y.a && decide (x.s < y.s))
theorem bef_iff (x y : Dmg) : bef x y = true ↔ x.a < y.a ∨ (x.a = y.a ∧ x.s < y.s) := by simp [bef]
/-- Element i of damages is in order: strands 0..S, wires 1..W. -/
def DOk (S W : Int) (l : List Dmg) (i : Nat) : Prop :=
  inR (gth l i).a 0 3000 = true ∧ inR (gth l i).s 0 S = true ∧ inR (gth l i).w 1 W = true ∧ (0 < i → bef (gth l (i - 1)) (gth l i) = true)
structure Good (k : RK) (l : List Dmg) : Prop where
  kind : isK k = true
  len : l.length ≤ 15
  ok : ∀ i, i < l.length → DOk (k.s - 1) k.w l i
noncomputable def good (k : RK) (l : List Dmg) : Bool := @decide (Good k l) (Classical.propDecidable _)
theorem good_iff (k : RK) (l : List Dmg) : good k l = true ↔ Good k l := by unfold good; simp
theorem good_yes {k : RK} {l : List Dmg} (h : good k l = true) : Good k l := (good_iff k l).1 h
theorem good_no {k : RK} {l : List Dmg} (h : good k l = false) : ¬ Good k l := fun g => by rw [(good_iff k l).2 g] at h; cases h
theorem b_no {b : Bool} {P : Prop} (h : Hid (b = true ↔ P)) (g : ¬ P) : false = b := by
  cases b with
  | false => rfl
  | true => exact absurd (h.out.1 rfl) g
theorem b_yes {b : Bool} {P : Prop} (h : Hid (b = true ↔ P)) (g : P) : true = b := (h.out.2 g).symm
theorem isK_strands {k : RK} (h : isK k = true) : IntKind.i64.wrap (k.s - 1) = k.s - 1 := by
  have := (isK_iff k).1 h
  exact IntWalk.i64_in _ (by omega)
/-- How two neighbours stand. -/
theorem bef_cases (x y : Dmg) : (y.a < x.a ∧ bef x y = false) ∨ (x.a = y.a ∧ y.s ≤ x.s ∧ bef x y = false) ∨ (x.a = y.a ∧ x.s < y.s ∧ bef x y = true) ∨ (x.a < y.a ∧ bef x y = true) := by
  unfold bef
  by_cases h1 : x.a < y.a
  · exact .inr (.inr (.inr ⟨h1, by simp [h1]⟩))
  · by_cases h2 : x.a = y.a
    · by_cases h3 : x.s < y.s
      · exact .inr (.inr (.inl ⟨h2, h3, by simp [h2, h3]⟩))
      · exact .inr (.inl ⟨h2, by omega, by simp [h2]; omega⟩)
    · exact .inl ⟨by omega, by simp [h2]; omega⟩
end Go.Proofs.Ytiogjocbiagipab
