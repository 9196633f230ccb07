/- Worlds in which only draws were made. No condition. -/
import Derived.Test.YtinlcbljpclccaaRs
import Derived.Lib.Hide
import Derived.IntWalk
namespace Go.Proofs.Ytinlcbljpclccaa
open Go.RowKit
set_option linter.unusedVariables false
/-- w' is w, some draws later. -/
def Drew (w w' : World) : Prop := ∃ n, w' = w.drewN n
theorem Drew.refl (w : World) : Drew w w := ⟨0, rfl⟩
theorem Drew.of_eq {w w' : World} (h : w' = w) : Drew w w' := ⟨0, h⟩
theorem Drew.more {w w' : World} (h : Drew w w') (m : Nat) : Drew w (w'.drewN m) := by
  obtain ⟨n, rfl⟩ := h
  exact ⟨n + m, World.drewN_drewN _ _ _⟩
theorem Drew.trans {a b c : World} (h : Drew a b) (g : Drew b c) : Drew a c := by
  obtain ⟨n, rfl⟩ := g
  exact h.more n
theorem Drew.cell {w w' : World} (h : Drew w w') (a : Addr) : w'.cell? a = w.cell? a := by
  obtain ⟨n, rfl⟩ := h
  exact World.cell?_drewN _ _ _
theorem Drew.size {w w' : World} (h : Drew w w') : w'.heap.size = w.heap.size := by
  obtain ⟨n, rfl⟩ := h; rfl
theorem Drew.below {w w' : World} (h : Drew w w') (B : Nat) : Below B w w' := by
  obtain ⟨n, rfl⟩ := h
  exact below_drewN (Below.refl _ _) n
theorem Drew.below_trans {a b c : World} {B : Nat} (h : Below B a b) (g : Drew b c) : Below B a c := by
  obtain ⟨n, rfl⟩ := g
  exact below_drewN h n
theorem Drew.rs {w w' : World} {v : Value} {n : Nat} {xs : List Value} (h : Drew w w') (hr : Rs w v n xs) : Rs w' v n xs := hr.below (h.below _) rfl
theorem quiet_drew {P : Program} {f : FuncId} {args : Array Value} {w : World} {n : Nat} {v : Value}
    (h : Calls P f args (w.drewN n) fun e w' => e = .returned v ∧ Drew (w.drewN n) w') : Calls P f args (w.drewN n) fun e w'' => e = .returned v ∧ ∃ m, w'' = w.drewN m :=
  h.mono fun _ _ ⟨he, m, hm⟩ => ⟨he, n + m, by rw [hm, World.drewN_drewN]⟩
theorem own_drew {w w' : World} {B e size n : Nat} {v : Value} {xs : List Value} (h : w.ownsRow B e size v n xs) (hd : Drew w w') : w'.ownsRow B e size v n xs := by
  obtain ⟨m, rfl⟩ := hd
  exact h
/-- The values that lie between two sizes of the heap. -/
def Betw (a b : Nat) (v : Value) : Prop := ∀ k, v.ownBlock = some k → a ≤ k ∧ k < b
theorem betw_of {w : World} {B e size n : Nat} {v : Value} {xs : List Value} (h : w.ownsRow B e size v n xs) : Betw B w.heap.size v := h.lt
theorem apart {a b c d : Nat} {v u : Value} (h : Betw a b v) (g : Betw c d u) (hx : b ≤ c ∨ d ≤ a) : v.ownBlock = none ∨ v.ownBlock ≠ u.ownBlock := by
  cases hv : v.ownBlock with
  | none => exact .inl rfl
  | some k =>
    refine .inr (fun e => ?_)
    have h1 := h k hv
    have h2 := g k e.symm
    omega
theorem below_mark {w w' : World} {B c d : Nat} {v : Value} (hg : w.grownBy w' v.ownBlock) (g : Betw c d v) (hc : B ≤ c) (hB : B ≤ w.heap.size) : Below B w w' :=
  (Below.refl B w).grown hg hB (fun k hk => Nat.le_trans hc (g k hk).1)
/-- A counter's predecessor. -/
theorem pred_in (k : Nat) (h : 0 < k) (h2 : k ≤ 9223372036854775807) : IntKind.i64.wrap ((k : Int) - 1) = (k : Int) - 1 ∧ 0 ≤ (k : Int) - 1 ∧ ((k : Int) - 1).toNat = k - 1 := ⟨IntWalk.i64_in _ (by omega), by omega, by omega⟩
theorem succ_in (k : Nat) (h2 : k < 9223372036854775807) : IntKind.i64.wrap ((k : Int) + 1) = (k : Int) + 1 ∧ 0 ≤ (k : Int) + 1 ∧ ((k : Int) + 1).toNat = k + 1 := ⟨IntWalk.i64_in _ (by omega), by omega, by omega⟩
end Go.Proofs.Ytinlcbljpclccaa
