/- Slices of supports: the helpers of the exact laws. Condition: sizes. -/
import Derived.Test.YtmmjbdffpgohdaaDoorRows
import Derived.Test.YtmmjbdffpgohdaaDoorRs
import Derived.LoopTactic
import Derived.OwnWalk
import Derived.Below
import Derived.Outline
import Derived.WalkKit
import Derived.Lib.Hide
import Derived.Deep.QuietTactic
import Derived.BigQuiet
import Derived.Deep.RegionHeld3
import Derived.StillTailTactics
namespace Go.Proofs.YtmmjbdffpgohdaaDoor
open Go.RowKit
set_option linter.unusedVariables false
/-- A support: its place, its height, whether it is a station. -/
structure Sup where
  a : Int
  h : Int
  s : Bool
instance : Inhabited Sup := ⟨⟨0, 0, false⟩⟩
def Sup.enc (x : Sup) : List Value := [.int .i64 x.a, .int .i64 x.h, .bool x.s]
theorem Sup.enc_len (x : Sup) : x.enc.length = 3 := rfl
abbrev sups (l : List Sup) : List Value := flat Sup.enc l
def nth (l : List Sup) (i : Nat) : Sup := l.getD i default
theorem sups_len (l : List Sup) : (sups l).length = l.length * 3 := flat_len Sup.enc_len l
theorem sups_append (l r : List Sup) : sups (l ++ r) = sups l ++ sups r := flat_append _ l r
theorem sups_one (x : Sup) : sups [x] = [.int .i64 x.a, .int .i64 x.h, .bool x.s] := by simp [flat, Sup.enc]
theorem sups_at (l : List Sup) (i : Nat) (hi : i < l.length) : (sups l)[i * 3]? = some (.int .i64 (nth l i).a) ∧ (sups l)[i * 3 + 1]? = some (.int .i64 (nth l i).h) ∧ (sups l)[i * 3 + 2]? = some (.bool (nth l i).s) :=
  ⟨flat_at Sup.enc_len default l i 0 hi (by decide), flat_at Sup.enc_len default l i 1 hi (by decide), flat_at Sup.enc_len default l i 2 hi (by decide)⟩
theorem Tryd.infoSup : (Tryd.prog.info? 33).map (fun i => (i.zero, i.size, i.bytes)) = some (some (.agg #[.int .i64 0, .int .i64 0, .bool false]), 3, 24) := by kernel_rfl
theorem nth_some {l : List Sup} {i : Nat} (h : i < l.length) : l[i]? = some (nth l i) := by simp [nth, List.getD, h]
theorem sups_take_len (l : List Sup) (j : Nat) (h : j ≤ l.length) : (sups (l.take j)).length = j * 3 := by rw [sups_len, List.length_take, Nat.min_eq_left h]
theorem take_nth (l : List Sup) (j : Nat) (h : j < l.length) : l.take (j + 1) = l.take j ++ [nth l j] := by
  rw [List.take_add_one, nth_some h]; rfl
theorem set3 (p xs : List Value) (j : Nat) (u0 u1 u2 : Value) (hp : p.length = j * 3) (hx : (j + 1) * 3 ≤ xs.length) :
    (((p ++ xs.drop (j * 3)).set (j * 3) u0).set (j * 3 + 1) u1).set (j * 3 + 2) u2 = p ++ [u0, u1, u2] ++ xs.drop ((j + 1) * 3) := by
  have h0 : j * 3 < xs.length := by omega
  have h1 : j * 3 + 1 < xs.length := by omega
  have h2 : j * 3 + 2 < xs.length := by omega
  rw [List.drop_eq_getElem_cons h0, List.drop_eq_getElem_cons h1, List.drop_eq_getElem_cons h2]
  rw [List.set_append_right _ _ (by omega), hp, List.set_append_right _ _ (by omega), hp, List.set_append_right _ _ (by omega), hp]
  simp only [Nat.sub_self, Nat.add_sub_cancel_left, List.set_cons_zero, List.set_cons_succ, List.append_assoc, List.cons_append, List.nil_append]
  rw [show j * 3 + 2 + 1 = (j + 1) * 3 by omega]
end Go.Proofs.YtmmjbdffpgohdaaDoor
