/- Events counted: spec.CountEvents. Condition: sizes. -/
import Derived.Test.YtinlcbljpclccaaDoorBoE
namespace Go.Proofs.YtinlcbljpclccaaDoor
open Go.RowKit
set_option linter.unusedVariables false
theorem ceN_take (l : List Bev) (k : ByteArray) (j : Nat) (h : j < l.length) : ceN (l.take (j + 1)) k = ceN (l.take j) k + (if (gth l j).k = k then 1 else 0) := by
  unfold ceN
  rw [take_gth l j h, List.filter_append, List.length_append]
  by_cases e : (gth l j).k = k <;> simp [List.filter, e]
theorem ceS_take (l : List Bev) (k : ByteArray) (j : Nat) (h : j < l.length) : ceS (l.take (j + 1)) k = ceS (l.take j) k + (if (gth l j).k = k then (gth l j).c else 0) := by
  unfold ceS
  rw [take_gth l j h, List.filter_append, List.map_append, List.sum_append]
  by_cases e : (gth l j).k = k <;> simp [List.filter, e]
theorem ce_all_take (l : List Bev) (j : Nat) (h : j < l.length) : (l.take (j + 1)).all evV = ((l.take j).all evV && evV (gth l j)) := by
  rw [take_gth l j h, List.all_append]; simp
theorem ce_bd (l : List Bev) (k : ByteArray) : ∀ j, j ≤ l.length → (l.take j).all evV = true → 0 ≤ ceN (l.take j) k ∧ ceN (l.take j) k ≤ j ∧ 0 ≤ ceS (l.take j) k ∧ ceS (l.take j) k ≤ j * 100 := by
  intro j
  induction j with
  | zero => intro _ _; simp [ceN, ceS]
  | succ j ih =>
    intro hj ha
    rw [ce_all_take l j (by omega), Bool.and_eq_true] at ha
    have hi := ih (by omega) ha.1
    have hb := evV_bd ha.2
    rw [ceN_take l k j (by omega), ceS_take l k j (by omega)]
    split <;> omega
theorem ce_no {l : List Bev} {j : Nat} (h : j < l.length) (he : evV (gth l j) = false) : l.all evV = false := by
  rw [List.all_eq_false]; exact ⟨gth l j, gth_mem h, by simp [he]⟩
def ceA (l : List Bev) (k : ByteArray) : Int := if ceOk l k then ceN l k else 0
def ceB (l : List Bev) (k : ByteArray) : Int := if ceOk l k then ceS l k else 0
theorem ret_ce {a b c d : Int} {x y : Bool} (h : a = c) (g : b = d) (k : x = y) : Ending.returned (.tuple #[.int .i64 a, .int .i64 b, .bool x]) = .returned (.tuple #[.int .i64 c, .int .i64 d, .bool y]) := by rw [h, g, k]
theorem ce_z {l : List Bev} {k : ByteArray} (h : ceOk l k = false) : 0 = ceA l k ∧ 0 = ceB l k ∧ false = ceOk l k := by simp [ceA, ceB, h]
theorem ce_y {l : List Bev} {k : ByteArray} (h : ceOk l k = true) : ceN l k = ceA l k ∧ ceS l k = ceB l k ∧ true = ceOk l k := by simp [ceA, ceB, h]
end Go.Proofs.YtinlcbljpclccaaDoor
