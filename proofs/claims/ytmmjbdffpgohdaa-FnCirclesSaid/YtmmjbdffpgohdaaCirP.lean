/- PlacesAt: the program's and the specification's answer as one function. Condition: sizes. -/
import Derived.Test.YtmmjbdffpgohdaaCirG
import Derived.Deep.AppendLies
import Derived.Deep.RegionHeld3
namespace Go.Proofs.Ytmmjbdffpgohdaa
open Go.RowKit
set_option linter.unusedVariables false
theorem Try.infoInt8 : (Try.prog.info? 3).map (fun i => (i.zero, i.size, i.bytes)) = some (some (.int .i64 0), 1, 8) := by kernel_rfl
theorem ret_v8 {g : Value} {a b : Bool} (h : a = b) : Ending.returned (.tuple #[g, .bool a]) = .returned (.tuple #[g, .bool b]) := by rw [h]
theorem iv_snoc (l : List Int) (x : Int) : intVs (l ++ [x]) = intVs l ++ [.int .i64 x] := by simp [intVs]
def plOk (L S : Int) (l : List Int) (T : Int) : Bool := cirV L S l && inR T 0 100000
def plR (L S : Int) (l : List Int) (T : Int) : List Int := if plOk L S l T then placesTo L (S * T) l l.length else []
theorem pl_no {L S T : Int} {l : List Int} (h : plOk L S l T = false) : plR L S l T = [] := by simp [plR, h]
theorem pl_yes {L S T : Int} {l : List Int} (h : plOk L S l T = true) : plR L S l T = placesTo L (S * T) l l.length := by simp [plR, h]
theorem plR_len (L S : Int) (l : List Int) (T : Int) : (plR L S l T).length ≤ l.length := by
  unfold plR
  split
  · rw [placesTo_len]; exact Nat.le_refl _
  · simp
theorem plR_len12 (L S : Int) (l : List Int) (T : Int) : (plR L S l T).length ≤ 12 := by
  unfold plR
  split
  · rename_i h
    rw [placesTo_len]
    exact (cirV_parts (by unfold plOk at h; simp at h; exact h.1)).2.2.2
  · simp
/-- products that stay small -/
theorem way_bd {S T : Int} (hS : 1 ≤ S ∧ S ≤ 100) (hT : 0 ≤ T ∧ T ≤ 100000) : 0 ≤ S * T ∧ S * T ≤ 10000000 := by
  have h1 : 0 ≤ S * T := Int.mul_nonneg (by omega) (by omega)
  have h2 : S * T ≤ 100 * 100000 := Int.mul_le_mul (by omega) (by omega) (by omega) (by omega)
  omega
end Go.Proofs.Ytmmjbdffpgohdaa
