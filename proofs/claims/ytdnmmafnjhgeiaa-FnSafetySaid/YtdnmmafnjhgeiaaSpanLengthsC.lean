/- SpanLengths: the program's and the specification's answer as one function of the line. Condition: sizes. -/
import Derived.Test.YtdnmmafnjhgeiaaSpanW
import Derived.Deep.RegionHeld3
import Derived.Deep.AppendLies
import Derived.WalkSpells
import Derived.StillTactics
import Derived.RangeFuncBox
namespace Go.Proofs.Ytdnmmafnjhgeiaa
open Go.RowKit
set_option linter.unusedVariables false
def lensK (l : List Sup) (k : Nat) : List Int := (List.range k).map (slen l)
noncomputable def lens (l : List Sup) : List Int := if isL l then lensK l (l.length - 1) else []
theorem lensK_len (l : List Sup) (k : Nat) : (lensK l k).length = k := by simp [lensK]
theorem lensK_succ (l : List Sup) (k : Nat) : lensK l (k + 1) = lensK l k ++ [slen l k] := by simp [lensK, List.range_succ]
theorem lens_yes {l : List Sup} (h : isL l = true) : lens l = lensK l (l.length - 1) := by simp [lens, h]
theorem lens_no {l : List Sup} (h : isL l = false) : lens l = [] := by simp [lens, h]
theorem lens_len (l : List Sup) : (lens l).length ≤ 8 := by
  cases h : isL l with
  | false => rw [lens_no h]; simp
  | true => rw [lens_yes h, lensK_len]; have := (isL_yes h).eight; omega
theorem Try.infoInt : (Try.prog.info? 3).map (fun i => (i.zero, i.size, i.bytes)) = some (some (.int .i64 0), 1, 8) := by kernel_rfl
end Go.Proofs.Ytdnmmafnjhgeiaa
