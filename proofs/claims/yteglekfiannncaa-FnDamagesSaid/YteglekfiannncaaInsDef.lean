/- slices.Insert of one damage: definitions. Condition: sizes. -/
import Derived.Test.YteglekfiannncaaCopyAt
import Derived.Test.YteglekfiannncaaBinC
import Derived.Lib.Overlaps
import Derived.Lib.AppendZerosOnto
import Derived.Laws.NewBlocks
import Derived.Deep.RegionLaw
namespace Go.Proofs.Yteglekfiannncaa
open Go.RowKit
set_option linter.unusedVariables false
/-- The damage d between the first i and the rest. -/
def insL (l : List Dmg) (i : Nat) (d : Dmg) : List Dmg := l.take i ++ ([d] ++ l.drop i)
theorem insL_len (l : List Dmg) (i : Nat) (d : Dmg) (h : i ≤ l.length) : (insL l i d).length = l.length + 1 := by unfold insL; simp; omega
theorem insL_cells (l : List Dmg) (i : Nat) (d : Dmg) : dmgs (insL l i d) = dmgs (l.take i) ++ ([.int .i64 d.a, .int .i64 d.s, .int .i64 d.w] ++ dmgs (l.drop i)) := by
  unfold insL; rw [dmgs_append, dmgs_append, dmgs_one]
theorem sized : (Try.prog.info? 55).map (·.size) = some 3 := by kernel_rfl
theorem sizeOfD (w : World) : (Go.sizeOf 55).run Try.prog w = .ok 3 w := by
  obtain ⟨i0, hi, hz0, hz1, hz2⟩ := info_parts Try.infoDmg
  simp [Go.sizeOf, typeInfo, hi, hz1]
end Go.Proofs.Yteglekfiannncaa
