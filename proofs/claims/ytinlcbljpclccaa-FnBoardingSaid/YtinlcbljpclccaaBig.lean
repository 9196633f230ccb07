/- The laws' helper on a code: too big or not. Condition: sizes. -/
import Derived.Test.YtinlcbljpclccaaByteRow
import Derived.Test.YtinlcbljpclccaaCurW
import Derived.Below
namespace Go.Proofs.Ytinlcbljpclccaa
open Go.RowKit
set_option linter.unusedVariables false
theorem ByteRow.below {w w' : World} {a : Option Addr} {len : Nat} (h : ByteRow w a len) (hb : Below w.heap.size w w') : ByteRow w' a len :=
  ⟨h.1, fun i hi => by
    obtain ⟨c, o, x, h1, h2, h3, h4⟩ := h.2 i hi
    exact ⟨c, o, x, h1, Nat.lt_of_lt_of_le h2 hb.size, h3, (hb.cell (p := ⟨c, o + i, none⟩) h2).trans h4⟩⟩
end Go.Proofs.Ytinlcbljpclccaa
