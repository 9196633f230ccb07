/- The laws' helper on a code: too big or not. Condition: sizes. -/
import Derived.Test.YtkjdkfoeolcnkaaByteRow
import Derived.Test.YtkjdkfoeolcnkaaCurW
import Derived.Below
namespace Go.Proofs.Ytkjdkfoeolcnkaa
open Go.RowKit
set_option linter.unusedVariables false
set_option maxHeartbeats 400000 in
theorem vBig_yes (a : Option Addr) (len cap : Nat) (w : World) (h : 65536 < len) (hm : len ≤ 9223372036854775807) :
    Calls Try.prog 14 #[.slice a len cap] w fun e w' => e = .returned (.bool true) ∧ w = w' := by
  have h1 : (65536 : Int) < (len : Int) := by omega
  go_enter Try.func14, Try.ntmps14
  go_wp2
  go_ret
  exact ⟨rfl, rfl⟩
set_option maxHeartbeats 400000 in
theorem vBig_no (a : Option Addr) (len cap : Nat) (w : World) (h : len ≤ 65536) :
    Calls Try.prog 14 #[.slice a len cap] w fun e w' => e = .returned (.bool false) ∧ w = w' := by
  have h1 : decide ((65536 : Int) < (len : Int)) = false := by simp; omega
  go_enter Try.func14, Try.ntmps14
  go_wp2
  go_ret
  exact ⟨rfl, rfl⟩
theorem ByteRow.below {w w' : World} {a : Option Addr} {len : Nat} (h : ByteRow w a len) (hb : Below w.heap.size w w') : ByteRow w' a len :=
  ⟨h.1, fun i hi => by
    obtain ⟨c, o, x, h1, h2, h3, h4⟩ := h.2 i hi
    exact ⟨c, o, x, h1, Nat.lt_of_lt_of_le h2 hb.size, h3, (hb.cell (p := ⟨c, o + i, none⟩) h2).trans h4⟩⟩
end Go.Proofs.Ytkjdkfoeolcnkaa
