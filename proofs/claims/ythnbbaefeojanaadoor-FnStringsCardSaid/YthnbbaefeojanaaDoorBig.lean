/- The laws' helpers on a code: too big or not, the byte at a place. Condition: sizes. -/
import Derived.Test.YthnbbaefeojanaaDoorByteRow
import Derived.Test.YthnbbaefeojanaaDoorCurW
import Derived.Below
namespace Go.Proofs.YthnbbaefeojanaaDoor
open Go.RowKit
set_option linter.unusedVariables false
set_option maxHeartbeats 400000 in
theorem vBig_yes (a : Option Addr) (len cap : Nat) (w : World) (h : 65536 < len) (hm : len ≤ 9223372036854775807) :
    Calls Tryd.prog 8 #[.slice a len cap] w fun e w' => e = .returned (.bool true) ∧ w = w' := by
  have h1 : (65536 : Int) < (len : Int) := by omega
  go_enter Tryd.func8, Tryd.ntmps8
  go_wp2
  go_ret
  exact ⟨rfl, rfl⟩
set_option maxHeartbeats 400000 in
theorem vBig_no (a : Option Addr) (len cap : Nat) (w : World) (h : len ≤ 65536) :
    Calls Tryd.prog 8 #[.slice a len cap] w fun e w' => e = .returned (.bool false) ∧ w = w' := by
  have h1 : decide ((65536 : Int) < (len : Int)) = false := by simp; omega
  go_enter Tryd.func8, Tryd.ntmps8
  go_wp2
  go_ret
  exact ⟨rfl, rfl⟩
theorem ByteRow.below {w w' : World} {a : Option Addr} {len : Nat} (h : ByteRow w a len) (hb : Below w.heap.size w w') : ByteRow w' a len :=
  ⟨h.1, fun i hi => by
    obtain ⟨c, o, x, h1, h2, h3, h4⟩ := h.2 i hi
    exact ⟨c, o, x, h1, Nat.lt_of_lt_of_le h2 hb.size, h3, (hb.cell (p := ⟨c, o + i, none⟩) h2).trans h4⟩⟩
set_option maxHeartbeats 400000 in
theorem vAt_any (a : Option Addr) (len cap i : Nat) (w : World) (h : ByteRow w a len) (hi : i ≤ 100) :
    ∃ r : Nat, r ≤ 255 ∧ Calls Tryd.prog 19 #[.slice a len cap, .int .i64 (i : Int)] w fun e w' => e = .returned (.int .i64 (r : Int)) ∧ w' = w := by
  have hm := h.1
  by_cases hl : i < len
  · obtain ⟨c, o, x, rfl, hc, hx, hcell⟩ := h.2 i hl
    have h1 : (i : Int) < (len : Int) := by omega
    clear h
    refine ⟨x, hx, ?_⟩
    go_enter Tryd.func19, Tryd.ntmps19
    go_wp2
    go_ret
    exact ⟨rfl, rfl⟩
  · have h1 : ¬ (i : Int) < (len : Int) := by omega
    clear h
    refine ⟨(i * 7 + len) % 256, by omega, ?_⟩
    go_enter Tryd.func19, Tryd.ntmps19
    go_wp2
    go_ret
    refine ⟨?_, rfl⟩
    simp
end Go.Proofs.YthnbbaefeojanaaDoor
