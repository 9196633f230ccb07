/- The walk of l1Stands: whether a byte stands in a string. Condition: the string has at most maxLen bytes. -/
import Derived.Test.YthnbbaefeojanaaDoorRows
import Derived.Test.YthnbbaefeojanaaDoorSplitMath
import Derived.LoopTactic
import Derived.OwnWalk
import Derived.Below
import Derived.WalkKit
import Derived.Lib.Hide
namespace Go.Proofs.YthnbbaefeojanaaDoor
open Go.RowKit
set_option linter.unusedVariables false
set_option maxHeartbeats 400000 in
theorem l1Stands_no (s : ByteArray) (c : UInt8) (w : World) (hs : s.size ≤ maxLen) (h : c ∉ s.data.toList) :
    Calls Tryd.prog 33 #[.string s, .int .u8 (c.toNat : Int)] w fun e w' => e = .returned (.bool false) ∧ w' = w := by
  unfold maxLen at hs
  have H := Lib.hid h
  clear h
  go_enter Tryd.func33, Tryd.ntmps33
  go_wp2
  go_loop [5] (fun i => ∃ k : Nat, k ≤ s.size ∧ i = .int .i64 k) (fun i => s.size - (intOf i).toNat)
  case atStart => exact ⟨0, Nat.zero_le _, rfl⟩
  case round =>
    obtain ⟨k, hk, rfl⟩ := hrel
    by_cases hlt : k < s.size
    · have hcb : ((s[k].toNat : Int) == (c.toNat : Int)) = false := by
        rw [beq_eq_false_iff_ne]; intro h
        have e : s[k] = c := UInt8.toNat_inj.1 (by omega)
        exact H.out (List.mem_of_getElem? ((at_some s k hlt).trans (by rw [e])))
      go_wp2
      go_round
      case rel => exact ⟨k + 1, by omega, by go_num⟩
      case measure => simp [intOf]; omega
    · go_wp2
      go_ret
      exact ⟨rfl, rfl⟩
set_option maxHeartbeats 400000 in
theorem l1Stands_yes (s : ByteArray) (c : UInt8) (w : World) (hs : s.size ≤ maxLen) (h : c ∈ s.data.toList) :
    Calls Tryd.prog 33 #[.string s, .int .u8 (c.toNat : Int)] w fun e w' => e = .returned (.bool true) ∧ w' = w := by
  unfold maxLen at hs
  obtain ⟨n, hn, he⟩ := List.getElem_of_mem h
  have hn : n < s.size := by simpa using hn
  have H := Lib.hid (show s[n] = c from he)
  clear h he
  go_enter Tryd.func33, Tryd.ntmps33
  go_wp2
  go_loop [5] (fun i => ∃ k : Nat, k ≤ n ∧ i = .int .i64 k) (fun i => s.size - (intOf i).toNat)
  case atStart => exact ⟨0, Nat.zero_le _, rfl⟩
  case round =>
    obtain ⟨k, hk, rfl⟩ := hrel
    have hlt : k < s.size := by omega
    by_cases hc : s[k] = c
    · have hcb : ((s[k].toNat : Int) == (c.toNat : Int)) = true := by simp [hc]
      clear hc
      go_wp2
      go_ret
      exact ⟨rfl, rfl⟩
    · have hkn : k ≠ n := by rintro rfl; exact hc H.out
      have hcb : ((s[k].toNat : Int) == (c.toNat : Int)) = false := by
        rw [beq_eq_false_iff_ne]; intro h; exact hc (UInt8.toNat_inj.1 (by omega))
      clear hc
      go_wp2
      go_round
      case rel => exact ⟨k + 1, by omega, by go_num⟩
      case measure => simp [intOf]; omega
end Go.Proofs.YthnbbaefeojanaaDoor
