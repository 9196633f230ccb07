/- The law FnExactChecksum's walk. Condition: the string has at most maxLen bytes. -/
import Derived.Test.YthnbbaefeojanaaCk
import Derived.Below
namespace Go.Proofs.Ythnbbaefeojanaa
open Go.RowKit
set_option maxHeartbeats 400000 in
theorem specChecksum_yes (s : ByteArray) (w : World) (h4 : s.size ≤ 4000) :
    Calls Try.prog 23 #[.string s] w fun e w' => e = .returned (.tuple #[.int .i64 (ck s.data.toList), .bool true]) ∧ w = w' := by
  have h4' : ¬ (4000 : Int) < (s.size : Int) := by omega
  go_enter Try.func23, Try.ntmps23
  go_wp2_with (go_at_call 34; refine (l1Sum_any s _ (by unfold maxLen; omega)).mono ?_; rintro e w' ⟨rfl, rfl⟩)
  go_ret2
  exact ⟨rfl, rfl⟩
theorem specChecksum_no (s : ByteArray) (w : World) (hs : s.size ≤ maxLen) (h4 : 4000 < s.size) :
    Calls Try.prog 23 #[.string s] w fun e w' => e = .returned (.tuple #[.int .i64 0, .bool false]) ∧ w = w' := by
  unfold maxLen at hs
  have h4' : (4000 : Int) < (s.size : Int) := by omega
  go_enter Try.func23, Try.ntmps23
  go_wp2
  go_ret2
  exact ⟨rfl, rfl⟩
set_option maxHeartbeats 400000 in
theorem FnExactChecksum_walk (s : ByteArray) (w : World) (hs : s.size ≤ maxLen) :
    Calls Try.prog 7 #[.string s] w fun e w' => e = .returned (.bool true) ∧ Below w.heap.size w w' := by
  have hs' := hs
  unfold maxLen at hs'
  by_cases h1 : (1048576 : Int) < (s.size : Int)
  · go_enter Try.func7, Try.ntmps7
    go_wp2
    go_ret
    exact ⟨rfl, Below.refl _ _⟩
  · by_cases h4 : s.size ≤ 4000
    · go_enter Try.func7, Try.ntmps7
      go_wp2_with (first
        | (go_at_call 23; refine (specChecksum_yes s _ h4).mono ?_; rintro e w' ⟨rfl, rfl⟩)
        | (go_at_call 24; refine (Checksum_yes s _ h4).mono ?_; rintro e w' ⟨rfl, rfl⟩))
      go_ret
      exact ⟨rfl, Below.refl _ _⟩
    · go_enter Try.func7, Try.ntmps7
      go_wp2_with (first
        | (go_at_call 23; refine (specChecksum_no s _ hs (by omega)).mono ?_; rintro e w' ⟨rfl, rfl⟩)
        | (go_at_call 24; refine (Checksum_no s _ hs (by omega)).mono ?_; rintro e w' ⟨rfl, rfl⟩))
      go_ret
      exact ⟨rfl, Below.refl _ _⟩
end Go.Proofs.Ythnbbaefeojanaa
