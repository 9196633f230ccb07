/- markIntS at a row of integers in a block of any type (an array's slice). Condition: sizes. -/
import Derived.Test.YtpknodbkjjcdjaaDoorIntS
namespace Go.Proofs.YtpknodbkjjcdjaaDoor
open Go.RowKit
set_option linter.unusedVariables false
set_option maxHeartbeats 400000 in
theorem markIntS_T (T : TypeId) (B k n : Nat) (v : Value) (xs : List Value) (w : World) (hk : k ≤ 8388608) (hn : n ≤ 8388608) (hB : B ≤ w.heap.size) (hown : w.ownsRow B T 1 v n xs) :
    Calls Tryd.prog 54 #[v, .int .i64 (k : Int)] w fun e w' => e = .returned (.int .i64 ((k + n : Nat) : Int)) ∧ w'.ownsRow B T 1 v n (intVs (imarks k n)) ∧ w.grownBy w' v.ownBlock := by
  rcases own_cases hown with ⟨rfl, rfl, a, cap, rfl⟩ | ⟨g, cap, rfl, hg, hgs, hpos, hnm, hl⟩
  · have HO := Lib.hid hown
    clear hown
    go_enter Tryd.func54, Tryd.ntmps54
    go_wp2
    refine wp_loop_rounds 1 ?_
    rw [rounds_succ]
    go_wp2
    go_ret
    exact ⟨rfl, HO.out, World.grownBy.refl _ _⟩
  · go_enter Tryd.func54, Tryd.ntmps54
    go_wp2
    go_loopw [1, 5] (fun kk i wr => ∃ j : Nat, j ≤ n ∧ i = .int .i64 j ∧ kk = .int .i64 ((k + j : Nat) : Int) ∧ wr.ownsRow B T 1 (.slice (some ⟨g, 0, none⟩) n cap) n (intVs (imarks k j) ++ xs.drop j) ∧ w.grownBy wr (some g)) (fun _ i _ => n - (intOf i).toNat)
    case atStart => exact ⟨0, Nat.zero_le _, rfl, rfl, by simpa [imarks] using hown, World.grownBy.refl _ _⟩
    case round =>
      obtain ⟨j, hj, rfl, rfl, ho, hb⟩ := hrel
      by_cases hlt : j < n
      · have hu0 : j < (intVs (imarks k j) ++ xs.drop j).length := by simp [imarks_len]; omega
        have hc1 := (ho.cellAt j (by omega)).trans (List.getElem?_eq_getElem hu0)
        have hf1 := ho.frozenAt j
        have q1 := ho.stored j (.int .i64 ((k + j : Nat) : Int))
        have HG := Lib.hid (hb.trans q1.2)
        have hst := q1.1
        rw [imarks_set k j n xs hl hlt] at hst
        clear q1
        have HS := Lib.hid hst
        clear hst
        have hgr := (ho.lt g rfl).2
        go_wp2
        go_roundw
        case rel => exact ⟨j + 1, by omega, by go_num, by go_num, by simpa using HS.out, by simpa using HG.out⟩
        case measure => simp [intOf]; omega
      · obtain rfl : j = n := by omega
        go_wp2
        go_ret
        exact ⟨rfl, by simpa [← hl] using ho, hb⟩
end Go.Proofs.YtpknodbkjjcdjaaDoor
