/- Slices of supports marked and looked at. Condition: sizes. -/
import Derived.Test.YtdnmmafnjhgeiaaSupS
import Derived.Test.YtdnmmafnjhgeiaaDrew
import Derived.Maps.AppendAt
namespace Go.Proofs.Ytdnmmafnjhgeiaa
open Go.RowKit
set_option linter.unusedVariables false
/-- The marks from k on. -/
def mk3 (k j : Nat) : Sup := ⟨(k : Int) + (j : Int) * 3, (k : Int) + (j : Int) * 3 + 1, ((k : Int) + (j : Int) * 3 + 1 + 1) % 3 == 0⟩
def mks3 (k n : Nat) : List Sup := (List.range n).map (mk3 k)
theorem mks3_len (k n : Nat) : (mks3 k n).length = n := by simp [mks3]
theorem mks3_succ (k j : Nat) : mks3 k (j + 1) = mks3 k j ++ [mk3 k j] := by simp [mks3, List.range_succ]
theorem mks3_nth (k n j : Nat) (h : j < n) : nth (mks3 k n) j = mk3 k j := by simp [nth, mks3, List.getD, h]
set_option maxHeartbeats 400000 in
theorem markSupportS_any (B k n : Nat) (v : Value) (xs : List Value) (w : World) (hk : k ≤ 8388608) (hn : n ≤ 8388608) (hB : B ≤ w.heap.size) (hown : w.ownsRow B 94 3 v n xs) :
    Calls Try.prog 39 #[v, .int .i64 (k : Int)] w fun e w' => e = .returned (.int .i64 ((k + n * 3 : Nat) : Int)) ∧ w'.ownsRow B 94 3 v n (sups (mks3 k n)) ∧ w.grownBy w' v.ownBlock := by
  rcases owns_cases hown with ⟨rfl, rfl, a, cap, rfl⟩ | ⟨g, cap, rfl, hg, hgs, hpos, hnm, hl⟩
  · have HO := Lib.hid hown
    clear hown
    go_enter Try.func39, Try.ntmps39
    go_wp2
    refine wp_loop_rounds 1 ?_
    rw [rounds_succ]
    go_wp2
    go_ret
    exact ⟨rfl, HO.out, World.grownBy.refl _ _⟩
  · go_enter Try.func39, Try.ntmps39
    go_wp2
    go_loopw [1, 5] (fun kk i wr => ∃ j : Nat, j ≤ n ∧ i = .int .i64 j ∧ kk = .int .i64 ((k + j * 3 : Nat) : Int) ∧ wr.ownsRow B 94 3 (.slice (some ⟨g, 0, none⟩) n cap) n (sups (mks3 k j) ++ xs.drop (j * 3)) ∧ w.grownBy wr (some g)) (fun _ i _ => n - (intOf i).toNat)
    case atStart => exact ⟨0, Nat.zero_le _, rfl, rfl, by simpa [mks3, flat] using hown, World.grownBy.refl _ _⟩
    case round =>
      obtain ⟨j, hj, rfl, rfl, ho, hb⟩ := hrel
      by_cases hlt : j < n
      · have hp : (sups (mks3 k j)).length = j * 3 := by rw [sups_len, mks3_len]
        have hu0 : j * 3 + 2 < (sups (mks3 k j) ++ xs.drop (j * 3)).length := by simp [hp]; omega
        have HX : Hid ((((((sups (mks3 k j) ++ xs.drop (j * 3)).set (j * 3) (.int .i64 (mk3 k j).a)).set (j * 3 + 1) (.int .i64 (mk3 k j).h)).set (j * 3 + 2) (.bool (mk3 k j).s))) = sups (mks3 k (j + 1)) ++ xs.drop ((j + 1) * 3)) := by
          rw [Hid, set3 _ _ _ _ _ _ hp (by omega), mks3_succ, sups_append, sups_one]
        have k0 := (ho.cellAt (j * 3) (by omega)).trans (List.getElem?_eq_getElem (by omega))
        have k1 := (ho.cellAt (j * 3 + 1) (by omega)).trans (List.getElem?_eq_getElem (by omega))
        have k2 := (ho.cellAt (j * 3 + 2) (by omega)).trans (List.getElem?_eq_getElem (by omega))
        have f0 := ho.frozenAt (j * 3)
        have f1 := ho.frozenAt (j * 3 + 1)
        have f2 := ho.frozenAt (j * 3 + 2)
        have q1 := ho.stored (j * 3) (.int .i64 (mk3 k j).a)
        have q2 := q1.1.stored (j * 3 + 1) (.int .i64 (mk3 k j).h)
        have q3 := q2.1.stored (j * 3 + 2) (.bool (mk3 k j).s)
        have HG := Lib.hid (((hb.trans q1.2).trans q2.2).trans q3.2)
        have hst := q3.1
        rw [HX.out] at hst
        have HS := Lib.hid hst
        clear hst hp q1 q2 q3
        have hgr := (ho.lt g rfl).2
        go_wp2
        go_roundw
        case rel =>
          refine ⟨j + 1, by omega, by go_num, by go_num, ?_, ?_⟩
          · have := HS.out
            simpa [mk3] using this
          · have := HG.out
            simpa [mk3] using this
        case measure => simp [intOf]; omega
      · obtain rfl : j = n := by omega
        go_wp2
        go_ret
        exact ⟨rfl, by rw [List.drop_of_length_le (by omega), List.append_nil] at ho; exact ho, hb⟩
end Go.Proofs.Ytdnmmafnjhgeiaa
