/- Slices of impl.Cabin marked and looked at. Condition: sizes. -/
import Derived.Test.YtiogjocbiagipabCabS
namespace Go.Proofs.Ytiogjocbiagipab
open Go.RowKit
set_option linter.unusedVariables false
/-- The marks from k on. -/
def mkCab (k j : Nat) : Cab := ⟨(k : Int) + (j : Int) * 5, (k : Int) + (j : Int) * 5 + 1, (k : Int) + (j : Int) * 5 + 1 + 1, (k : Int) + (j : Int) * 5 + 1 + 1 + 1, (k : Int) + (j : Int) * 5 + 1 + 1 + 1 + 1⟩
def mksCab (k n : Nat) : List Cab := (List.range n).map (mkCab k)
theorem mksCab_len (k n : Nat) : (mksCab k n).length = n := by simp [mksCab]
theorem mksCab_succ (k j : Nat) : mksCab k (j + 1) = mksCab k j ++ [mkCab k j] := by simp [mksCab, List.range_succ]
theorem mksCab_at (k n j : Nat) (h : j < n) : gth (mksCab k n) j = mkCab k j := by simp [gth, mksCab, List.getD, h]
set_option maxHeartbeats 400000 in
theorem markCabinS_any (B k n : Nat) (v : Value) (xs : List Value) (w : World) (hk : k ≤ 8388608) (hn : n ≤ 8388608) (hB : B ≤ w.heap.size) (hown : w.ownsRow B 91 5 v n xs) :
    Calls Try.prog 38 #[v, .int .i64 (k : Int)] w fun e w' => e = .returned (.int .i64 ((k + n * 5 : Nat) : Int)) ∧ w'.ownsRow B 91 5 v n (cabs (mksCab k n)) ∧ w.grownBy w' v.ownBlock := by
  rcases owns_cases hown with ⟨rfl, rfl, a, cap, rfl⟩ | ⟨g, cap, rfl, hg, hgs, hpos, hnm, hl⟩
  · have HO := Lib.hid hown
    clear hown
    go_enter Try.func38, Try.ntmps38
    go_wp2
    refine wp_loop_rounds 1 ?_
    rw [rounds_succ]
    go_wp2
    go_ret
    exact ⟨rfl, HO.out, World.grownBy.refl _ _⟩
  · go_enter Try.func38, Try.ntmps38
    go_wp2
    go_loopw [1, 5] (fun kk i wr => ∃ j : Nat, j ≤ n ∧ i = .int .i64 j ∧ kk = .int .i64 ((k + j * 5 : Nat) : Int) ∧ wr.ownsRow B 91 5 (.slice (some ⟨g, 0, none⟩) n cap) n (cabs (mksCab k j) ++ xs.drop (j * 5)) ∧ w.grownBy wr (some g)) (fun _ i _ => n - (intOf i).toNat)
    case atStart => exact ⟨0, Nat.zero_le _, rfl, rfl, by simpa [mksCab, flat] using hown, World.grownBy.refl _ _⟩
    case round =>
      obtain ⟨j, hj, rfl, rfl, ho, hb⟩ := hrel
      by_cases hlt : j < n
      · have hp : (cabs (mksCab k j)).length = j * 5 := by rw [cabs_len, mksCab_len]
        have hu0 : j * 5 + 4 < (cabs (mksCab k j) ++ xs.drop (j * 5)).length := by simp [hp]; omega
        have HX : Hid (((((((cabs (mksCab k j) ++ xs.drop (j * 5)).set (j * 5) (.int .i64 (mkCab k j).i)).set (j * 5 + 1) (.int .i64 (mkCab k j).s)).set (j * 5 + 2) (.int .i64 (mkCab k j).w)).set (j * 5 + 3) (.int .i64 (mkCab k j).g)).set (j * 5 + 4) (.int .i64 (mkCab k j).p)) = cabs (mksCab k (j + 1)) ++ xs.drop ((j + 1) * 5)) := by
          rw [Hid, Cab_set _ _ _ _ _ _ _ _ hp (by omega), mksCab_succ, cabs_append, cabs_one]
        have k0 := (ho.cellAt (j * 5) (by omega)).trans (List.getElem?_eq_getElem (by omega))
        have k1 := (ho.cellAt (j * 5 + 1) (by omega)).trans (List.getElem?_eq_getElem (by omega))
        have k2 := (ho.cellAt (j * 5 + 2) (by omega)).trans (List.getElem?_eq_getElem (by omega))
        have k3 := (ho.cellAt (j * 5 + 3) (by omega)).trans (List.getElem?_eq_getElem (by omega))
        have k4 := (ho.cellAt (j * 5 + 4) (by omega)).trans (List.getElem?_eq_getElem (by omega))
        have f0 := ho.frozenAt (j * 5)
        have f1 := ho.frozenAt (j * 5 + 1)
        have f2 := ho.frozenAt (j * 5 + 2)
        have f3 := ho.frozenAt (j * 5 + 3)
        have f4 := ho.frozenAt (j * 5 + 4)
        have q1 := ho.stored (j * 5) (.int .i64 (mkCab k j).i)
        have q2 := q1.1.stored (j * 5 + 1) (.int .i64 (mkCab k j).s)
        have q3 := q2.1.stored (j * 5 + 2) (.int .i64 (mkCab k j).w)
        have q4 := q3.1.stored (j * 5 + 3) (.int .i64 (mkCab k j).g)
        have q5 := q4.1.stored (j * 5 + 4) (.int .i64 (mkCab k j).p)
        have HG := Lib.hid (((((hb.trans q1.2).trans q2.2).trans q3.2).trans q4.2).trans q5.2)
        have hst := q5.1
        rw [HX.out] at hst
        have HS := Lib.hid hst
        clear hst hp q1 q2 q3 q4 q5
        have hgr := (ho.lt g rfl).2
        go_wp2
        go_roundw
        case rel =>
          refine ⟨j + 1, by omega, by go_num, by go_num, ?_, ?_⟩
          · have := HS.out
            simpa [mkCab] using this
          · have := HG.out
            simpa [mkCab] using this
        case measure => simp [intOf]; omega
      · obtain rfl : j = n := by omega
        go_wp2
        go_ret
        exact ⟨rfl, by rw [List.drop_of_length_le (by omega), List.append_nil] at ho; exact ho, hb⟩
end Go.Proofs.Ytiogjocbiagipab
