/- Slices of impl.Brake marked and looked at. Condition: sizes. -/
import Derived.Test.YthmoogkllpcebaaDoorBrkS
namespace Go.Proofs.YthmoogkllpcebaaDoor
open Go.RowKit
set_option linter.unusedVariables false
/-- The marks from k on. -/
def mkBrk (k j : Nat) : Brk := ⟨(k : Int) + (j : Int) * 2, (k : Int) + (j : Int) * 2 + 1⟩
def mksBrk (k n : Nat) : List Brk := (List.range n).map (mkBrk k)
theorem mksBrk_len (k n : Nat) : (mksBrk k n).length = n := by simp [mksBrk]
theorem mksBrk_succ (k j : Nat) : mksBrk k (j + 1) = mksBrk k j ++ [mkBrk k j] := by simp [mksBrk, List.range_succ]
theorem mksBrk_at (k n j : Nat) (h : j < n) : gth (mksBrk k n) j = mkBrk k j := by simp [gth, mksBrk, List.getD, h]
set_option maxHeartbeats 400000 in
theorem markBrakeS_any (B k n : Nat) (v : Value) (xs : List Value) (w : World) (hk : k ≤ 8388608) (hn : n ≤ 8388608) (hB : B ≤ w.heap.size) (hown : w.ownsRow B 35 2 v n xs) :
    Calls Tryd.prog 75 #[v, .int .i64 (k : Int)] w fun e w' => e = .returned (.int .i64 ((k + n * 2 : Nat) : Int)) ∧ w'.ownsRow B 35 2 v n (brks (mksBrk k n)) ∧ w.grownBy w' v.ownBlock := by
  rcases owns_cases hown with ⟨rfl, rfl, a, cap, rfl⟩ | ⟨g, cap, rfl, hg, hgs, hpos, hnm, hl⟩
  · have HO := Lib.hid hown
    clear hown
    go_enter Tryd.func75, Tryd.ntmps75
    go_wp2
    refine wp_loop_rounds 1 ?_
    rw [rounds_succ]
    go_wp2
    go_ret
    exact ⟨rfl, HO.out, World.grownBy.refl _ _⟩
  · go_enter Tryd.func75, Tryd.ntmps75
    go_wp2
    go_loopw [1, 5] (fun kk i wr => ∃ j : Nat, j ≤ n ∧ i = .int .i64 j ∧ kk = .int .i64 ((k + j * 2 : Nat) : Int) ∧ wr.ownsRow B 35 2 (.slice (some ⟨g, 0, none⟩) n cap) n (brks (mksBrk k j) ++ xs.drop (j * 2)) ∧ w.grownBy wr (some g)) (fun _ i _ => n - (intOf i).toNat)
    case atStart => exact ⟨0, Nat.zero_le _, rfl, rfl, by simpa [mksBrk, flat] using hown, World.grownBy.refl _ _⟩
    case round =>
      obtain ⟨j, hj, rfl, rfl, ho, hb⟩ := hrel
      by_cases hlt : j < n
      · have hp : (brks (mksBrk k j)).length = j * 2 := by rw [brks_len, mksBrk_len]
        have hu0 : j * 2 + 1 < (brks (mksBrk k j) ++ xs.drop (j * 2)).length := by simp [hp]; omega
        have HX : Hid ((((brks (mksBrk k j) ++ xs.drop (j * 2)).set (j * 2) (.int .i64 (mkBrk k j).f)).set (j * 2 + 1) (.int .i64 (mkBrk k j).d)) = brks (mksBrk k (j + 1)) ++ xs.drop ((j + 1) * 2)) := by
          rw [Hid, Brk_set _ _ _ _ _ hp (by omega), mksBrk_succ, brks_append, brks_one]
        have k0 := (ho.cellAt (j * 2) (by omega)).trans (List.getElem?_eq_getElem (by omega))
        have k1 := (ho.cellAt (j * 2 + 1) (by omega)).trans (List.getElem?_eq_getElem (by omega))
        have f0 := ho.frozenAt (j * 2)
        have f1 := ho.frozenAt (j * 2 + 1)
        have q1 := ho.stored (j * 2) (.int .i64 (mkBrk k j).f)
        have q2 := q1.1.stored (j * 2 + 1) (.int .i64 (mkBrk k j).d)
        have HG := Lib.hid ((hb.trans q1.2).trans q2.2)
        have hst := q2.1
        rw [HX.out] at hst
        have HS := Lib.hid hst
        clear hst hp q1 q2
        have hgr := (ho.lt g rfl).2
        go_wp2
        go_roundw
        case rel =>
          refine ⟨j + 1, by omega, by go_num, by go_num, ?_, ?_⟩
          · have := HS.out
            simpa [mkBrk] using this
          · have := HG.out
            simpa [mkBrk] using this
        case measure => simp [intOf]; omega
      · obtain rfl : j = n := by omega
        go_wp2
        go_ret
        exact ⟨rfl, by rw [List.drop_of_length_le (by omega), List.append_nil] at ho; exact ho, hb⟩
end Go.Proofs.YthmoogkllpcebaaDoor
