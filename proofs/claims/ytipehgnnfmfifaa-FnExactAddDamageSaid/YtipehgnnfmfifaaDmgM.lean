/- Slices of impl.Damage marked and looked at. Condition: sizes. -/
import Derived.Test.YtipehgnnfmfifaaDmgS
namespace Go.Proofs.Ytipehgnnfmfifaa
open Go.RowKit
set_option linter.unusedVariables false
/-- The marks from k on. -/
def mkDmg (k j : Nat) : Dmg := ⟨(k : Int) + (j : Int) * 3, (k : Int) + (j : Int) * 3 + 1, (k : Int) + (j : Int) * 3 + 1 + 1⟩
def mksDmg (k n : Nat) : List Dmg := (List.range n).map (mkDmg k)
theorem mksDmg_len (k n : Nat) : (mksDmg k n).length = n := by simp [mksDmg]
theorem mksDmg_succ (k j : Nat) : mksDmg k (j + 1) = mksDmg k j ++ [mkDmg k j] := by simp [mksDmg, List.range_succ]
theorem mksDmg_at (k n j : Nat) (h : j < n) : gth (mksDmg k n) j = mkDmg k j := by simp [gth, mksDmg, List.getD, h]
set_option maxHeartbeats 400000 in
theorem markDamageS_any (B k n : Nat) (v : Value) (xs : List Value) (w : World) (hk : k ≤ 8388608) (hn : n ≤ 8388608) (hB : B ≤ w.heap.size) (hown : w.ownsRow B 34 3 v n xs) :
    Calls Try.prog 52 #[v, .int .i64 (k : Int)] w fun e w' => e = .returned (.int .i64 ((k + n * 3 : Nat) : Int)) ∧ w'.ownsRow B 34 3 v n (dmgs (mksDmg k n)) ∧ w.grownBy w' v.ownBlock := by
  rcases owns_cases hown with ⟨rfl, rfl, a, cap, rfl⟩ | ⟨g, cap, rfl, hg, hgs, hpos, hnm, hl⟩
  · have HO := Lib.hid hown
    clear hown
    go_enter Try.func52, Try.ntmps52
    go_wp2
    refine wp_loop_rounds 1 ?_
    rw [rounds_succ]
    go_wp2
    go_ret
    exact ⟨rfl, HO.out, World.grownBy.refl _ _⟩
  · go_enter Try.func52, Try.ntmps52
    go_wp2
    go_loopw [1, 5] (fun kk i wr => ∃ j : Nat, j ≤ n ∧ i = .int .i64 j ∧ kk = .int .i64 ((k + j * 3 : Nat) : Int) ∧ wr.ownsRow B 34 3 (.slice (some ⟨g, 0, none⟩) n cap) n (dmgs (mksDmg k j) ++ xs.drop (j * 3)) ∧ w.grownBy wr (some g)) (fun _ i _ => n - (intOf i).toNat)
    case atStart => exact ⟨0, Nat.zero_le _, rfl, rfl, by simpa [mksDmg, flat] using hown, World.grownBy.refl _ _⟩
    case round =>
      obtain ⟨j, hj, rfl, rfl, ho, hb⟩ := hrel
      by_cases hlt : j < n
      · have hp : (dmgs (mksDmg k j)).length = j * 3 := by rw [dmgs_len, mksDmg_len]
        have hu0 : j * 3 + 2 < (dmgs (mksDmg k j) ++ xs.drop (j * 3)).length := by simp [hp]; omega
        have HX : Hid (((((dmgs (mksDmg k j) ++ xs.drop (j * 3)).set (j * 3) (.int .i64 (mkDmg k j).a)).set (j * 3 + 1) (.int .i64 (mkDmg k j).s)).set (j * 3 + 2) (.int .i64 (mkDmg k j).w)) = dmgs (mksDmg k (j + 1)) ++ xs.drop ((j + 1) * 3)) := by
          rw [Hid, Dmg_set _ _ _ _ _ _ hp (by omega), mksDmg_succ, dmgs_append, dmgs_one]
        have k0 := (ho.cellAt (j * 3) (by omega)).trans (List.getElem?_eq_getElem (by omega))
        have k1 := (ho.cellAt (j * 3 + 1) (by omega)).trans (List.getElem?_eq_getElem (by omega))
        have k2 := (ho.cellAt (j * 3 + 2) (by omega)).trans (List.getElem?_eq_getElem (by omega))
        have f0 := ho.frozenAt (j * 3)
        have f1 := ho.frozenAt (j * 3 + 1)
        have f2 := ho.frozenAt (j * 3 + 2)
        have q1 := ho.stored (j * 3) (.int .i64 (mkDmg k j).a)
        have q2 := q1.1.stored (j * 3 + 1) (.int .i64 (mkDmg k j).s)
        have q3 := q2.1.stored (j * 3 + 2) (.int .i64 (mkDmg k j).w)
        have HG := Lib.hid (((hb.trans q1.2).trans q2.2).trans q3.2)
        have hst := q3.1
        rw [HX.out] at hst
        have HS := Lib.hid hst
        clear hst hp q1 q2 q3
        have hgr := (ho.lt g rfl).2
        go_wp2
        go_roundw
        case rel =>
          refine ⟨j + 1, by omega, by go_num, by go_num, ?_, ?_⟩
          · have := HS.out
            simpa [mkDmg] using this
          · have := HG.out
            simpa [mkDmg] using this
        case measure => simp [intOf]; omega
      · obtain rfl : j = n := by omega
        go_wp2
        go_ret
        exact ⟨rfl, by rw [List.drop_of_length_le (by omega), List.append_nil] at ho; exact ho, hb⟩
set_option maxHeartbeats 400000 in
theorem heldDamageS_any (k n : Nat) (v : Value) (w : World) (hk : k ≤ 8388608) (hn : n ≤ 8388608) (hr : Rs w v n (dmgs (mksDmg k n))) :
    Calls Try.prog 53 #[v, .int .i64 (k : Int)] w fun e w' => e = .returned (.int .i64 ((k + n * 3 : Nat) : Int)) ∧ Drew w w' := by
  by_cases h0 : n = 0
  · subst h0
    obtain ⟨a, ca, rfl⟩ := hr.zero
    clear hr
    go_enter Try.func53, Try.ntmps53
    go_wp2
    refine wp_loop_rounds 1 ?_
    rw [rounds_succ]
    go_wp2
    go_ret
    exact ⟨rfl, Drew.refl _⟩
  · obtain ⟨a, oa, ca, rfl, hla, hcap, hm, hca⟩ := hr.pos h0
    have HA := Lib.hid hca
    clear hca hr h0
    go_enter Try.func53, Try.ntmps53
    go_wp2
    go_loopw [1, 5] (fun kk i wr => ∃ j m : Nat, j ≤ n ∧ i = .int .i64 j ∧ kk = .int .i64 ((k + j * 3 : Nat) : Int) ∧ wr = w.drewN m) (fun _ i _ => n - (intOf i).toNat)
    case atStart => exact ⟨0, 0, Nat.zero_le _, rfl, rfl, rfl⟩
    case round =>
      obtain ⟨j, m, hj, rfl, rfl, rfl⟩ := hrel
      by_cases hlt : j < n
      · obtain ⟨e0, e1, e2⟩ := dmgs_at (mksDmg k n) j (by rw [mksDmg_len]; exact hlt)
        rw [mksDmg_at k n j hlt] at e0 e1 e2
        have c0 : w.cell? ⟨a, oa + j * 3, none⟩ = some (.int .i64 ((k : Int) + (j : Int) * 3)) := HA.out _ _ e0
        have c1 : w.cell? ⟨a, oa + j * 3 + 1, none⟩ = some (.int .i64 ((k : Int) + (j : Int) * 3 + 1)) := HA.out _ _ e1
        have c2 : w.cell? ⟨a, oa + j * 3 + 2, none⟩ = some (.int .i64 ((k : Int) + (j : Int) * 3 + 1 + 1)) := HA.out _ _ e2
        clear e0 e1 e2
        go_wp2
        go_roundw
        case rel => exact ⟨j + 1, m, by omega, by go_num, by go_num, rfl⟩
        case measure => simp [intOf]; omega
      · obtain rfl : j = n := by omega
        go_wp2
        go_ret
        exact ⟨rfl, m, rfl⟩
theorem heldDamageS_c (k n : Nat) (v : Value) (w : World) (hk : k ≤ 8388608) (hn : n ≤ 8388608) (hr : Rs w v n (dmgs (mksDmg k n))) :
    Calls Try.prog 53 #[v, .int .i64 (k : Int)] w fun e w' => e = .returned (.int .i64 ((k + n * 3 : Nat) : Int)) ∧ Below w.heap.size w w' := (heldDamageS_any k n v w hk hn hr).mono fun _ _ h => ⟨h.1, h.2.below _⟩
end Go.Proofs.Ytipehgnnfmfifaa
