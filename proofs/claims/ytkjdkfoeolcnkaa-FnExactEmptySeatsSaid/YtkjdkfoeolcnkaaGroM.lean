/- Slices of impl.Group marked and looked at. Condition: sizes. -/
import Derived.Test.YtkjdkfoeolcnkaaGroS
namespace Go.Proofs.Ytkjdkfoeolcnkaa
open Go.RowKit
set_option linter.unusedVariables false
/-- The marks from k on. -/
def mkGro (k j : Nat) : Gro := ⟨(k : Int) + (j : Int) * 2, ((k : Int) + (j : Int) * 2 + 1) % 3 == 0⟩
def mksGro (k n : Nat) : List Gro := (List.range n).map (mkGro k)
theorem mksGro_len (k n : Nat) : (mksGro k n).length = n := by simp [mksGro]
theorem mksGro_succ (k j : Nat) : mksGro k (j + 1) = mksGro k j ++ [mkGro k j] := by simp [mksGro, List.range_succ]
theorem mksGro_at (k n j : Nat) (h : j < n) : gth (mksGro k n) j = mkGro k j := by simp [gth, mksGro, List.getD, h]
set_option maxHeartbeats 400000 in
theorem markGroupS_any (B k n : Nat) (v : Value) (xs : List Value) (w : World) (hk : k ≤ 8388608) (hn : n ≤ 8388608) (hB : B ≤ w.heap.size) (hown : w.ownsRow B 34 2 v n xs) :
    Calls Try.prog 46 #[v, .int .i64 (k : Int)] w fun e w' => e = .returned (.int .i64 ((k + n * 2 : Nat) : Int)) ∧ w'.ownsRow B 34 2 v n (gros (mksGro k n)) ∧ w.grownBy w' v.ownBlock := by
  rcases owns_cases hown with ⟨rfl, rfl, a, cap, rfl⟩ | ⟨g, cap, rfl, hg, hgs, hpos, hnm, hl⟩
  · have HO := Lib.hid hown
    clear hown
    go_enter Try.func46, Try.ntmps46
    go_wp2
    refine wp_loop_rounds 1 ?_
    rw [rounds_succ]
    go_wp2
    go_ret
    exact ⟨rfl, HO.out, World.grownBy.refl _ _⟩
  · go_enter Try.func46, Try.ntmps46
    go_wp2
    go_loopw [1, 5] (fun kk i wr => ∃ j : Nat, j ≤ n ∧ i = .int .i64 j ∧ kk = .int .i64 ((k + j * 2 : Nat) : Int) ∧ wr.ownsRow B 34 2 (.slice (some ⟨g, 0, none⟩) n cap) n (gros (mksGro k j) ++ xs.drop (j * 2)) ∧ w.grownBy wr (some g)) (fun _ i _ => n - (intOf i).toNat)
    case atStart => exact ⟨0, Nat.zero_le _, rfl, rfl, by simpa [mksGro, flat] using hown, World.grownBy.refl _ _⟩
    case round =>
      obtain ⟨j, hj, rfl, rfl, ho, hb⟩ := hrel
      by_cases hlt : j < n
      · have hp : (gros (mksGro k j)).length = j * 2 := by rw [gros_len, mksGro_len]
        have hu0 : j * 2 + 1 < (gros (mksGro k j) ++ xs.drop (j * 2)).length := by simp [hp]; omega
        have HX : Hid ((((gros (mksGro k j) ++ xs.drop (j * 2)).set (j * 2) (.int .i64 (mkGro k j).z)).set (j * 2 + 1) (.bool (mkGro k j).q)) = gros (mksGro k (j + 1)) ++ xs.drop ((j + 1) * 2)) := by
          rw [Hid, Gro_set _ _ _ _ _ hp (by omega), mksGro_succ, gros_append, gros_one]
        have k0 := (ho.cellAt (j * 2) (by omega)).trans (List.getElem?_eq_getElem (by omega))
        have k1 := (ho.cellAt (j * 2 + 1) (by omega)).trans (List.getElem?_eq_getElem (by omega))
        have f0 := ho.frozenAt (j * 2)
        have f1 := ho.frozenAt (j * 2 + 1)
        have q1 := ho.stored (j * 2) (.int .i64 (mkGro k j).z)
        have q2 := q1.1.stored (j * 2 + 1) (.bool (mkGro k j).q)
        have HG := Lib.hid ((hb.trans q1.2).trans q2.2)
        have hst := q2.1
        rw [HX.out] at hst
        have HS := Lib.hid hst
        clear hst hp q1 q2
        have hgr := (ho.lt g rfl).2
        go_wp2
        go_roundw
        case rel =>
          refine ⟨j + 1, by omega, by go_num, by go_num, ?_, ?_⟩
          · have := HS.out
            simpa [mkGro] using this
          · have := HG.out
            simpa [mkGro] using this
        case measure => simp [intOf]; omega
      · obtain rfl : j = n := by omega
        go_wp2
        go_ret
        exact ⟨rfl, by rw [List.drop_of_length_le (by omega), List.append_nil] at ho; exact ho, hb⟩
set_option maxHeartbeats 400000 in
theorem heldGroupS_any (k n : Nat) (v : Value) (w : World) (hk : k ≤ 8388608) (hn : n ≤ 8388608) (hr : Rs w v n (gros (mksGro k n))) :
    Calls Try.prog 47 #[v, .int .i64 (k : Int)] w fun e w' => e = .returned (.int .i64 ((k + n * 2 : Nat) : Int)) ∧ Drew w w' := by
  by_cases h0 : n = 0
  · subst h0
    obtain ⟨a, ca, rfl⟩ := hr.zero
    clear hr
    go_enter Try.func47, Try.ntmps47
    go_wp2
    refine wp_loop_rounds 1 ?_
    rw [rounds_succ]
    go_wp2
    go_ret
    exact ⟨rfl, Drew.refl _⟩
  · obtain ⟨a, oa, ca, rfl, hla, hcap, hm, hca⟩ := hr.pos h0
    have HA := Lib.hid hca
    clear hca hr h0
    go_enter Try.func47, Try.ntmps47
    go_wp2
    go_loopw [1, 5] (fun kk i wr => ∃ j m : Nat, j ≤ n ∧ i = .int .i64 j ∧ kk = .int .i64 ((k + j * 2 : Nat) : Int) ∧ wr = w.drewN m) (fun _ i _ => n - (intOf i).toNat)
    case atStart => exact ⟨0, 0, Nat.zero_le _, rfl, rfl, rfl⟩
    case round =>
      obtain ⟨j, m, hj, rfl, rfl, rfl⟩ := hrel
      by_cases hlt : j < n
      · obtain ⟨e0, e1⟩ := gros_at (mksGro k n) j (by rw [mksGro_len]; exact hlt)
        rw [mksGro_at k n j hlt] at e0 e1
        have c0 : w.cell? ⟨a, oa + j * 2, none⟩ = some (.int .i64 ((k : Int) + (j : Int) * 2)) := HA.out _ _ e0
        have c1 : w.cell? ⟨a, oa + j * 2 + 1, none⟩ = some (.bool (((k : Int) + (j : Int) * 2 + 1) % 3 == 0)) := HA.out _ _ e1
        clear e0 e1
        go_wp2
        go_roundw
        case rel => exact ⟨j + 1, m, by omega, by go_num, by go_num, rfl⟩
        case measure => simp [intOf]; omega
      · obtain rfl : j = n := by omega
        go_wp2
        go_ret
        exact ⟨rfl, m, rfl⟩
theorem heldGroupS_c (k n : Nat) (v : Value) (w : World) (hk : k ≤ 8388608) (hn : n ≤ 8388608) (hr : Rs w v n (gros (mksGro k n))) :
    Calls Try.prog 47 #[v, .int .i64 (k : Int)] w fun e w' => e = .returned (.int .i64 ((k + n * 2 : Nat) : Int)) ∧ Below w.heap.size w w' := (heldGroupS_any k n v w hk hn hr).mono fun _ _ h => ⟨h.1, h.2.below _⟩
end Go.Proofs.Ytkjdkfoeolcnkaa
