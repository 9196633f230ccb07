/- Slices of impl.Ticket marked and looked at. Condition: sizes. -/
import Derived.Test.YtpknodbkjjcdjaaDoorTikS
namespace Go.Proofs.YtpknodbkjjcdjaaDoor
open Go.RowKit
set_option linter.unusedVariables false
/-- The marks from k on. -/
def mkTik (k j : Nat) : Tik := ⟨(k : Int) + (j : Int) * 5, (k : Int) + (j : Int) * 5 + 1, (k : Int) + (j : Int) * 5 + 1 + 1, (k : Int) + (j : Int) * 5 + 1 + 1 + 1, (k : Int) + (j : Int) * 5 + 1 + 1 + 1 + 1⟩
def mksTik (k n : Nat) : List Tik := (List.range n).map (mkTik k)
theorem mksTik_len (k n : Nat) : (mksTik k n).length = n := by simp [mksTik]
theorem mksTik_succ (k j : Nat) : mksTik k (j + 1) = mksTik k j ++ [mkTik k j] := by simp [mksTik, List.range_succ]
theorem mksTik_at (k n j : Nat) (h : j < n) : gth (mksTik k n) j = mkTik k j := by simp [gth, mksTik, List.getD, h]
set_option maxHeartbeats 400000 in
theorem markTicketS_any (B k n : Nat) (v : Value) (xs : List Value) (w : World) (hk : k ≤ 8388608) (hn : n ≤ 8388608) (hB : B ≤ w.heap.size) (hown : w.ownsRow B 31 5 v n xs) :
    Calls Tryd.prog 49 #[v, .int .i64 (k : Int)] w fun e w' => e = .returned (.int .i64 ((k + n * 5 : Nat) : Int)) ∧ w'.ownsRow B 31 5 v n (tiks (mksTik k n)) ∧ w.grownBy w' v.ownBlock := by
  rcases owns_cases hown with ⟨rfl, rfl, a, cap, rfl⟩ | ⟨g, cap, rfl, hg, hgs, hpos, hnm, hl⟩
  · have HO := Lib.hid hown
    clear hown
    go_enter Tryd.func49, Tryd.ntmps49
    go_wp2
    refine wp_loop_rounds 1 ?_
    rw [rounds_succ]
    go_wp2
    go_ret
    exact ⟨rfl, HO.out, World.grownBy.refl _ _⟩
  · go_enter Tryd.func49, Tryd.ntmps49
    go_wp2
    go_loopw [1, 5] (fun kk i wr => ∃ j : Nat, j ≤ n ∧ i = .int .i64 j ∧ kk = .int .i64 ((k + j * 5 : Nat) : Int) ∧ wr.ownsRow B 31 5 (.slice (some ⟨g, 0, none⟩) n cap) n (tiks (mksTik k j) ++ xs.drop (j * 5)) ∧ w.grownBy wr (some g)) (fun _ i _ => n - (intOf i).toNat)
    case atStart => exact ⟨0, Nat.zero_le _, rfl, rfl, by simpa [mksTik, flat] using hown, World.grownBy.refl _ _⟩
    case round =>
      obtain ⟨j, hj, rfl, rfl, ho, hb⟩ := hrel
      by_cases hlt : j < n
      · have hp : (tiks (mksTik k j)).length = j * 5 := by rw [tiks_len, mksTik_len]
        have hu0 : j * 5 + 4 < (tiks (mksTik k j) ++ xs.drop (j * 5)).length := by simp [hp]; omega
        have HX : Hid (((((((tiks (mksTik k j) ++ xs.drop (j * 5)).set (j * 5) (.int .i64 (mkTik k j).i)).set (j * 5 + 1) (.int .i64 (mkTik k j).s)).set (j * 5 + 2) (.int .i64 (mkTik k j).w)).set (j * 5 + 3) (.int .i64 (mkTik k j).g)).set (j * 5 + 4) (.int .i64 (mkTik k j).p)) = tiks (mksTik k (j + 1)) ++ xs.drop ((j + 1) * 5)) := by
          rw [Hid, Tik_set _ _ _ _ _ _ _ _ hp (by omega), mksTik_succ, tiks_append, tiks_one]
        have k0 := (ho.cellAt (j * 5) (by omega)).trans (List.getElem?_eq_getElem (by omega))
        have k1 := (ho.cellAt (j * 5 + 1) (by omega)).trans (List.getElem?_eq_getElem (by omega))
        have k2 := (ho.cellAt (j * 5 + 2) (by omega)).trans (List.getElem?_eq_getElem (by omega))
        have k3 := (ho.cellAt (j * 5 + 3) (by omega)).trans (List.getElem?_eq_getElem (by omega))
        have k4 := (ho.cellAt (j * 5 + 4) (by omega)).trans (List.getElem?_eq_getElem (by omega))
        have f0 := ho.frozenAt (j * 5)
        have f1 := ho.frozenAt (j * 5 + 1)
        have f2 := ho.frozenAt (j * 5 + 2)
        have f3 := ho.frozenAt (j * 5 + 3)
        have f4 := ho.frozenAt (j * 5 + 4)
        have q1 := ho.stored (j * 5) (.int .i64 (mkTik k j).i)
        have q2 := q1.1.stored (j * 5 + 1) (.int .i64 (mkTik k j).s)
        have q3 := q2.1.stored (j * 5 + 2) (.int .i64 (mkTik k j).w)
        have q4 := q3.1.stored (j * 5 + 3) (.int .i64 (mkTik k j).g)
        have q5 := q4.1.stored (j * 5 + 4) (.int .i64 (mkTik k j).p)
        have HG := Lib.hid (((((hb.trans q1.2).trans q2.2).trans q3.2).trans q4.2).trans q5.2)
        have hst := q5.1
        rw [HX.out] at hst
        have HS := Lib.hid hst
        clear hst hp q1 q2 q3 q4 q5
        have hgr := (ho.lt g rfl).2
        go_wp2
        go_roundw
        case rel =>
          refine ⟨j + 1, by omega, by go_num, by go_num, ?_, ?_⟩
          · have := HS.out
            simpa [mkTik] using this
          · have := HG.out
            simpa [mkTik] using this
        case measure => simp [intOf]; omega
      · obtain rfl : j = n := by omega
        go_wp2
        go_ret
        exact ⟨rfl, by rw [List.drop_of_length_le (by omega), List.append_nil] at ho; exact ho, hb⟩
set_option maxHeartbeats 400000 in
theorem heldTicketS_any (k n : Nat) (v : Value) (w : World) (hk : k ≤ 8388608) (hn : n ≤ 8388608) (hr : Rs w v n (tiks (mksTik k n))) :
    Calls Tryd.prog 50 #[v, .int .i64 (k : Int)] w fun e w' => e = .returned (.int .i64 ((k + n * 5 : Nat) : Int)) ∧ Drew w w' := by
  by_cases h0 : n = 0
  · subst h0
    obtain ⟨a, ca, rfl⟩ := hr.zero
    clear hr
    go_enter Tryd.func50, Tryd.ntmps50
    go_wp2
    refine wp_loop_rounds 1 ?_
    rw [rounds_succ]
    go_wp2
    go_ret
    exact ⟨rfl, Drew.refl _⟩
  · obtain ⟨a, oa, ca, rfl, hla, hcap, hm, hca⟩ := hr.pos h0
    have HA := Lib.hid hca
    clear hca hr h0
    go_enter Tryd.func50, Tryd.ntmps50
    go_wp2
    go_loopw [1, 5] (fun kk i wr => ∃ j m : Nat, j ≤ n ∧ i = .int .i64 j ∧ kk = .int .i64 ((k + j * 5 : Nat) : Int) ∧ wr = w.drewN m) (fun _ i _ => n - (intOf i).toNat)
    case atStart => exact ⟨0, 0, Nat.zero_le _, rfl, rfl, rfl⟩
    case round =>
      obtain ⟨j, m, hj, rfl, rfl, rfl⟩ := hrel
      by_cases hlt : j < n
      · obtain ⟨e0, e1, e2, e3, e4⟩ := tiks_at (mksTik k n) j (by rw [mksTik_len]; exact hlt)
        rw [mksTik_at k n j hlt] at e0 e1 e2 e3 e4
        have c0 : w.cell? ⟨a, oa + j * 5, none⟩ = some (.int .i64 ((k : Int) + (j : Int) * 5)) := HA.out _ _ e0
        have c1 : w.cell? ⟨a, oa + j * 5 + 1, none⟩ = some (.int .i64 ((k : Int) + (j : Int) * 5 + 1)) := HA.out _ _ e1
        have c2 : w.cell? ⟨a, oa + j * 5 + 2, none⟩ = some (.int .i64 ((k : Int) + (j : Int) * 5 + 1 + 1)) := HA.out _ _ e2
        have c3 : w.cell? ⟨a, oa + j * 5 + 3, none⟩ = some (.int .i64 ((k : Int) + (j : Int) * 5 + 1 + 1 + 1)) := HA.out _ _ e3
        have c4 : w.cell? ⟨a, oa + j * 5 + 4, none⟩ = some (.int .i64 ((k : Int) + (j : Int) * 5 + 1 + 1 + 1 + 1)) := HA.out _ _ e4
        clear e0 e1 e2 e3 e4
        go_wp2
        go_roundw
        case rel => exact ⟨j + 1, m, by omega, by go_num, by go_num, rfl⟩
        case measure => simp [intOf]; omega
      · obtain rfl : j = n := by omega
        go_wp2
        go_ret
        exact ⟨rfl, m, rfl⟩
theorem heldTicketS_c (k n : Nat) (v : Value) (w : World) (hk : k ≤ 8388608) (hn : n ≤ 8388608) (hr : Rs w v n (tiks (mksTik k n))) :
    Calls Tryd.prog 50 #[v, .int .i64 (k : Int)] w fun e w' => e = .returned (.int .i64 ((k + n * 5 : Nat) : Int)) ∧ Below w.heap.size w w' := (heldTicketS_any k n v w hk hn hr).mono fun _ _ h => ⟨h.1, h.2.below _⟩
end Go.Proofs.YtpknodbkjjcdjaaDoor
