/- Slices of integers compared, marked, looked at. Condition: sizes. -/
import Derived.Test.YtkjdkfoeolcnkaaRows
import Derived.Test.YtkjdkfoeolcnkaaRd
import Derived.Test.YtkjdkfoeolcnkaaDrew
import Derived.Maps.AppendAt
import Derived.LoopTactic
import Derived.OwnWalk
import Derived.Below
import Derived.Outline
import Derived.WalkKit
import Derived.Lib.Hide
import Derived.Deep.QuietTactic
import Derived.BigQuiet
namespace Go.Proofs.Ytkjdkfoeolcnkaa
open Go.RowKit
set_option linter.unusedVariables false
abbrev intVs (l : List Int) : List Value := l.map (Value.int .i64)
theorem int_at {l : List Int} {k : Nat} (h : k < l.length) : (intVs l)[k]? = some (.int .i64 (l.getD k 0)) := by simp [intVs, List.getD, h]
theorem Rd.iv {w : World} {v : Value} {l : List Int} (h : Rd w v (intVs l)) (h0 : l ≠ []) :
    ∃ b off cap, v = .slice (some ⟨b, off, none⟩) l.length cap ∧ b < w.heap.size ∧ l.length ≤ maxLen ∧ ∀ i, i < l.length → w.cell? ⟨b, off + i, none⟩ = some (.int .i64 (l.getD i 0)) := by
  rcases h with ⟨h, _⟩ | ⟨b, o, c, h, h1, h2, h3⟩
  · simp at h; exact absurd h h0
  · simp at h h2; exact ⟨b, o, c, h, h1, h2.2, fun i hi => h3 i _ (int_at hi)⟩
theorem Rd.iv0 {w : World} {v : Value} (h : Rd w v (intVs [])) : ∃ a cap, v = .slice a 0 cap := by
  rcases h with ⟨_, h⟩ | ⟨b, o, c, h, _⟩
  · exact h
  · exact ⟨_, _, h⟩
set_option maxHeartbeats 400000 in
theorem eqIntS_same (va vb : Value) (l : List Int) (w : World) (ha : Rd w va (intVs l)) (hb : Rd w vb (intVs l)) :
    Calls Try.prog 48 #[va, vb] w fun e w' => e = .returned (.bool true) ∧ Drew w w' := by
  by_cases h0 : l = []
  · subst h0
    obtain ⟨a, ca, rfl⟩ := ha.iv0
    obtain ⟨b, cb, rfl⟩ := hb.iv0
    clear ha hb
    go_enter Try.func48, Try.ntmps48
    go_wp2
    refine wp_loop_rounds 1 ?_
    rw [rounds_succ]
    go_wp2
    go_ret
    exact ⟨rfl, Drew.refl _⟩
  · obtain ⟨a, oa, ca, rfl, hla, hm, hca⟩ := ha.iv h0
    obtain ⟨b, ob, cb, rfl, hlb, _, hcb⟩ := hb.iv h0
    unfold maxLen at hm
    have HA := Lib.hid hca
    have HB := Lib.hid hcb
    clear hca hcb ha hb
    go_enter Try.func48, Try.ntmps48
    go_wp2
    go_loopw [5] (fun i wr => ∃ k m : Nat, k ≤ l.length ∧ i = .int .i64 k ∧ wr = w.drewN m) (fun i _ => l.length - (intOf i).toNat)
    case atStart => exact ⟨0, 0, Nat.zero_le _, rfl, rfl⟩
    case round =>
      obtain ⟨k, m, hk, rfl, rfl⟩ := hrel
      by_cases hlt : k < l.length
      · have c1 : w.cell? ⟨a, oa + k, none⟩ = some (.int .i64 (l.getD k 0)) := HA.out k hlt
        have c2 : w.cell? ⟨b, ob + k, none⟩ = some (.int .i64 (l.getD k 0)) := HB.out k hlt
        generalize l.getD k 0 = x at c1 c2
        go_wp2
        go_quiet (fail)
        go_wp2
        go_roundw
        case rel => exact ⟨k + 1, m + nq, by omega, by go_num, rfl⟩
        case measure => simp [intOf]; omega
      · go_wp2
        go_ret
        exact ⟨rfl, m, rfl⟩
def imarks (k n : Nat) : List Int := (List.range n).map fun j => ((k + j : Nat) : Int)
theorem imarks_len (k n : Nat) : (imarks k n).length = n := by simp [imarks]
theorem imarks_succ (k j : Nat) : imarks k (j + 1) = imarks k j ++ [((k + j : Nat) : Int)] := by simp [imarks, List.range_succ]
theorem imarks_at (k n j : Nat) (hj : j < n) : (imarks k n).getD j 0 = ((k + j : Nat) : Int) := by simp [imarks, List.getD, hj]
theorem imarks_set (k j n : Nat) (xs : List Value) (hx : xs.length = n) (hj : j < n) :
    (intVs (imarks k j) ++ xs.drop j).set j (.int .i64 ((k + j : Nat) : Int)) = intVs (imarks k (j + 1)) ++ xs.drop (j + 1) := by
  rw [imarks_succ, List.set_append_right _ _ (by simp [imarks_len])]
  simp only [intVs, List.length_map, imarks_len, Nat.sub_self, List.map_append, List.map_cons, List.map_nil, List.append_assoc, List.cons_append, List.nil_append]
  rw [List.drop_eq_getElem_cons (by omega : j < xs.length), List.set_cons_zero]
set_option maxHeartbeats 400000 in
theorem markIntS_any (B k n : Nat) (v : Value) (xs : List Value) (w : World) (hk : k ≤ 8388608) (hn : n ≤ 8388608) (hB : B ≤ w.heap.size) (hown : w.ownsRow B 3 1 v n xs) :
    Calls Try.prog 49 #[v, .int .i64 (k : Int)] w fun e w' => e = .returned (.int .i64 ((k + n : Nat) : Int)) ∧ w'.ownsRow B 3 1 v n (intVs (imarks k n)) ∧ w.grownBy w' v.ownBlock := by
  rcases own_cases hown with ⟨rfl, rfl, a, cap, rfl⟩ | ⟨g, cap, rfl, hg, hgs, hpos, hnm, hl⟩
  · have HO := Lib.hid hown
    clear hown
    go_enter Try.func49, Try.ntmps49
    go_wp2
    refine wp_loop_rounds 1 ?_
    rw [rounds_succ]
    go_wp2
    go_ret
    exact ⟨rfl, HO.out, World.grownBy.refl _ _⟩
  · go_enter Try.func49, Try.ntmps49
    go_wp2
    go_loopw [1, 5] (fun kk i wr => ∃ j : Nat, j ≤ n ∧ i = .int .i64 j ∧ kk = .int .i64 ((k + j : Nat) : Int) ∧ wr.ownsRow B 3 1 (.slice (some ⟨g, 0, none⟩) n cap) n (intVs (imarks k j) ++ xs.drop j) ∧ w.grownBy wr (some g)) (fun _ i _ => n - (intOf i).toNat)
    case atStart => exact ⟨0, Nat.zero_le _, rfl, rfl, by simpa [imarks] using hown, World.grownBy.refl _ _⟩
    case round =>
      obtain ⟨j, hj, rfl, rfl, ho, hb⟩ := hrel
      by_cases hlt : j < n
      · have hu0 : j < (intVs (imarks k j) ++ xs.drop j).length := by simp [imarks_len]; omega
        have hc1 := (ho.cellAt j (by omega)).trans (List.getElem?_eq_getElem hu0)
        have hf1 := ho.frozenAt j
        have q1 := ho.stored j (.int .i64 ((k + j : Nat) : Int))
        have HG := Lib.hid (hb.trans q1.2)
        have hst := q1.1
        rw [imarks_set k j n xs hl hlt] at hst
        clear q1
        have HS := Lib.hid hst
        clear hst
        have hgr := (ho.lt g rfl).2
        go_wp2
        go_roundw
        case rel => exact ⟨j + 1, by omega, by go_num, by go_num, by simpa using HS.out, by simpa using HG.out⟩
        case measure => simp [intOf]; omega
      · obtain rfl : j = n := by omega
        go_wp2
        go_ret
        exact ⟨rfl, by simpa [← hl] using ho, hb⟩
set_option maxHeartbeats 400000 in
theorem heldIntS_any (k n : Nat) (v : Value) (w : World) (hk : k ≤ 8388608) (hn : n ≤ 8388608) (hr : Rd w v (intVs (imarks k n))) :
    Calls Try.prog 50 #[v, .int .i64 (k : Int)] w fun e w' => e = .returned (.int .i64 ((k + n : Nat) : Int)) ∧ Drew w w' := by
  by_cases h0 : n = 0
  · subst h0
    obtain ⟨a, ca, rfl⟩ := hr.iv0
    clear hr
    go_enter Try.func50, Try.ntmps50
    go_wp2
    refine wp_loop_rounds 1 ?_
    rw [rounds_succ]
    go_wp2
    go_ret
    exact ⟨rfl, Drew.refl _⟩
  · obtain ⟨a, oa, ca, hv, hla, hm, hca⟩ := hr.iv (by intro h; have := congrArg List.length h; simp [imarks_len] at this; exact h0 this)
    rw [imarks_len] at hv hca
    subst hv
    have HA := Lib.hid hca
    clear hca hr h0 hm
    go_enter Try.func50, Try.ntmps50
    go_wp2
    go_loopw [1, 5] (fun kk i wr => ∃ j m : Nat, j ≤ n ∧ i = .int .i64 j ∧ kk = .int .i64 ((k + j : Nat) : Int) ∧ wr = w.drewN m) (fun _ i _ => n - (intOf i).toNat)
    case atStart => exact ⟨0, 0, Nat.zero_le _, rfl, rfl, rfl⟩
    case round =>
      obtain ⟨j, m, hj, rfl, rfl, rfl⟩ := hrel
      by_cases hlt : j < n
      · have c1 : w.cell? ⟨a, oa + j, none⟩ = some (.int .i64 ((k + j : Nat) : Int)) := (HA.out j hlt).trans (by rw [imarks_at k n j hlt])
        go_wp2
        go_roundw
        case rel => exact ⟨j + 1, m, by omega, by go_num, by go_num, rfl⟩
        case measure => simp [intOf]; omega
      · obtain rfl : j = n := by omega
        go_wp2
        go_ret
        exact ⟨rfl, m, rfl⟩
end Go.Proofs.Ytkjdkfoeolcnkaa
