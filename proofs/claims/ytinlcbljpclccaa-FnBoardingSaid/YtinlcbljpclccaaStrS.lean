/- Slices of strings compared, marked, looked at. Condition: sizes. -/
import Derived.Test.YtinlcbljpclccaaRows
import Derived.Test.YtinlcbljpclccaaRd
import Derived.Test.YtinlcbljpclccaaMarkW
import Derived.LoopTactic
import Derived.OwnWalk
import Derived.Below
import Derived.Outline
import Derived.WalkKit
import Derived.Lib.Hide
import Derived.Deep.QuietTactic
import Derived.BigQuiet
import Derived.Deep.RegionHeld3
namespace Go.Proofs.Ytinlcbljpclccaa
open Go.RowKit
set_option linter.unusedVariables false
theorem str_at {l : List ByteArray} {k : Nat} (h : k < l.length) : (l.map Value.string)[k]? = some (.string l[k]) := by simp [h]
set_option maxHeartbeats 400000 in
theorem eqStringS_same (va vb : Value) (l : List ByteArray) (w : World) (ha : Rd w va (l.map Value.string)) (hb : Rd w vb (l.map Value.string)) :
    Calls Try.prog 37 #[va, vb] w fun e w' => e = .returned (.bool true) ∧ ∃ n, w' = w.drewN n := by
  by_cases h0 : l = []
  · subst h0
    obtain ⟨a, ca, rfl⟩ : ∃ a cap, va = .slice a 0 cap := by rcases ha with ⟨_, h⟩ | ⟨b, o, c, h, _⟩; exact h; exact ⟨_, _, h⟩
    obtain ⟨b, cb, rfl⟩ : ∃ a cap, vb = .slice a 0 cap := by rcases hb with ⟨_, h⟩ | ⟨b, o, c, h, _⟩; exact h; exact ⟨_, _, h⟩
    clear ha hb
    go_enter Try.func37, Try.ntmps37
    go_wp2
    refine wp_loop_rounds 1 ?_
    rw [rounds_succ]
    go_wp2
    go_ret
    exact ⟨rfl, 0, rfl⟩
  · obtain ⟨a, oa, ca, rfl, hla, hm, hca⟩ : ∃ b off cap, va = .slice (some ⟨b, off, none⟩) l.length cap ∧ b < w.heap.size ∧ l.length ≤ maxLen ∧ ∀ i u, (l.map Value.string)[i]? = some u → w.cell? ⟨b, off + i, none⟩ = some u := by
      rcases ha with ⟨h, _⟩ | ⟨b, o, c, h, h1, h2, h3⟩
      · simp at h; exact absurd h h0
      · simp at h h2; exact ⟨b, o, c, h, h1, h2.2, h3⟩
    obtain ⟨b, ob, cb, rfl, hlb, _, hcb⟩ : ∃ b off cap, vb = .slice (some ⟨b, off, none⟩) l.length cap ∧ b < w.heap.size ∧ l.length ≤ maxLen ∧ ∀ i u, (l.map Value.string)[i]? = some u → w.cell? ⟨b, off + i, none⟩ = some u := by
      rcases hb with ⟨h, _⟩ | ⟨b, o, c, h, h1, h2, h3⟩
      · simp at h; exact absurd h h0
      · simp at h h2; exact ⟨b, o, c, h, h1, h2.2, h3⟩
    unfold maxLen at hm
    have HA := Lib.hid hca
    have HB := Lib.hid hcb
    clear hca hcb ha hb
    go_enter Try.func37, Try.ntmps37
    go_wp2
    go_loopw [5] (fun i wr => ∃ k m : Nat, k ≤ l.length ∧ i = .int .i64 k ∧ wr = w.drewN m) (fun i _ => l.length - (intOf i).toNat)
    case atStart => exact ⟨0, 0, Nat.zero_le _, rfl, rfl⟩
    case round =>
      obtain ⟨k, m, hk, rfl, rfl⟩ := hrel
      by_cases hlt : k < l.length
      · have c1 : w.cell? ⟨a, oa + k, none⟩ = some (.string l[k]) := HA.out k _ (str_at hlt)
        have c2 : w.cell? ⟨b, ob + k, none⟩ = some (.string l[k]) := HB.out k _ (str_at hlt)
        go_wp2
        go_quiet (fail)
        go_wp2
        go_roundw
        case rel => exact ⟨k + 1, m + nq, by omega, by go_num, rfl⟩
        case measure => simp [intOf]; omega
      · go_wp2
        go_ret
        exact ⟨rfl, m, rfl⟩
/-- The marks from k on. -/
def marks (k n : Nat) : List ByteArray := (List.range n).map fun i => mt (k + i)
theorem marks_len (k n : Nat) : (marks k n).length = n := by simp [marks]
theorem marks_succ (k j : Nat) : marks k (j + 1) = marks k j ++ [mt (k + j)] := by simp [marks, List.range_succ]
theorem marks_set (k j n : Nat) (xs : List Value) (hx : xs.length = n) (hj : j < n) :
    ((marks k j).map Value.string ++ xs.drop j).set j (.string (mt (k + j))) = (marks k (j + 1)).map Value.string ++ xs.drop (j + 1) := by
  rw [marks_succ, List.set_append_right _ _ (by simp [marks_len])]
  simp only [List.length_map, marks_len, Nat.sub_self, List.map_append, List.map_cons, List.map_nil, List.append_assoc, List.cons_append, List.nil_append]
  rw [List.drop_eq_getElem_cons (by omega : j < xs.length), List.set_cons_zero]
set_option maxHeartbeats 400000 in
theorem markStringS_any (B k n : Nat) (v : Value) (xs : List Value) (w : World) (hk : k ≤ 8388608) (hn : n ≤ 8388608) (hB : B ≤ w.heap.size) (hown : w.ownsRow B 9 1 v n xs) :
    Calls Try.prog 38 #[v, .int .i64 (k : Int)] w fun e w' => e = .returned (.int .i64 ((k + n : Nat) : Int)) ∧ w'.ownsRow B 9 1 v n ((marks k n).map Value.string) ∧ Below B w w' := by
  rcases own_cases hown with ⟨rfl, rfl, a, cap, rfl⟩ | ⟨g, cap, rfl, hg, hgs, hpos, hnm, hl⟩
  · have HO := Lib.hid hown
    clear hown
    go_enter Try.func38, Try.ntmps38
    go_wp2
    refine wp_loop_rounds 1 ?_
    rw [rounds_succ]
    go_wp2
    go_ret
    exact ⟨rfl, HO.out, Below.refl _ _⟩
  · go_enter Try.func38, Try.ntmps38
    go_wp2
    go_loopw [1, 5] (fun kk i wr => ∃ j : Nat, j ≤ n ∧ i = .int .i64 j ∧ kk = .int .i64 ((k + j : Nat) : Int) ∧ wr.ownsRow B 9 1 (.slice (some ⟨g, 0, none⟩) n cap) n ((marks k j).map Value.string ++ xs.drop j) ∧ Below B w wr) (fun _ i _ => n - (intOf i).toNat)
    case atStart => exact ⟨0, Nat.zero_le _, rfl, rfl, by simpa [marks] using hown, Below.refl _ _⟩
    case round =>
      obtain ⟨j, hj, rfl, rfl, ho, hb⟩ := hrel
      by_cases hlt : j < n
      · have hsz := ho.lt g rfl
        have hu0 : j < ((marks k j).map Value.string ++ xs.drop j).length := by simp [marks_len]; omega
        go_wp2_with (go_at_call 62; refine (markText_any (k + j) (by omega) _).mono ?_; rintro e w1 ⟨rfl, hb1⟩; have ho1 := own_below ho hb1; have hc1 := (ho1.cellAt j (by omega)).trans (List.getElem?_eq_getElem hu0); have hf1 := ho1.frozenAt j)
        have hst := ho1.stored j (.string (mt (k + j)))
        rw [marks_set k j n xs hl hlt] at hst
        go_roundw
        case rel => exact ⟨j + 1, by omega, by go_num, by go_num, hst.1, (hb.trans (hb1.mono (Nat.le_trans hB hb.size))).setCell hg _⟩
        case measure => simp [intOf]; omega
      · obtain rfl : j = n := by omega
        go_wp2
        go_ret
        exact ⟨rfl, by simpa [← hl] using ho, hb⟩
theorem marks_at (k n j : Nat) (hj : j < n) : ((marks k n).map Value.string)[j]? = some (.string (mt (k + j))) := by
  simp [marks, hj]
set_option maxHeartbeats 400000 in
theorem heldStringS_any (k n : Nat) (v : Value) (w : World) (hk : k ≤ 8388608) (hn : n ≤ 8388608) (hr : Rd w v ((marks k n).map Value.string)) :
    Calls Try.prog 39 #[v, .int .i64 (k : Int)] w fun e w' => e = .returned (.int .i64 ((k + n : Nat) : Int)) ∧ Below w.heap.size w w' := by
  by_cases h0 : n = 0
  · subst h0
    obtain ⟨a, ca, rfl⟩ : ∃ a cap, v = .slice a 0 cap := by rcases hr with ⟨_, h⟩ | ⟨b, o, c, h, _⟩; exact h; exact ⟨_, _, h⟩
    clear hr
    go_enter Try.func39, Try.ntmps39
    go_wp2
    refine wp_loop_rounds 1 ?_
    rw [rounds_succ]
    go_wp2
    go_ret
    exact ⟨rfl, Below.refl _ _⟩
  · obtain ⟨g, o, ca, rfl, hg, hc⟩ : ∃ b off cap, v = .slice (some ⟨b, off, none⟩) n cap ∧ b < w.heap.size ∧ ∀ i u, ((marks k n).map Value.string)[i]? = some u → w.cell? ⟨b, off + i, none⟩ = some u := by
      rcases hr with ⟨h, _⟩ | ⟨b, o, c, h, h1, h2, h3⟩
      · have := congrArg List.length h; simp [marks_len] at this; exact absurd this h0
      · simp [marks_len] at h; exact ⟨b, o, c, h, h1, h3⟩
    have HC := Lib.hid hc
    clear hc hr
    go_enter Try.func39, Try.ntmps39
    go_wp2
    go_loopw [1, 5] (fun kk i wr => ∃ j : Nat, j ≤ n ∧ i = .int .i64 j ∧ kk = .int .i64 ((k + j : Nat) : Int) ∧ Below w.heap.size w wr) (fun _ i _ => n - (intOf i).toNat)
    case atStart => exact ⟨0, Nat.zero_le _, rfl, rfl, Below.refl _ _⟩
    case round =>
      obtain ⟨j, hj, rfl, rfl, hb⟩ := hrel
      by_cases hlt : j < n
      · have c1 : wr.cell? ⟨g, o + j, none⟩ = some (.string (mt (k + j))) := (hb.cell (p := ⟨g, o + j, none⟩) hg).trans (HC.out j _ (marks_at k n j hlt))
        have hgr : g < wr.heap.size := Nat.lt_of_lt_of_le hg hb.size
        go_wp2_with fail
        go_region_held3 (fun w' => w'.cell? ⟨g, o + j, none⟩ = some (.string (mt (k + j)))) (go_keep)
          (first | (go_at_call 62; refine (markText_any (k + j) (by omega) _).mono ?_; rintro e w1 ⟨rfl, hb1⟩; have g1 := (hb1.cell (p := ⟨g, o + j, none⟩) (by simp; omega)).trans c1))
        go_wp2
        go_roundw
        case rel => exact ⟨j + 1, by omega, by go_num, by go_num, hb.drew.trans (hb1.mono hb.size)⟩
        case measure => simp [intOf]; omega
      · obtain rfl : j = n := by omega
        go_wp2
        go_ret
        exact ⟨rfl, hb⟩
end Go.Proofs.Ytinlcbljpclccaa
