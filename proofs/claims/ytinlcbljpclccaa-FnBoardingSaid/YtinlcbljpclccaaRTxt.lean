/- Slices of texts in the laws: rTexts, rHasText. Condition: sizes. -/
import Derived.Test.YtinlcbljpclccaaStrS
import Derived.Test.YtinlcbljpclccaaL1Math
namespace Go.Proofs.Ytinlcbljpclccaa
open Go.RowKit
set_option linter.unusedVariables false
set_option maxHeartbeats 400000 in
theorem rTexts_same (va vb : Value) (l : List ByteArray) (w : World) (ha : Rd w va (l.map Value.string)) (hb : Rd w vb (l.map Value.string)) :
    Calls Try.prog 22 #[va, vb] w fun e w' => e = .returned (.bool true) ∧ ∃ n, w' = w.drewN n := by
  by_cases h0 : l = []
  · subst h0
    obtain ⟨a, ca, rfl⟩ : ∃ a cap, va = .slice a 0 cap := by rcases ha with ⟨_, h⟩ | ⟨b, o, c, h, _⟩; exact h; exact ⟨_, _, h⟩
    obtain ⟨b, cb, rfl⟩ : ∃ a cap, vb = .slice a 0 cap := by rcases hb with ⟨_, h⟩ | ⟨b, o, c, h, _⟩; exact h; exact ⟨_, _, h⟩
    clear ha hb
    go_enter Try.func22, Try.ntmps22
    go_wp2
    refine wp_loop_rounds 1 ?_
    rw [rounds_succ]
    go_wp2
    go_ret
    exact ⟨rfl, 0, rfl⟩
  · obtain ⟨a, oa, ca, rfl, hla, hm, hca⟩ : ∃ b off cap, va = .slice (some ⟨b, off, none⟩) l.length cap ∧ b < w.heap.size ∧ l.length ≤ maxLen ∧ ∀ i u, (l.map Value.string)[i]? = some u → w.cell? ⟨b, off + i, none⟩ = some u := by
      rcases ha with ⟨h, _⟩ | ⟨b, o, c, h, h1, h2, h3⟩
      · simp at h; exact absurd h h0
      · simp at h h2; exact ⟨b, o, c, h, h1, h2.2, h3⟩
    obtain ⟨b, ob, cb, rfl, hlb, _, hcb⟩ : ∃ b off cap, vb = .slice (some ⟨b, off, none⟩) l.length cap ∧ b < w.heap.size ∧ l.length ≤ maxLen ∧ ∀ i u, (l.map Value.string)[i]? = some u → w.cell? ⟨b, off + i, none⟩ = some u := by
      rcases hb with ⟨h, _⟩ | ⟨b, o, c, h, h1, h2, h3⟩
      · simp at h; exact absurd h h0
      · simp at h h2; exact ⟨b, o, c, h, h1, h2.2, h3⟩
    unfold maxLen at hm
    have HA := Lib.hid hca
    have HB := Lib.hid hcb
    clear hca hcb ha hb
    go_enter Try.func22, Try.ntmps22
    go_wp2
    go_loopw [5] (fun i wr => ∃ k m : Nat, k ≤ l.length ∧ i = .int .i64 k ∧ wr = w.drewN m) (fun i _ => l.length - (intOf i).toNat)
    case atStart => exact ⟨0, 0, Nat.zero_le _, rfl, rfl⟩
    case round =>
      obtain ⟨k, m, hk, rfl, rfl⟩ := hrel
      by_cases hlt : k < l.length
      · have c1 : w.cell? ⟨a, oa + k, none⟩ = some (.string l[k]) := HA.out k _ (str_at hlt)
        have c2 : w.cell? ⟨b, ob + k, none⟩ = some (.string l[k]) := HB.out k _ (str_at hlt)
        go_wp2
        go_quiet (fail)
        go_wp2
        go_roundw
        case rel => exact ⟨k + 1, m + nq, by omega, by go_num, rfl⟩
        case measure => simp [intOf]; omega
      · go_wp2
        go_ret
        exact ⟨rfl, m, rfl⟩
set_option maxHeartbeats 400000 in
theorem rHasText_yes (v : Value) (l : List ByteArray) (s : ByteArray) (w : World) (hr : Rd w v (l.map Value.string)) (hs : s ∈ l) :
    Calls Try.prog 23 #[v, .string s] w fun e w' => e = .returned (.bool true) ∧ ∃ n, w' = w.drewN n := by
  obtain ⟨ix, hix, he⟩ := List.getElem_of_mem hs
  obtain ⟨a, oa, ca, rfl, hla, hm, hca⟩ : ∃ b off cap, v = .slice (some ⟨b, off, none⟩) l.length cap ∧ b < w.heap.size ∧ l.length ≤ maxLen ∧ ∀ i u, (l.map Value.string)[i]? = some u → w.cell? ⟨b, off + i, none⟩ = some u := by
    rcases hr with ⟨h, _⟩ | ⟨b, o, c, h, h1, h2, h3⟩
    · simp at h; subst h; simp at hix
    · simp at h h2; exact ⟨b, o, c, h, h1, h2.2, h3⟩
  unfold maxLen at hm
  have HA := Lib.hid hca
  have HE := Lib.hid he
  clear hca hr hs he
  go_enter Try.func23, Try.ntmps23
  go_wp2
  go_loopw [5] (fun i wr => ∃ k m : Nat, k ≤ ix ∧ i = .int .i64 k ∧ wr = w.drewN m) (fun i _ => l.length - (intOf i).toNat)
  case atStart => exact ⟨0, 0, Nat.zero_le _, rfl, rfl⟩
  case round =>
    obtain ⟨k, m, hk, rfl, rfl⟩ := hrel
    have hlt : k < l.length := by omega
    have c1 : w.cell? ⟨a, oa + k, none⟩ = some (.string l[k]) := HA.out k _ (str_at hlt)
    by_cases hq : l[k] = s
    · have z := str_eq hq
      clear hq
      go_wp2
      go_ret
      exact ⟨rfl, _, rfl⟩
    · have hne : k ≠ ix := by intro h; subst h; exact hq HE.out
      have z := str_ne hq
      clear hq
      go_wp2
      go_roundw
      case rel => exact ⟨k + 1, m, by omega, by go_num, rfl⟩
      case measure => simp [intOf]; omega
end Go.Proofs.Ytinlcbljpclccaa
