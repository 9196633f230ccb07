/- The laws' helpers on lists of integers. Condition: sizes. -/
import Derived.Test.YtoamhbobcpljpaaVotB
namespace Go.Proofs.Ytoamhbobcpljpaa
open Go.RowKit
set_option linter.unusedVariables false
set_option maxHeartbeats 400000 in
theorem vInts_same (va vb : Value) (l : List Int) (w : World) (ha : Rd w va (intVs l)) (hb : Rd w vb (intVs l)) :
    Calls Try.prog 18 #[va, vb] w fun e w' => e = .returned (.bool true) ∧ Drew w w' := by
  by_cases h0 : l = []
  · subst h0
    obtain ⟨a, ca, rfl⟩ := ha.iv0
    obtain ⟨b, cb, rfl⟩ := hb.iv0
    clear ha hb
    go_enter Try.func18, Try.ntmps18
    go_wp2
    refine wp_loop_rounds 1 ?_
    rw [rounds_succ]
    go_wp2
    go_ret
    exact ⟨rfl, Drew.refl _⟩
  · obtain ⟨a, oa, ca, rfl, hla, hm, hca⟩ := ha.iv h0
    obtain ⟨b, ob, cb, rfl, hlb, _, hcb⟩ := hb.iv h0
    unfold maxLen at hm
    have HA := Lib.hid hca
    have HB := Lib.hid hcb
    clear hca hcb ha hb
    go_enter Try.func18, Try.ntmps18
    go_wp2
    go_loopw [5] (fun i wr => ∃ k m : Nat, k ≤ l.length ∧ i = .int .i64 k ∧ wr = w.drewN m) (fun i _ => l.length - (intOf i).toNat)
    case atStart => exact ⟨0, 0, Nat.zero_le _, rfl, rfl⟩
    case round =>
      obtain ⟨k, m, hk, rfl, rfl⟩ := hrel
      by_cases hlt : k < l.length
      · have c1 : w.cell? ⟨a, oa + k, none⟩ = some (.int .i64 (l.getD k 0)) := HA.out k hlt
        have c2 : w.cell? ⟨b, ob + k, none⟩ = some (.int .i64 (l.getD k 0)) := HB.out k hlt
        generalize l.getD k 0 = x at c1 c2
        go_wp2
        go_quiet (fail)
        go_wp2
        go_roundw
        case rel => exact ⟨k + 1, m + nq, by omega, by go_num, rfl⟩
        case measure => simp [intOf]; omega
      · go_wp2
        go_ret
        exact ⟨rfl, m, rfl⟩
theorem vInts_c (va vb : Value) (l : List Int) (w : World) (ha : Rd w va (intVs l)) (hb : Rd w vb (intVs l)) :
    Calls Try.prog 18 #[va, vb] w fun e w' => e = .returned (.bool true) ∧ Below w.heap.size w w' := (vInts_same va vb l w ha hb).mono fun _ _ h => ⟨h.1, h.2.below _⟩
set_option maxHeartbeats 1000000 in
theorem vHas_yes (v : Value) (l : List Int) (x : Int) (w : World) (hr : Rd w v (intVs l)) (hn : l.length ≤ 1000) (hx : x ∈ l) :
    Calls Try.prog 31 #[v, .int .i64 x] w fun e w' => e = .returned (.bool true) ∧ w' = w := by
  obtain ⟨j, hj, hjx⟩ := List.getElem_of_mem hx
  have h0 : l ≠ [] := by rintro rfl; simp at hj
  have hjx' : l.getD j 0 = x := by simp [List.getD, hj, hjx]
  obtain ⟨a, oa, ca, rfl, hla, hm, hca⟩ := hr.iv h0
  have HA := Lib.hid hca
  have HJ := Lib.hid hjx'
  clear hca hr h0 hx hjx hjx'
  go_enter Try.func31, Try.ntmps31
  go_wp2
  go_loop [5] (fun i => ∃ k : Nat, k ≤ j ∧ i = .int .i64 k) (fun i => l.length - (intOf i).toNat)
  case atStart => exact ⟨0, Nat.zero_le _, rfl⟩
  case round =>
    obtain ⟨k, hk, rfl⟩ := hrel
    have hlt : k < l.length := by omega
    have c1 : w.cell? ⟨a, oa + k, none⟩ = some (.int .i64 (l.getD k 0)) := HA.out k hlt
    by_cases hx : l.getD k 0 = x
    · have hxb : (l.getD k 0 == x) = true := by rw [beq_iff_eq]; exact hx
      clear hx
      generalize l.getD k 0 = X at *
      go_wp2
      go_ret
      exact ⟨rfl, rfl⟩
    · have hxb : (l.getD k 0 == x) = false := by rw [beq_eq_false_iff_ne]; exact hx
      have hkj : k < j := by
        by_cases e : k = j
        · subst e; exact absurd HJ.out hx
        · omega
      clear hx
      generalize l.getD k 0 = X at *
      go_wp2
      go_round
      case rel => exact ⟨k + 1, by omega, by go_num⟩
      case measure => simp [intOf]; omega
set_option maxRecDepth 100000 in
set_option maxHeartbeats 1000000 in
theorem vWithin_yes (va vb : Value) (l r : List Int) (w : World) (ha : Rd w va (intVs l)) (hb : Rd w vb (intVs r)) (hl : l.length ≤ 1000) (hr : r.length ≤ 1000) (hx : ∀ x ∈ l, x ∈ r) :
    Calls Try.prog 35 #[va, vb] w fun e w' => e = .returned (.bool true) ∧ w' = w := by
  have HB := Lib.hid (fun x (h : x ∈ r) => vHas_yes vb r x w hb hr h)
  obtain ⟨ao, a, oa, ca, rfl, hao, hat⟩ := ha.formR
  have HA := Lib.hid hao
  have HL := Lib.hid hat
  have HX := Lib.hid hx
  clear ha hb hao hat hx
  go_enter Try.func35, Try.ntmps35
  go_wp2
  go_loopw [5] (fun i wr => ∃ k : Nat, k ≤ l.length ∧ i = .int .i64 k ∧ wr = w) (fun i _ => l.length - (intOf i).toNat)
  case atStart => exact ⟨0, Nat.zero_le _, rfl, (by first | rfl | trivial)⟩
  case round =>
    obtain ⟨k, hk, rfl, rfl⟩ := hrel
    by_cases hlt : k < l.length
    · obtain ⟨rfl, hla, hlm⟩ := HA.out (by omega)
      have c0 := HL.out k hlt
      have HC := Lib.hid (HB.out (l.getD k 0) (HX.out _ (at_mem hlt)))
      generalize l.getD k 0 = X at *
      go_wp2_with fail
      refine (HC.out).mono ?_
      rintro e w1 ⟨rfl, hw⟩
      have hw := hw.symm
      subst hw
      go_wp2
      go_roundw
      case rel => exact ⟨k + 1, by omega, by go_num, (by first | rfl | trivial)⟩
      case measure => simp [intOf]; omega
    · obtain rfl : k = l.length := by omega
      go_wp2
      go_ret
      exact ⟨rfl, (by first | rfl | trivial)⟩
end Go.Proofs.Ytoamhbobcpljpaa
