/- The laws' helpers. Condition: sizes. -/
import Derived.Test.YtpknodbkjjcdjaaDoorTikS
import Derived.Test.YtpknodbkjjcdjaaDoorIntS
import Derived.Test.YtpknodbkjjcdjaaDoorIntC
namespace Go.Proofs.YtpknodbkjjcdjaaDoor
open Go.RowKit
set_option linter.unusedVariables false
set_option linter.unusedVariables false
set_option maxHeartbeats 400000 in
theorem rBig_yes (a : Option Addr) (len cap : Nat) (w : World) (h : 65536 < len) (hm : len ≤ 9223372036854775807) :
    Calls Tryd.prog 15 #[.slice a len cap] w fun e w' => e = .returned (.bool true) ∧ w = w' := by
  have h1 : (65536 : Int) < (len : Int) := by omega
  go_enter Tryd.func15, Tryd.ntmps15
  go_wp2
  go_ret
  exact ⟨rfl, rfl⟩
set_option maxHeartbeats 400000 in
theorem rBig_no (a : Option Addr) (len cap : Nat) (w : World) (h : len ≤ 65536) :
    Calls Tryd.prog 15 #[.slice a len cap] w fun e w' => e = .returned (.bool false) ∧ w = w' := by
  have h1 : decide ((65536 : Int) < (len : Int)) = false := by simp; omega
  go_enter Tryd.func15, Tryd.ntmps15
  go_wp2
  go_ret
  exact ⟨rfl, rfl⟩
set_option maxRecDepth 100000 in
set_option maxHeartbeats 2000000 in
theorem rTickets_same (va vb : Value) (l : List Tik) (w : World) (ha : Rs w va l.length (tiks l)) (hb : Rs w vb l.length (tiks l)) :
    Calls Tryd.prog 19 #[va, vb] w fun e w' => e = .returned (.bool true) ∧ Below w.heap.size w w' := by
  by_cases h0 : l.length = 0
  · obtain rfl := List.eq_nil_of_length_eq_zero h0
    obtain ⟨a, ca, rfl⟩ := ha.zero
    obtain ⟨b, cb, rfl⟩ := hb.zero
    clear ha hb h0
    go_enter Tryd.func19, Tryd.ntmps19
    go_wp2
    refine wp_loop_rounds 1 ?_
    rw [rounds_succ]
    go_wp2
    go_ret
    exact ⟨rfl, Below.refl _ _⟩
  · obtain ⟨a, oa, ca, rfl, hla, hcap, hm, hca⟩ := ha.pos h0
    obtain ⟨b, ob, cb, rfl, hlb, _, _, hcb⟩ := hb.pos h0
    unfold maxLen at hm
    have HA := Lib.hid hca
    have HB := Lib.hid hcb
    clear hca hcb ha hb h0
    go_enter Tryd.func19, Tryd.ntmps19
    go_wp2
    go_loopw [5] (fun i wr => ∃ k : Nat, k ≤ l.length ∧ i = .int .i64 k ∧ Below w.heap.size w wr) (fun i _ => l.length - (intOf i).toNat)
    case atStart => exact ⟨0, Nat.zero_le _, rfl, Below.refl _ _⟩
    case round =>
      obtain ⟨k, hk, rfl, hb⟩ := hrel
      by_cases hlt : k < l.length
      · obtain ⟨e0, e1, e2, e3, e4⟩ := tiks_at l k hlt
        have c0 : wr.cell? ⟨a, oa + k * 5, none⟩ = some (.int .i64 (gth l k).i) := (hb.cell (p := ⟨a, oa + k * 5, none⟩) hla).trans (HA.out _ _ e0)
        have c1 : wr.cell? ⟨a, oa + k * 5 + 1, none⟩ = some (.int .i64 (gth l k).s) := (hb.cell (p := ⟨a, oa + k * 5 + 1, none⟩) hla).trans (HA.out _ _ e1)
        have c2 : wr.cell? ⟨a, oa + k * 5 + 2, none⟩ = some (.int .i64 (gth l k).w) := (hb.cell (p := ⟨a, oa + k * 5 + 2, none⟩) hla).trans (HA.out _ _ e2)
        have c3 : wr.cell? ⟨a, oa + k * 5 + 3, none⟩ = some (.int .i64 (gth l k).g) := (hb.cell (p := ⟨a, oa + k * 5 + 3, none⟩) hla).trans (HA.out _ _ e3)
        have c4 : wr.cell? ⟨a, oa + k * 5 + 4, none⟩ = some (.int .i64 (gth l k).p) := (hb.cell (p := ⟨a, oa + k * 5 + 4, none⟩) hla).trans (HA.out _ _ e4)
        have d0 : wr.cell? ⟨b, ob + k * 5, none⟩ = some (.int .i64 (gth l k).i) := (hb.cell (p := ⟨b, ob + k * 5, none⟩) hlb).trans (HB.out _ _ e0)
        have d1 : wr.cell? ⟨b, ob + k * 5 + 1, none⟩ = some (.int .i64 (gth l k).s) := (hb.cell (p := ⟨b, ob + k * 5 + 1, none⟩) hlb).trans (HB.out _ _ e1)
        have d2 : wr.cell? ⟨b, ob + k * 5 + 2, none⟩ = some (.int .i64 (gth l k).w) := (hb.cell (p := ⟨b, ob + k * 5 + 2, none⟩) hlb).trans (HB.out _ _ e2)
        have d3 : wr.cell? ⟨b, ob + k * 5 + 3, none⟩ = some (.int .i64 (gth l k).g) := (hb.cell (p := ⟨b, ob + k * 5 + 3, none⟩) hlb).trans (HB.out _ _ e3)
        have d4 : wr.cell? ⟨b, ob + k * 5 + 4, none⟩ = some (.int .i64 (gth l k).p) := (hb.cell (p := ⟨b, ob + k * 5 + 4, none⟩) hlb).trans (HB.out _ _ e4)
        have p1 : IntKind.i64.wrap ((k : Int) + 1) = (k : Int) + 1 := IntWalk.i64_in _ (by omega)
        clear e0 e1 e2 e3 e4
        go_wp2_with fail
        go_region
        go_wp2
        go_roundw
        case rel => exact ⟨k + 1, by omega, by go_num, hb.drew⟩
        case measure => simp [intOf]; omega
      · go_wp2
        go_ret
        exact ⟨rfl, hb⟩
set_option linter.unusedVariables false
set_option maxHeartbeats 400000 in
theorem rInts_same (va vb : Value) (l : List Int) (w : World) (ha : Rd w va (intVs l)) (hb : Rd w vb (intVs l)) :
    Calls Tryd.prog 30 #[va, vb] w fun e w' => e = .returned (.bool true) ∧ Drew w w' := by
  by_cases h0 : l = []
  · subst h0
    obtain ⟨a, ca, rfl⟩ := ha.iv0
    obtain ⟨b, cb, rfl⟩ := hb.iv0
    clear ha hb
    go_enter Tryd.func30, Tryd.ntmps30
    go_wp2
    refine wp_loop_rounds 1 ?_
    rw [rounds_succ]
    go_wp2
    go_ret
    exact ⟨rfl, Drew.refl _⟩
  · obtain ⟨a, oa, ca, rfl, hla, hm, hca⟩ := ha.iv h0
    obtain ⟨b, ob, cb, rfl, hlb, _, hcb⟩ := hb.iv h0
    unfold maxLen at hm
    have HA := Lib.hid hca
    have HB := Lib.hid hcb
    clear hca hcb ha hb
    go_enter Tryd.func30, Tryd.ntmps30
    go_wp2
    go_loopw [5] (fun i wr => ∃ k m : Nat, k ≤ l.length ∧ i = .int .i64 k ∧ wr = w.drewN m) (fun i _ => l.length - (intOf i).toNat)
    case atStart => exact ⟨0, 0, Nat.zero_le _, rfl, rfl⟩
    case round =>
      obtain ⟨k, m, hk, rfl, rfl⟩ := hrel
      by_cases hlt : k < l.length
      · have c1 : w.cell? ⟨a, oa + k, none⟩ = some (.int .i64 (l.getD k 0)) := HA.out k hlt
        have c2 : w.cell? ⟨b, ob + k, none⟩ = some (.int .i64 (l.getD k 0)) := HB.out k hlt
        generalize l.getD k 0 = x at c1 c2
        go_wp2
        go_quiet (fail)
        go_wp2
        go_roundw
        case rel => exact ⟨k + 1, m + nq, by omega, by go_num, rfl⟩
        case measure => simp [intOf]; omega
      · go_wp2
        go_ret
        exact ⟨rfl, m, rfl⟩
theorem rInts_c (va vb : Value) (l : List Int) (w : World) (ha : Rd w va (intVs l)) (hb : Rd w vb (intVs l)) :
    Calls Tryd.prog 30 #[va, vb] w fun e w' => e = .returned (.bool true) ∧ Below w.heap.size w w' := (rInts_same va vb l w ha hb).mono fun _ _ h => ⟨h.1, h.2.below _⟩
theorem ret_b0 {a b : Bool} (h : a = b) : Ending.returned (.bool a) = .returned (.bool b) := by rw [h]
set_option maxHeartbeats 1000000 in
theorem rHas_b (v : Value) (l : List Int) (x : Int) (b : Bool) (w : World) (hr : Rd w v (intVs l)) (hn : l.length ≤ 16) (hx : b = true ↔ x ∈ l) :
    Calls Tryd.prog 26 #[v, .int .i64 x] w fun e w' => e = .returned (.bool b) ∧ Below w.heap.size w w' := by
  by_cases h0 : l = []
  · subst h0
    obtain ⟨a, ca, rfl⟩ := hr.iv0
    have hbf : b = false := by cases b; rfl; simp at hx
    subst hbf
    clear hr hx
    go_enter Tryd.func26, Tryd.ntmps26
    go_wp2
    refine wp_loop_rounds 1 ?_
    rw [rounds_succ]
    go_wp2
    go_ret
    exact ⟨rfl, Below.refl _ _⟩
  · obtain ⟨a, oa, ca, rfl, hla, hm, hca⟩ := hr.iv h0
    have HA := Lib.hid hca
    have HX := Lib.hid hx
    have HM : Hid (∀ k, k < l.length → l.getD k 0 = x → x ∈ l) := Lib.hid (fun k hk e => by rw [← e]; simp [List.getD, hk])
    have HE : Hid ((∀ k, k < l.length → l.getD k 0 ≠ x) → x ∉ l) := Lib.hid (fun h g => by
      obtain ⟨i, hi, e⟩ := List.getElem_of_mem g
      exact h i hi (by simp [List.getD, hi, e]))
    clear hca hr h0 hx
    go_enter Tryd.func26, Tryd.ntmps26
    go_wp2
    go_loop [5] (fun i => ∃ k : Nat, k ≤ l.length ∧ i = .int .i64 k ∧ Hid (∀ j, j < k → l.getD j 0 ≠ x)) (fun i => l.length - (intOf i).toNat)
    case atStart => exact ⟨0, Nat.zero_le _, rfl, Lib.hid (fun j h => by omega)⟩
    case round =>
      obtain ⟨k, hk, rfl, HN⟩ := hrel
      by_cases hlt : k < l.length
      · have c1 : w.cell? ⟨a, oa + k, none⟩ = some (.int .i64 (l.getD k 0)) := HA.out k hlt
        have HK := Lib.hid (HM.out k hlt)
        have HS : Hid (l.getD k 0 ≠ x → ∀ j, j < k + 1 → l.getD j 0 ≠ x) := Lib.hid (fun h j hj => by
          by_cases e : j = k
          · subst e; exact h
          · exact HN.out j (by omega))
        generalize l.getD k 0 = X at *
        by_cases hx : X = x
        · have t1 : (X == x) = true := by simpa using hx
          have HB : Hid (true = b) := Lib.hid ((HX.out.2 (HK.out hx)).symm)
          clear hx
          go_wp2
          go_ret
          exact ⟨ret_b0 HB.out, Below.refl _ _⟩
        · have t1 : (X == x) = false := by simpa using hx
          have HT := Lib.hid (HS.out hx)
          clear hx
          go_wp2
          go_round
          case rel => exact ⟨k + 1, by omega, by go_num, HT⟩
          case measure => simp [intOf]; omega
      · obtain rfl : k = l.length := by omega
        have HB : Hid (false = b) := Lib.hid (by
          have := HE.out HN.out
          cases b
          · rfl
          · exact absurd (HX.out.1 rfl) this)
        go_wp2
        go_ret
        exact ⟨ret_b0 HB.out, Below.refl _ _⟩
end Go.Proofs.YtpknodbkjjcdjaaDoor
