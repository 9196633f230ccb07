/- The laws' helpers of chapter 3. No condition. -/
import Derived.Test.YteglekfiannncaaDmgS
namespace Go.Proofs.Yteglekfiannncaa
open Go.RowKit
set_option linter.unusedVariables false
set_option maxHeartbeats 400000 in
theorem rBig_yes (a : Option Addr) (len cap : Nat) (w : World) (h : 65536 < len) (hm : len ≤ 9223372036854775807) :
    Calls Try.prog 28 #[.slice a len cap] w fun e w' => e = .returned (.bool true) ∧ w = w' := by
  have h1 : (65536 : Int) < (len : Int) := by omega
  go_enter Try.func28, Try.ntmps28
  go_wp2
  go_ret
  exact ⟨rfl, rfl⟩
set_option maxHeartbeats 400000 in
theorem rBig_no (a : Option Addr) (len cap : Nat) (w : World) (h : len ≤ 65536) :
    Calls Try.prog 28 #[.slice a len cap] w fun e w' => e = .returned (.bool false) ∧ w = w' := by
  have h1 : decide ((65536 : Int) < (len : Int)) = false := by simp; omega
  go_enter Try.func28, Try.ntmps28
  go_wp2
  go_ret
  exact ⟨rfl, rfl⟩
set_option maxRecDepth 100000 in
set_option maxHeartbeats 2000000 in
theorem rDamages_same (va vb : Value) (l : List Dmg) (w : World) (ha : Rs w va l.length (dmgs l)) (hb : Rs w vb l.length (dmgs l)) :
    Calls Try.prog 46 #[va, vb] w fun e w' => e = .returned (.bool true) ∧ Below w.heap.size w w' := by
  by_cases h0 : l.length = 0
  · obtain rfl := List.eq_nil_of_length_eq_zero h0
    obtain ⟨a, ca, rfl⟩ := ha.zero
    obtain ⟨b, cb, rfl⟩ := hb.zero
    clear ha hb h0
    go_enter Try.func46, Try.ntmps46
    go_wp2
    refine wp_loop_rounds 1 ?_
    rw [rounds_succ]
    go_wp2
    go_ret
    exact ⟨rfl, Below.refl _ _⟩
  · obtain ⟨a, oa, ca, rfl, hla, hcap, hm, hca⟩ := ha.pos h0
    obtain ⟨b, ob, cb, rfl, hlb, _, _, hcb⟩ := hb.pos h0
    unfold maxLen at hm
    have HA := Lib.hid hca
    have HB := Lib.hid hcb
    clear hca hcb ha hb h0
    go_enter Try.func46, Try.ntmps46
    go_wp2
    go_loopw [5] (fun i wr => ∃ k : Nat, k ≤ l.length ∧ i = .int .i64 k ∧ Below w.heap.size w wr) (fun i _ => l.length - (intOf i).toNat)
    case atStart => exact ⟨0, Nat.zero_le _, rfl, Below.refl _ _⟩
    case round =>
      obtain ⟨k, hk, rfl, hb⟩ := hrel
      by_cases hlt : k < l.length
      · obtain ⟨e0, e1, e2⟩ := dmgs_at l k hlt
        have c0 : wr.cell? ⟨a, oa + k * 3, none⟩ = some (.int .i64 (gth l k).a) := (hb.cell (p := ⟨a, oa + k * 3, none⟩) hla).trans (HA.out _ _ e0)
        have c1 : wr.cell? ⟨a, oa + k * 3 + 1, none⟩ = some (.int .i64 (gth l k).s) := (hb.cell (p := ⟨a, oa + k * 3 + 1, none⟩) hla).trans (HA.out _ _ e1)
        have c2 : wr.cell? ⟨a, oa + k * 3 + 2, none⟩ = some (.int .i64 (gth l k).w) := (hb.cell (p := ⟨a, oa + k * 3 + 2, none⟩) hla).trans (HA.out _ _ e2)
        have d0 : wr.cell? ⟨b, ob + k * 3, none⟩ = some (.int .i64 (gth l k).a) := (hb.cell (p := ⟨b, ob + k * 3, none⟩) hlb).trans (HB.out _ _ e0)
        have d1 : wr.cell? ⟨b, ob + k * 3 + 1, none⟩ = some (.int .i64 (gth l k).s) := (hb.cell (p := ⟨b, ob + k * 3 + 1, none⟩) hlb).trans (HB.out _ _ e1)
        have d2 : wr.cell? ⟨b, ob + k * 3 + 2, none⟩ = some (.int .i64 (gth l k).w) := (hb.cell (p := ⟨b, ob + k * 3 + 2, none⟩) hlb).trans (HB.out _ _ e2)
        have p1 : IntKind.i64.wrap ((k : Int) + 1) = (k : Int) + 1 := IntWalk.i64_in _ (by omega)
        clear e0 e1 e2
        go_wp2_with fail
        go_region
        go_wp2
        go_roundw
        case rel => exact ⟨k + 1, by omega, by go_num, hb.drew⟩
        case measure => simp [intOf]; omega
      · go_wp2
        go_ret
        exact ⟨rfl, hb⟩
end Go.Proofs.Yteglekfiannncaa
