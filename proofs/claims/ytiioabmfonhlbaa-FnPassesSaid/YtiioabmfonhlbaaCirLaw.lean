/- What FnPasses says, in numbers; and its comparison of rows. Condition: sizes. -/
import Derived.Test.YtiioabmfonhlbaaCirF
import Derived.Test.YtiioabmfonhlbaaCirN
import Derived.Test.YtiioabmfonhlbaaCirQ
import Derived.Test.YtiioabmfonhlbaaCirT
import Derived.Test.YtiioabmfonhlbaaBig
import Derived.Test.YtiioabmfonhlbaaDrawCirs
namespace Go.Proofs.Ytiioabmfonhlbaa
open Go.RowKit
set_option linter.unusedVariables false
set_option maxHeartbeats 400000 in
theorem vInts_same (va vb : Value) (l : List Int) (w : World) (ha : Rd w va (intVs l)) (hb : Rd w vb (intVs l)) :
    Calls Try.prog 24 #[va, vb] w fun e w' => e = .returned (.bool true) ∧ Drew w w' := by
  by_cases h0 : l = []
  · subst h0
    obtain ⟨a, ca, rfl⟩ := ha.iv0
    obtain ⟨b, cb, rfl⟩ := hb.iv0
    clear ha hb
    go_enter Try.func24, Try.ntmps24
    go_wp2
    refine wp_loop_rounds 1 ?_
    rw [rounds_succ]
    go_wp2
    go_ret
    exact ⟨rfl, Drew.refl _⟩
  · obtain ⟨a, oa, ca, rfl, hla, hm, hca⟩ := ha.iv h0
    obtain ⟨b, ob, cb, rfl, hlb, _, hcb⟩ := hb.iv h0
    unfold maxLen at hm
    have HA := Lib.hid hca
    have HB := Lib.hid hcb
    clear hca hcb ha hb
    go_enter Try.func24, Try.ntmps24
    go_wp2
    go_loopw [5] (fun i wr => ∃ k m : Nat, k ≤ l.length ∧ i = .int .i64 k ∧ wr = w.drewN m) (fun i _ => l.length - (intOf i).toNat)
    case atStart => exact ⟨0, 0, Nat.zero_le _, rfl, rfl⟩
    case round =>
      obtain ⟨k, m, hk, rfl, rfl⟩ := hrel
      by_cases hlt : k < l.length
      · have c1 : w.cell? ⟨a, oa + k, none⟩ = some (.int .i64 (l.getD k 0)) := HA.out k hlt
        have c2 : w.cell? ⟨b, ob + k, none⟩ = some (.int .i64 (l.getD k 0)) := HB.out k hlt
        generalize l.getD k 0 = x at c1 c2
        go_wp2
        go_quiet (fail)
        go_wp2
        go_roundw
        case rel => exact ⟨k + 1, m + nq, by omega, by go_num, rfl⟩
        case measure => simp [intOf]; omega
      · go_wp2
        go_ret
        exact ⟨rfl, m, rfl⟩
theorem vInts_c (va vb : Value) (l : List Int) (w : World) (ha : Rd w va (intVs l)) (hb : Rd w vb (intVs l)) :
    Calls Try.prog 24 #[va, vb] w fun e w' => e = .returned (.bool true) ∧ Below w.heap.size w w' := (vInts_same va vb l w ha hb).mono fun _ _ h => ⟨h.1, h.2.below _⟩
/-- the next pass is at or behind the time, and is one pass more -/
theorem np_pass {L S : Int} {l : List Int} {p T : Int} (h : npOk L S l p T = true) :
    T ≤ npS L S l p T ∧ (cpOk L S l p (npS L S l p T) = true → pbR L S l p T ≤ pbR L S l p (npS L S l p T) ∧ 0 < pbR L S l p (npS L S l p T)) ∧ cpOk L S l p T = true := by
  have h' := h
  unfold npOk at h'
  rw [Bool.and_eq_true, decide_eq_true_iff] at h'
  obtain ⟨hc, h0⟩ := h'
  have hc' := hc
  unfold cpOk at hc'
  rw [Bool.and_eq_true] at hc'
  obtain ⟨hL, hS, _, _⟩ := cirV_parts hc'.1
  have hb := amin_le (nf8 L S l p T) (l.length - 1)
  obtain ⟨h1, h2, h3⟩ := pass_law (L := L) (S := S) (p := p) (T := T) (s := l) (by omega) (by omega) h0 (nf8 L S l p T (amin (nf8 L S l p T) (l.length - 1))) ⟨_, by omega, rfl⟩
  rw [← (np_yes h).2] at h1 h2 h3
  refine ⟨h1, fun hc2 => ?_, hc⟩
  rw [pb_yes hc, pb_yes hc2]
  exact ⟨h2, h3⟩
/-- the ways from a cabin to the next one are the gaps -/
theorem pl_gap {L S T : Int} {l : List Int} (h : plOk L S l T = true) (h1 : 1 < l.length) {i : Nat} (hi : i < l.length) :
    ((plR L S l T).getD ((i + 1) % l.length) 0 - (plR L S l T).getD i 0 + 10 * L) % (10 * L) = 10 * (gpR L S l).getD i 0 := by
  have h' := h
  unfold plOk at h'
  rw [Bool.and_eq_true] at h'
  obtain ⟨hL, hS, hri, h12⟩ := cirV_parts h'.1
  rw [pl_yes h, gp_yes h'.1]
  rw [placesTo_at (Nat.mod_lt _ (by omega)), placesTo_at hi]
  unfold gapsL
  rw [gapsTo_at hi]
  exact places_gap (by omega) hri h1 hi
end Go.Proofs.Ytiioabmfonhlbaa
