/- SpanAt: the program's and the specification's answer as one function of the line and the place. Condition: sizes. -/
import Derived.Test.YtmmjbdffpgohdaaSpanW
namespace Go.Proofs.Ytmmjbdffpgohdaa
open Go.RowKit
set_option linter.unusedVariables false
theorem ret_ib {k : IntKind} {a b : Int} {p q : Bool} (h : a = b) (g : p = q) : Ending.returned (.tuple #[.int k a, .bool p]) = .returned (.tuple #[.int k b, .bool q]) := by rw [h, g]
noncomputable def onL (l : List Sup) (p : Int) : Bool := isL l && (decide (0 ≤ p) && decide (p ≤ (nth l (l.length - 1)).a))
/-- The span with a place: the first one that ends at it or behind it. -/
def spanN (l : List Sup) (p : Int) : Nat := (List.range (l.length - 1)).findIdx (fun i => decide (p ≤ (nth l (i + 1)).a))
noncomputable def spanOf (l : List Sup) (p : Int) : Int := if onL l p then (spanN l p : Int) else 0
theorem spanN_eq {l : List Sup} {p : Int} {i : Nat} (h : i + 1 < l.length) (h1 : p ≤ (nth l (i + 1)).a) (h2 : ∀ j, j < i → ¬ p ≤ (nth l (j + 1)).a) : spanN l p = i := by
  unfold spanN
  rw [List.findIdx_eq (by simp; omega)]
  refine ⟨by simpa using h1, fun j hj => ?_⟩
  simpa using h2 j hj
theorem onL_iff (l : List Sup) (p : Int) : onL l p = true ↔ IsL l ∧ 0 ≤ p ∧ p ≤ (nth l (l.length - 1)).a := by
  unfold onL; simp [isL_iff]
theorem spanN_lt {l : List Sup} {p : Int} (h2 : 2 ≤ l.length) (h : p ≤ (nth l (l.length - 1)).a) : spanN l p + 1 < l.length := by
  have : spanN l p < (List.range (l.length - 1)).length := by
    unfold spanN
    rw [List.findIdx_lt_length]
    refine ⟨l.length - 2, by simp; omega, ?_⟩
    have e : l.length - 2 + 1 = l.length - 1 := by omega
    simpa [e] using h
  simp at this; omega
theorem spanN_hit {l : List Sup} {p : Int} (h2 : 2 ≤ l.length) (h : p ≤ (nth l (l.length - 1)).a) : p ≤ (nth l (spanN l p + 1)).a := by
  have hlt := spanN_lt h2 h
  have : spanN l p < (List.range (l.length - 1)).length := by simp; omega
  unfold spanN at this ⊢
  have := List.findIdx_getElem (w := this)
  simpa using this
theorem spanN_least {l : List Sup} {p : Int} {j : Nat} (h : j < spanN l p) : (nth l (j + 1)).a < p := by
  unfold spanN at h
  have := List.not_of_lt_findIdx h
  simp at this
  exact this
theorem IsL.mono {l : List Sup} (hl : IsL l) : ∀ (d i : Nat), i + d < l.length → (nth l i).a ≤ (nth l (i + d)).a
  | 0, i, _ => Int.le_refl _
  | d + 1, i, h => by
    have h1 := IsL.mono hl d i (by omega)
    have h2 := hl.asc (i := i + d) (by omega)
    have e : i + (d + 1) = i + d + 1 := by omega
    rw [e]; omega
/-- The place lies behind the start of its span, or at it. -/
theorem spanN_ge {l : List Sup} {p : Int} (hl : IsL l) (h0 : 0 ≤ p) : (nth l (spanN l p)).a ≤ p := by
  cases h : spanN l p with
  | zero => rw [hl.a0]; exact h0
  | succ j => have := spanN_least (l := l) (p := p) (j := j) (by omega); omega
set_option maxHeartbeats 1000000 in
theorem implSpanAt_c (v : Value) (l : List Sup) (p : Int) (w : World) (hr : Rs w v l.length (sups l)) (hn : l.length ≤ 1048576) (hp : (Lit.int .i64 p).wf = true) :
    Calls Try.prog 59 #[v, .int .i64 p] w fun e w' => e = .returned (.tuple #[.int .i64 (spanOf l p), .bool (onL l p)]) ∧ Below w.heap.size w w' := by
  clear hp
  cases hb : isL l with
  | false =>
    have ho : onL l p = false := by simp [onL, hb]
    have hu : spanOf l p = 0 := by simp [spanOf, ho]
    rw [hu, ho]
    have HB := Lib.hid hb
    have HR := Lib.hid hr
    clear hr hb hu ho
    go_enter Try.func59, Try.ntmps59
    go_wp2_with fail
    refine (implIsLine_c v l _ HR.out hn).mono ?_
    rw [HB.out]
    rintro e w1 ⟨rfl, b1⟩
    go_wp2
    go_ret2
    exact ⟨rfl, b1⟩
  | true =>
    have hl := isL_yes hb
    have HB := Lib.hid hb
    have h2 := hl.two
    have h8 := hl.eight
    have HL := Lib.hid hl
    by_cases hneg : p < 0
    · have ho : onL l p = false := by
        cases h : onL l p with
        | false => rfl
        | true => have := ((onL_iff l p).1 h).2.1; omega
      have hu : spanOf l p = 0 := by simp [spanOf, ho]
      rw [hu, ho]
      have HR := Lib.hid hr
      clear hr hb hl hu ho
      go_enter Try.func59, Try.ntmps59
      go_wp2_with fail
      refine (implIsLine_c v l _ HR.out hn).mono ?_
      rw [HB.out]
      rintro e w1 ⟨rfl, b1⟩
      go_wp2
      go_ret2
      exact ⟨rfl, b1⟩
    · obtain ⟨a, oa, ca, rfl, hla, hm, hs⟩ := hr.sup (by omega)
      have HR := Lib.hid hr
      have HA := Lib.hid hs
      have hneg1 : 0 ≤ p := by omega
      have HYes : Hid (∀ i, i + 1 < l.length → p ≤ (nth l (i + 1)).a → (∀ j, j < i → (nth l (j + 1)).a < p) → spanOf l p = (i : Int) ∧ onL l p = true) := Lib.hid (fun i hi h1 h2' => by
        have hmn := hl.mono (l.length - 1 - (i + 1)) (i + 1) (by omega)
        have e : i + 1 + (l.length - 1 - (i + 1)) = l.length - 1 := by omega
        rw [e] at hmn
        have ho : onL l p = true := (onL_iff l p).2 ⟨hl, hneg1, by omega⟩
        exact ⟨by unfold spanOf; rw [if_pos ho, spanN_eq hi h1 (fun j hj => by have := h2' j hj; omega)], ho⟩)
      have HNo : Hid ((∀ j, j < l.length - 1 → (nth l (j + 1)).a < p) → spanOf l p = 0 ∧ onL l p = false) := Lib.hid (fun h => by
        have ho : onL l p = false := by
          cases hx : onL l p with
          | false => rfl
          | true =>
            have h3 := ((onL_iff l p).1 hx).2.2
            have h4 := h (l.length - 2) (by omega)
            have e : l.length - 2 + 1 = l.length - 1 := by omega
            rw [e] at h4
            omega
        exact ⟨by simp [spanOf, ho], ho⟩)
      generalize spanOf l p = SP at *
      generalize onL l p = ON at *
      clear hr hb hl hs
      go_enter Try.func59, Try.ntmps59
      go_wp2_with fail
      refine (implIsLine_c _ l _ HR.out hn).mono ?_
      rw [HB.out]
      rintro e w1 ⟨rfl, b1⟩
      go_wp2
      go_loopw [17] (fun i wr => ∃ k : Nat, k + 1 ≤ l.length ∧ i = .int .i64 k ∧ Below w.heap.size w wr ∧ Hid (∀ j, j < k → (nth l (j + 1)).a < p)) (fun i _ => l.length - (intOf i).toNat)
      case atStart => exact ⟨0, by omega, rfl, b1, Lib.hid (fun j hj => by omega)⟩
      case round =>
        obtain ⟨k, hk, rfl, hbel, HO⟩ := hrel
        by_cases hlt : k + 1 < l.length
        · have hlt' : (k : Int) < (l.length : Int) - 1 := by omega
          obtain ⟨c0, _, _⟩ := (HA.out.below hbel hla) (k + 1) hlt
          by_cases hc : p ≤ (nth l (k + 1)).a
          · have HE := Lib.hid (HYes.out k hlt hc HO.out)
            generalize (nth l (k + 1)).a = B at *
            go_wp2
            go_ret2
            exact ⟨ret_ib HE.out.1.symm HE.out.2.symm, hbel⟩
          · have HO1 : Hid (∀ j, j < k + 1 → (nth l (j + 1)).a < p) := Lib.hid (fun j hj => by
              by_cases e : j = k
              · subst e; omega
              · exact HO.out j (by omega))
            generalize (nth l (k + 1)).a = B at *
            go_wp2
            go_roundw
            case rel => exact ⟨k + 1, by omega, by go_num, hbel, HO1⟩
            case measure => simp [intOf]; omega
        · obtain rfl : k = l.length - 1 := by omega
          have HE := Lib.hid (HNo.out HO.out)
          go_wp2
          go_ret2
          exact ⟨ret_ib HE.out.1.symm HE.out.2.symm, hbel⟩
set_option maxHeartbeats 1000000 in
theorem l2On_c (v : Value) (l : List Sup) (p : Int) (w : World) (hr : Rs w v l.length (sups l)) (hn : l.length ≤ 1048576) :
    Calls Try.prog 98 #[v, .int .i64 p] w fun e w' => e = .returned (.bool (onL l p)) ∧ Drew w w' := by
  cases hb : isL l with
  | false =>
    have ho : onL l p = false := by simp [onL, hb]
    rw [ho]
    have HB := Lib.hid hb
    have HR := Lib.hid hr
    clear hr hb ho
    go_enter Try.func98, Try.ntmps98
    go_wp2_with fail
    refine (l2Line_c v l _ HR.out hn).mono ?_
    rw [HB.out]
    rintro e w1 ⟨rfl, d1⟩
    go_wp2
    go_ret
    exact ⟨rfl, d1⟩
  | true =>
    have hl := isL_yes hb
    have HB := Lib.hid hb
    have h2 := hl.two
    have h8 := hl.eight
    have HO := Lib.hid (onL_iff l p)
    have HL := Lib.hid hl
    obtain ⟨a, oa, ca, rfl, hla, hm, hs⟩ := hr.sup (by omega)
    have HR := Lib.hid hr
    have HA := Lib.hid hs
    clear hr hb hl hs
    obtain ⟨p1, p2, p3⟩ := pred_in l.length (by omega) (by omega)
    have hz1 : l.length - 1 < l.length := by omega
    have hz2 : (l.length : Int) - 1 < (l.length : Int) := by omega
    by_cases hin : 0 ≤ p ∧ p ≤ (nth l (l.length - 1)).a
    · have ho : onL l p = true := HO.out.2 ⟨HL.out, hin⟩
      rw [ho]
      obtain ⟨hin1, hin2⟩ := hin
      clear ho
      go_enter Try.func98, Try.ntmps98
      go_wp2_with fail
      refine (l2Line_c _ l _ HR.out hn).mono ?_
      rw [HB.out]
      rintro e w1 ⟨rfl, d1⟩
      obtain ⟨c0, _, _⟩ := (HA.out.drew d1) (l.length - 1) (by omega)
      generalize (nth l (l.length - 1)).a = B at *
      go_wp2_with fail
      refine (inYes p 0 B _ hin1 hin2).mono ?_
      rintro e w' ⟨rfl, rfl⟩
      go_wp2
      go_ret
      exact ⟨rfl, d1⟩
    · have ho : onL l p = false := by
        cases h : onL l p with
        | false => rfl
        | true => exact absurd (HO.out.1 h).2 hin
      rw [ho]
      have hq : p < 0 ∨ (nth l (l.length - 1)).a < p := by omega
      clear ho hin
      go_enter Try.func98, Try.ntmps98
      go_wp2_with fail
      refine (l2Line_c _ l _ HR.out hn).mono ?_
      rw [HB.out]
      rintro e w1 ⟨rfl, d1⟩
      obtain ⟨c0, _, _⟩ := (HA.out.drew d1) (l.length - 1) (by omega)
      generalize (nth l (l.length - 1)).a = B at *
      go_wp2_with fail
      refine (inNo p 0 B _ hq).mono ?_
      rintro e w' ⟨rfl, rfl⟩
      go_wp2
      go_ret
      exact ⟨rfl, d1⟩
set_option maxHeartbeats 1000000 in
theorem l2Span_c (v : Value) (l : List Sup) (p : Int) (w : World) (hr : Rs w v l.length (sups l)) (ho : onL l p = true) :
    Calls Try.prog 99 #[v, .int .i64 p] w fun e w' => e = .returned (.int .i64 ((spanN l p : Nat) : Int)) ∧ Drew w w' := by
  obtain ⟨hl, h0, h1⟩ := (onL_iff l p).1 ho
  have h2 := hl.two
  have h8 := hl.eight
  have hlt := spanN_lt h2 h1
  have hit := spanN_hit h2 h1
  have HLe : Hid (∀ j, j < spanN l p → (nth l (j + 1)).a < p) := Lib.hid (fun j hj => spanN_least hj)
  obtain ⟨a, oa, ca, rfl, hla, hm, hs⟩ := hr.sup (by omega)
  have HA := Lib.hid hs
  clear hr hs hl ho h1
  generalize hz : spanN l p = z at *
  clear hz
  go_enter Try.func99, Try.ntmps99
  go_wp2
  go_loop [5] (fun i => ∃ k : Nat, k ≤ z ∧ i = .int .i64 k) (fun i => l.length - (intOf i).toNat)
  case atStart => exact ⟨0, by omega, rfl⟩
  case round =>
    obtain ⟨k, hk, rfl⟩ := hrel
    obtain ⟨c0, _, _⟩ := HA.out (k + 1) (by omega)
    have hi1 : k + 1 < l.length := by omega
    by_cases hlt1 : k < z
    · have hx := HLe.out k hlt1
      clear hit
      generalize (nth l (k + 1)).a = B at *
      go_wp2
      go_round
      case rel => exact ⟨k + 1, by omega, by go_num⟩
      case measure => simp [intOf]; omega
    · obtain rfl : k = z := by omega
      generalize (nth l (k + 1)).a = B at *
      go_wp2
      go_ret
      exact ⟨rfl, Drew.refl _⟩
end Go.Proofs.Ytmmjbdffpgohdaa
