/- Queues with groups: which are valid, and which fit into cabins. Condition: sizes. -/
import Derived.Test.YtkjdkfoeolcnkaaQuV
import Derived.Test.YtkjdkfoeolcnkaaAft
namespace Go.Proofs.Ytkjdkfoeolcnkaa
open Go.RowKit
set_option linter.unusedVariables false
theorem ret_i13 {a b : Int} (h : a = b) : Ending.returned (.int .i64 a) = .returned (.int .i64 b) := by rw [h]
/-- The first place at which q holds, or -1. -/
def fi13 (q : Gro → Bool) (l : List Gro) : Int := if l.any q then (l.findIdx q : Int) else -1
theorem fi13_hit {q : Gro → Bool} {l : List Gro} {k : Nat} (hk : k < l.length) (h0 : ∀ j, j < k → q (gth l j) = false) (h : q (gth l k) = true) : fi13 q l = k := by
  have e : l.findIdx q = k := by
    refine (List.findIdx_eq hk).2 ⟨by rw [← gth_get hk]; exact h, fun j hj => ?_⟩
    have := h0 j hj
    rwa [gth_get (by omega)] at this
  have ha : l.any q = true := List.any_eq_true.2 ⟨gth l k, gth_mem hk, h⟩
  unfold fi13
  rw [if_pos ha, e]
theorem fi13_none {q : Gro → Bool} {l : List Gro} (h0 : ∀ j, j < l.length → q (gth l j) = false) : fi13 q l = -1 := by
  have ha : ¬ l.any q = true := by
    intro h
    obtain ⟨x, hx, hq⟩ := List.any_eq_true.1 h
    obtain ⟨i, hi, rfl⟩ := List.getElem_of_mem hx
    have := h0 i hi
    rw [gth_get hi, hq] at this
    cases this
  unfold fi13
  rw [if_neg ha]
theorem fi13_any (q : Gro → Bool) (l : List Gro) : decide (0 ≤ fi13 q l) = l.any q := by
  unfold fi13
  cases h : l.any q with
  | true => simp
  | false => simp
theorem any_not13 (l : List Gro) (f : Gro → Bool) : (!(l.any fun x => !f x)) = l.all f := by
  induction l with
  | nil => rfl
  | cons x l ih => simp only [List.any_cons, List.all_cons, Bool.not_or, Bool.not_not, ih]
set_option maxHeartbeats 1000000 in
theorem cloA13_c (x : Gro) (w : World) :
    Calls Try.prog 70 #[.agg #[.int .i64 x.z, .bool x.q]] w fun e w' => e = .returned (.bool (!inR x.z 1 8)) ∧ Below w.heap.size w w' := by
  have E0 := Lib.hid (fun W => within_c x.z 1 8 W)
  go_enter Try.func70, Try.ntmps70
  go_wp2_with fail
  refine (E0.out _).mono ?_
  rintro e w1 ⟨rfl, rfl⟩
  go_wp2
  go_ret
  exact ⟨rfl, (Below.refl _ _).alloc (Nat.le_refl _) _⟩
set_option maxHeartbeats 1000000 in
theorem cloB13_c (x : Gro) (s : Int) (P : Nat) (w : World) (hP : w.cell? ⟨P, 0, none⟩ = some (.int .i64 s)) (hl : P < w.heap.size) :
    Calls Try.prog 84 #[.agg #[.int .i64 x.z, .bool x.q], .pointer (some ⟨P, 0, none⟩)] w fun e w' => e = .returned (.bool (decide (s < x.z))) ∧ Below w.heap.size w w' := by
  have hne : P ≠ w.heap.size := by omega
  go_enter Try.func84, Try.ntmps84
  go_wp2
  go_ret
  exact ⟨rfl, (Below.refl _ _).alloc (Nat.le_refl _) _⟩
set_option maxRecDepth 100000 in
set_option maxHeartbeats 2000000 in
theorem idxA13_c (v : Value) (l : List Gro) (w : World) (hr : Rs w v l.length (gros l)) (hn : l.length ≤ 1048576) :
    Calls Try.prog 90 #[v, .func (.func 70) #[] #[]] w fun e w' => e = .returned (.int .i64 (fi13 (fun x => !inR x.z 1 8) l)) ∧ Below w.heap.size w w' := by
  obtain ⟨ao, a, oa, ca, rfl, hao, hat⟩ := hr.form_Gro
  have HA := Lib.hid hao
  have HL := Lib.hid hat
  clear hr hao hat
  go_enter Try.func90, Try.ntmps90
  go_wp2
  go_loopw [8] (fun i wr => ∃ k : Nat, k ≤ l.length ∧ i = .int .i64 k ∧ Hid (Below w.heap.size w wr) ∧ Hid (∀ j, j < k → (!inR (gth l j).z 1 8) = false)) (fun i _ => l.length - (intOf i).toNat)
  case atStart => exact ⟨0, by omega, rfl, Lib.hid (Below.refl _ _), Lib.hid (fun j h => by omega)⟩
  case round =>
    obtain ⟨k, hk, rfl, hbel, hno⟩ := hrel
    by_cases hlt : k < l.length
    · obtain ⟨rfl, hla, hlm⟩ := HA.out (by omega)
      obtain ⟨c0, c1⟩ := (HL.out.below hbel.out hla) k hlt
      have HIS := Lib.hid (fun h : (!inR (gth l k).z 1 8) = true => fi13_hit (q := fun x => !inR x.z 1 8) hlt hno.out h)
      have HNO : Hid ((!inR (gth l k).z 1 8) = false → ∀ j, j < k + 1 → (!inR (gth l j).z 1 8) = false) := Lib.hid (fun h j hj => by
        by_cases e : j = k
        · subst e; exact h
        · exact hno.out j (by omega))
      have HC := Lib.hid (cloA13_c (gth l k) wr)
      generalize gth l k = D at *
      generalize (!inR D.z 1 8) = b at *
      go_wp2_with fail
      refine (HC.out).mono ?_
      rintro e w1 ⟨rfl, b1⟩
      have HB := Lib.hid (hbel.out.trans (b1.mono hbel.out.size))
      clear b1 c0 c1
      cases b with
      | true =>
        have HX := Lib.hid (HIS.out rfl).symm
        go_wp2
        go_ret
        exact ⟨ret_i13 HX.out, HB.out⟩
      | false =>
        have HN2 := Lib.hid (HNO.out rfl)
        go_wp2
        go_roundw
        case rel => exact ⟨k + 1, by omega, by go_num, HB, HN2⟩
        case measure => simp [intOf]; omega
    · obtain rfl : k = l.length := by omega
      have HX : Hid (-1 = fi13 (fun x => !inR x.z 1 8) l) := Lib.hid (fi13_none hno.out).symm
      go_wp2
      go_ret
      exact ⟨ret_i13 HX.out, hbel.out⟩
set_option maxRecDepth 100000 in
set_option maxHeartbeats 2000000 in
theorem hasA13_c (v : Value) (l : List Gro) (w : World) (hr : Rs w v l.length (gros l)) (hn : l.length ≤ 1048576) :
    Calls Try.prog 72 #[v, .func (.func 70) #[] #[]] w fun e w' => e = .returned (.bool (l.any (fun x => !inR x.z 1 8))) ∧ Below w.heap.size w w' := by
  have E0 := Lib.hid (idxA13_c v l w hr hn)
  have HX := Lib.hid (fi13_any (fun x => !inR x.z 1 8) l)
  clear hr
  generalize fi13 (fun x => !inR x.z 1 8) l = F at *
  go_enter Try.func72, Try.ntmps72
  go_wp2_with fail
  refine (E0.out).mono ?_
  rintro e w1 ⟨rfl, b1⟩
  go_wp2
  go_ret
  exact ⟨ret_b HX.out, b1⟩
set_option maxRecDepth 100000 in
set_option maxHeartbeats 2000000 in
theorem idxB13_c (v : Value) (l : List Gro) (s : Int) (P : Nat) (w : World) (hr : Rs w v l.length (gros l)) (hn : l.length ≤ 1048576) (hP : w.cell? ⟨P, 0, none⟩ = some (.int .i64 s)) (hl : P < w.heap.size) :
    Calls Try.prog 90 #[v, .func (.func 84) #[] #[.pointer (some ⟨P, 0, none⟩)]] w fun e w' => e = .returned (.int .i64 (fi13 (fun x => decide (s < x.z)) l)) ∧ Below w.heap.size w w' := by
  obtain ⟨ao, a, oa, ca, rfl, hao, hat⟩ := hr.form_Gro
  have HA := Lib.hid hao
  have HL := Lib.hid hat
  clear hr hao hat
  have HP := Lib.hid hP
  clear hP
  go_enter Try.func90, Try.ntmps90
  go_wp2
  go_loopw [8] (fun i wr => ∃ k : Nat, k ≤ l.length ∧ i = .int .i64 k ∧ Hid (Below w.heap.size w wr) ∧ Hid (∀ j, j < k → (decide (s < (gth l j).z)) = false)) (fun i _ => l.length - (intOf i).toNat)
  case atStart => exact ⟨0, by omega, rfl, Lib.hid (Below.refl _ _), Lib.hid (fun j h => by omega)⟩
  case round =>
    obtain ⟨k, hk, rfl, hbel, hno⟩ := hrel
    by_cases hlt : k < l.length
    · obtain ⟨rfl, hla, hlm⟩ := HA.out (by omega)
      obtain ⟨c0, c1⟩ := (HL.out.below hbel.out hla) k hlt
      have HIS := Lib.hid (fun h : (decide (s < (gth l k).z)) = true => fi13_hit (q := fun x => decide (s < x.z)) hlt hno.out h)
      have HNO : Hid ((decide (s < (gth l k).z)) = false → ∀ j, j < k + 1 → (decide (s < (gth l j).z)) = false) := Lib.hid (fun h j hj => by
        by_cases e : j = k
        · subst e; exact h
        · exact hno.out j (by omega))
      have HPW : Hid (wr.cell? ⟨P, 0, none⟩ = some (.int .i64 s)) := Lib.hid ((hbel.out.cell (p := ⟨P, 0, none⟩) hl).trans HP.out)
      have hlw : P < wr.heap.size := by have := hbel.out.size; omega
      have HC := Lib.hid (cloB13_c (gth l k) s P wr HPW.out hlw)
      generalize gth l k = D at *
      generalize (decide (s < D.z)) = b at *
      go_wp2_with fail
      refine (HC.out).mono ?_
      rintro e w1 ⟨rfl, b1⟩
      have HB := Lib.hid (hbel.out.trans (b1.mono hbel.out.size))
      clear b1 c0 c1
      cases b with
      | true =>
        have HX := Lib.hid (HIS.out rfl).symm
        go_wp2
        go_ret
        exact ⟨ret_i13 HX.out, HB.out⟩
      | false =>
        have HN2 := Lib.hid (HNO.out rfl)
        go_wp2
        go_roundw
        case rel => exact ⟨k + 1, by omega, by go_num, HB, HN2⟩
        case measure => simp [intOf]; omega
    · obtain rfl : k = l.length := by omega
      have HX : Hid (-1 = fi13 (fun x => decide (s < x.z)) l) := Lib.hid (fi13_none hno.out).symm
      go_wp2
      go_ret
      exact ⟨ret_i13 HX.out, hbel.out⟩
set_option maxRecDepth 100000 in
set_option maxHeartbeats 2000000 in
theorem hasB13_c (v : Value) (l : List Gro) (s : Int) (P : Nat) (w : World) (hr : Rs w v l.length (gros l)) (hn : l.length ≤ 1048576) (hP : w.cell? ⟨P, 0, none⟩ = some (.int .i64 s)) (hl : P < w.heap.size) :
    Calls Try.prog 72 #[v, .func (.func 84) #[] #[.pointer (some ⟨P, 0, none⟩)]] w fun e w' => e = .returned (.bool (l.any (fun x => decide (s < x.z)))) ∧ Below w.heap.size w w' := by
  have E0 := Lib.hid (idxB13_c v l s P w hr hn hP hl)
  have HX := Lib.hid (fi13_any (fun x => decide (s < x.z)) l)
  clear hr hP
  generalize fi13 (fun x => decide (s < x.z)) l = F at *
  go_enter Try.func72, Try.ntmps72
  go_wp2_with fail
  refine (E0.out).mono ?_
  rintro e w1 ⟨rfl, b1⟩
  go_wp2
  go_ret
  exact ⟨ret_b HX.out, b1⟩
set_option maxRecDepth 100000 in
set_option maxHeartbeats 2000000 in
theorem implIsQueue_c (v : Value) (l : List Gro) (w : World) (hr : Rs w v l.length (gros l)) (hn : l.length ≤ 1048576) :
    Calls Try.prog 34 #[v] w fun e w' => e = .returned (.bool (isQ l)) ∧ Below w.heap.size w w' := by
  have E0 := Lib.hid (hasA13_c v l w hr hn)
  obtain ⟨a, ca, rfl⟩ := hr.shape
  clear hr
  by_cases h : l.length ≤ 12
  · have HX : Hid ((!(l.any fun x => !inR x.z 1 8)) = isQ l) := Lib.hid (by rw [any_not13 l fun x => inR x.z 1 8]; unfold isQ; rw [decide_eq_true h]; rfl)
    generalize (l.any fun x => !inR x.z 1 8) = b at *
    go_enter Try.func34, Try.ntmps34
    go_wp2_with fail
    refine (E0.out).mono ?_
    rintro e w1 ⟨rfl, b1⟩
    go_wp2
    go_ret
    exact ⟨ret_b HX.out, b1⟩
  · have HX : Hid (false = isQ l) := Lib.hid (by unfold isQ; rw [decide_eq_false h]; rfl)
    go_enter Try.func34, Try.ntmps34
    go_wp2
    go_ret
    exact ⟨ret_b HX.out, Below.refl _ _⟩
theorem areSeats_c (s : Int) (w : World) :
    Calls Try.prog 67 #[.int .i64 s] w fun e w' => e = .returned (.bool (inR s 1 10)) ∧ w' = w := by
  have E0 := Lib.hid (fun W => within_c s 1 10 W)
  go_enter Try.func67, Try.ntmps67
  go_wp2_with fail
  refine (E0.out _).mono ?_
  rintro e w1 ⟨rfl, rfl⟩
  go_wp2
  go_ret
  exact ⟨rfl, rfl⟩
theorem asQ_bool (l : List Gro) (s : Int) : asQ l s = (isQ l && inR s 1 10 && !(l.any fun x => decide (s < x.z))) := by
  unfold asQ
  congr 1
  rw [← any_not13]
  congr 1
  congr 1
  funext x
  by_cases h : x.z ≤ s <;> simp [h] <;> omega
set_option maxRecDepth 100000 in
set_option maxHeartbeats 2000000 in
theorem doFit_c (v : Value) (l : List Gro) (s : Int) (w : World) (hr : Rs w v l.length (gros l)) (hn : l.length ≤ 1048576) :
    Calls Try.prog 58 #[v, .int .i64 s] w fun e w' => e = .returned (.bool (asQ l s)) ∧ Below w.heap.size w w' := by
  have HX := Lib.hid (asQ_bool l s)
  have E0 : Hid (∀ W, Below w.heap.size w W → _) := Lib.hid (fun W (h : Below w.heap.size w W) => implIsQueue_c v l W (hr.below h rfl) hn)
  have E1 := Lib.hid (fun W => areSeats_c s W)
  have E2 : Hid (∀ W, Below w.heap.size w W → W.cell? ⟨w.heap.size, 0, none⟩ = some (.int .i64 s) → w.heap.size < W.heap.size → _) := Lib.hid (fun W (h : Below w.heap.size w W) hP hl => hasB13_c v l s w.heap.size W (hr.below h rfl) hn hP hl)
  clear hr
  have HNX := Lib.hid (rfl : w.heap.size = w.heap.size)
  generalize isQ l = b0 at *
  generalize inR s 1 10 = b1 at *
  generalize (l.any fun x => decide (s < x.z)) = b2 at *
  have HC0 : Hid ((w.alloc (.cells #[.int .i64 s] 3)).cell? ⟨w.heap.size, 0, none⟩ = some (.int .i64 s)) := Lib.hid (by rw [World.cell?_alloc_at _ _ _ _ rfl]; rfl)
  go_enter Try.func58, Try.ntmps58
  go_wp2_with fail
  refine (E0.out _ ((Below.refl _ _).alloc (Nat.le_refl _) _)).mono ?_
  rintro e w1 ⟨rfl, B1⟩
  have HB1 : Hid (Below w.heap.size w w1) := Lib.hid (((Below.refl _ _).alloc (Nat.le_refl _) _).trans (B1.mono (by simp)))
  have hs1 : w.heap.size < w1.heap.size := by have := B1.size; simp at this; omega
  have HC1 : Hid (w1.cell? ⟨w.heap.size, 0, none⟩ = some (.int .i64 s)) := Lib.hid ((B1.cell (p := ⟨w.heap.size, 0, none⟩) (by simp)).trans HC0.out)
  clear B1
  cases b0 with
  | false =>
    go_wp2
    go_ret
    exact ⟨ret_b (by rw [HX.out]; rfl), HB1.out⟩
  | true =>
    have c0 := HC1.out
    go_wp2_with fail
    refine (E1.out _).mono ?_
    rintro e w2 ⟨rfl, rfl⟩
    clear c0
    cases b1 with
    | false =>
      go_wp2
      go_ret
      exact ⟨ret_b (by rw [HX.out]; rfl), HB1.out⟩
    | true =>
      go_wp2_with fail
      refine (E2.out _ HB1.out HC1.out hs1).mono ?_
      rintro e w3 ⟨rfl, B3⟩
      have HB3 := Lib.hid (HB1.out.trans (B3.mono HB1.out.size))
      clear B3
      go_wp2
      go_ret
      exact ⟨ret_b (by rw [HX.out]; simp), HB3.out⟩
set_option maxRecDepth 100000 in
set_option maxHeartbeats 2000000 in
theorem l13Queue_c (v : Value) (l : List Gro) (w : World) (hr : Rs w v l.length (gros l)) (hn : l.length ≤ 1048576) :
    Calls Try.prog 68 #[v] w fun e w' => e = .returned (.bool (isQ l)) ∧ w' = w := by
  obtain ⟨ao, a, oa, ca, rfl, hao, hat⟩ := hr.form_Gro
  have HA := Lib.hid hao
  have HL := Lib.hid hat
  clear hr hao hat
  go_enter Try.func68, Try.ntmps68
  go_wp2
  go_loopw [3] (fun i wr => ∃ k : Nat, k ≤ l.length ∧ i = .int .i64 k ∧ wr = w ∧ Hid (∀ j, j < k → inR (gth l j).z 1 8 = true)) (fun i _ => l.length - (intOf i).toNat)
  case atStart => exact ⟨0, by omega, rfl, by first | rfl | trivial, Lib.hid (fun j h => by omega)⟩
  case round =>
    obtain ⟨k, hk, rfl, rfl, hno⟩ := hrel
    by_cases hlt : k < l.length
    · obtain ⟨rfl, hla, hlm⟩ := HA.out (by omega)
      obtain ⟨c0, c1⟩ := HL.out k hlt
      have HIS := Lib.hid (fun h : inR (gth l k).z 1 8 = false => isQ_bad hlt h)
      have HNO : Hid (inR (gth l k).z 1 8 = true → ∀ j, j < k + 1 → inR (gth l j).z 1 8 = true) := Lib.hid (fun h j hj => by
        by_cases e : j = k
        · subst e; exact h
        · exact hno.out j (by omega))
      have HC := Lib.hid (fun W => l1In_c (gth l k).z 1 8 W)
      generalize gth l k = D at *
      generalize inR D.z 1 8 = b at *
      go_wp2_with fail
      refine (HC.out _).mono ?_
      rintro e w1 ⟨rfl, rfl⟩
      clear c0 c1
      cases b with
      | false =>
        have HX := Lib.hid (HIS.out rfl).symm
        go_wp2
        go_ret
        exact ⟨ret_b HX.out, rfl⟩
      | true =>
        have HN2 := Lib.hid (HNO.out rfl)
        go_wp2
        go_roundw
        case rel => exact ⟨k + 1, by omega, by go_num, by first | rfl | trivial, HN2⟩
        case measure => simp [intOf]; omega
    · obtain rfl : k = l.length := by omega
      have HX : Hid (decide ((l.length : Int) ≤ 12) = isQ l) := Lib.hid (by rw [isQ_end hno.out]; by_cases h : l.length ≤ 12 <;> simp [h] <;> omega)
      go_wp2
      go_ret
      exact ⟨ret_b HX.out, rfl⟩
theorem specIsQueue_c (v : Value) (l : List Gro) (w : World) (hr : Rs w v l.length (gros l)) (hn : l.length ≤ 1048576) :
    Calls Try.prog 35 #[v] w fun e w' => e = .returned (.bool (isQ l)) ∧ w' = w := by
  have E0 := Lib.hid (l13Queue_c v l w hr hn)
  clear hr
  go_enter Try.func35, Try.ntmps35
  go_wp2_with fail
  refine (E0.out).mono ?_
  rintro e w1 ⟨rfl, rfl⟩
  go_wp2
  go_ret
  exact ⟨rfl, rfl⟩
set_option maxRecDepth 100000 in
set_option maxHeartbeats 2000000 in
theorem l13Asked_c (v : Value) (l : List Gro) (s : Int) (w : World) (hr : Rs w v l.length (gros l)) (hn : l.length ≤ 1048576) :
    Calls Try.prog 52 #[v, .int .i64 s] w fun e w' => e = .returned (.bool (asQ l s)) ∧ w' = w := by
  have HX : Hid (∀ h : (∀ j, j < l.length → decide ((gth l j).z ≤ s) = true), asQ l s = (isQ l && inR s 1 10)) := Lib.hid (fun h => by unfold asQ; rw [all_end13 h, Bool.and_true])
  have HBD : Hid (∀ k, k < l.length → decide ((gth l k).z ≤ s) = false → asQ l s = false) := Lib.hid (fun k hk h => by unfold asQ; rw [all_bad13 (f := fun x => decide (x.z ≤ s)) hk h, Bool.and_false])
  have E0 := Lib.hid (l13Queue_c v l w hr hn)
  have E1 := Lib.hid (fun W => l1In_c s 1 10 W)
  obtain ⟨ao, a, oa, ca, rfl, hao, hat⟩ := hr.form_Gro
  have HA := Lib.hid hao
  have HL := Lib.hid hat
  clear hr hao hat
  go_enter Try.func52, Try.ntmps52
  go_wp2
  go_loopw [5] (fun i wr => ∃ k : Nat, k ≤ l.length ∧ i = .int .i64 k ∧ wr = w ∧ Hid (∀ j, j < k → decide ((gth l j).z ≤ s) = true)) (fun i _ => l.length - (intOf i).toNat)
  case atStart => exact ⟨0, by omega, rfl, by first | rfl | trivial, Lib.hid (fun j h => by omega)⟩
  case round =>
    obtain ⟨k, hk, rfl, rfl, hno⟩ := hrel
    by_cases hlt : k < l.length
    · obtain ⟨rfl, hla, hlm⟩ := HA.out (by omega)
      obtain ⟨c0, c1⟩ := HL.out k hlt
      have HIS := Lib.hid (HBD.out k hlt)
      have HNO : Hid (decide ((gth l k).z ≤ s) = true → ∀ j, j < k + 1 → decide ((gth l j).z ≤ s) = true) := Lib.hid (fun h j hj => by
        by_cases e : j = k
        · subst e; exact h
        · exact hno.out j (by omega))
      generalize gth l k = D at *
      by_cases hc : D.z ≤ s
      · have HN2 := Lib.hid (HNO.out (by simpa using hc))
        go_wp2
        go_roundw
        case rel => exact ⟨k + 1, by omega, by go_num, by first | rfl | trivial, HN2⟩
        case measure => simp [intOf]; omega
      · have HY := Lib.hid (HIS.out (by simpa using hc)).symm
        have t1 : decide (s < D.z) = true := by simp; omega
        go_wp2
        go_ret
        exact ⟨ret_b HY.out, rfl⟩
    · obtain rfl : k = l.length := by omega
      have HY := Lib.hid (HX.out hno.out).symm
      generalize isQ l = b0 at *
      generalize inR s 1 10 = b1 at *
      go_wp2_with fail
      refine (E0.out).mono ?_
      rintro e w1 ⟨rfl, rfl⟩
      cases b0 with
      | false =>
        go_wp2
        go_ret
        exact ⟨ret_b (by rw [← HY.out]; rfl), rfl⟩
      | true =>
        go_wp2_with fail
        refine (E1.out _).mono ?_
        rintro e w1 ⟨rfl, rfl⟩
        go_wp2
        go_ret
        exact ⟨ret_b (by rw [← HY.out]; simp), rfl⟩
end Go.Proofs.Ytkjdkfoeolcnkaa
