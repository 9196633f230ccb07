/- What the laws on lines draw: a line, a line and a place. Condition: sizes. -/
import Derived.Test.YtmmjbdffpgohdaaDrawLine
import Derived.Test.YtmmjbdffpgohdaaBig
namespace Go.Proofs.Ytmmjbdffpgohdaa
open Go.RowKit
set_option linter.unusedVariables false
/-- What drawing a line leaves. -/
def DlPost (w : World) (e : Ending) (w' : World) : Prop := ∃ (v : Value) (l : List Sup), e = .returned v ∧ w'.ownsRow w.heap.size 89 3 v l.length (sups l) ∧ (1 ≤ l.length ∧ l.length ≤ 9) ∧ Below w.heap.size w w'
/-- What drawing a line and a place leaves. -/
def DpPost (w : World) (e : Ending) (w' : World) : Prop := ∃ (v : Value) (l : List Sup) (p : Int), e = .returned (.tuple #[v, .int .i64 p]) ∧ (-10000 ≤ p ∧ p ≤ 10000) ∧ w'.ownsRow w.heap.size 89 3 v l.length (sups l) ∧ (1 ≤ l.length ∧ l.length ≤ 9) ∧ Below w.heap.size w w'
theorem own_mono' {w : World} {B B' e size n : Nat} {v : Value} {xs : List Value} (h : w.ownsRow B e size v n xs) (hB : B' ≤ B) : w.ownsRow B' e size v n xs := own_mono h hB
/-- What a place leaves. -/
def PlPost (B b k : Nat) (w : World) (e : Ending) (w' : World) : Prop := ∃ p : Int, e = .returned (.int .i64 p) ∧ (-10000 ≤ p ∧ p ≤ 10000) ∧ Cur B b (k + 10) w' ∧ w.grownBy w' (some b)
set_option maxHeartbeats 2000000 in
theorem placeOf_any (B b k : Nat) (v : Value) (l : List Sup) (w w0 : World) (hS : StL B b k w0 w v l) (hl : 1 ≤ l.length ∧ l.length ≤ 9) (hb : Bd l) (hk : k ≤ 800000000) :
    Calls Try.prog 57 #[.pointer (some ⟨b, 0, none⟩), v] w (PlPost B b k w) := by
  obtain ⟨g, cap, rfl, hg, hcl, hcm⟩ := hS.shape (by omega)
  have HS := Lib.hid hS
  have hbw := hS.cur.2.1
  have hgb : g ≠ b := fun e => by have h1 := (hS.own.lt g rfl).1; have h2 := hS.lt; omega
  have HCl : Hid (∀ i, i < l.length → w.cell? ⟨g, i * 3, none⟩ = some (.int .i64 (nth l i).a)) := Lib.hid (fun i hi => (hS.own.cellAt (i * 3) (by omega)).trans (sups_at l i hi).1)
  have hne : ((l.length : Int) == 0) = false := by rw [beq_eq_false_iff_ne]; omega
  clear hS
  go_enter Try.func57, Try.ntmps57
  go_wp2_with fail
  refine (one_any B b k 12 w HS.out.cur (by omega) (by omega) (by omega)).mono ?_
  rintro e w1 ⟨p, rfl, hc, hg1⟩
  have HC := Lib.hid hc
  have HG := Lib.hid hg1
  have hbw1 := hc.2.1
  clear hc hg1
  cases p with
  | true =>
    go_wp2_with fail
    refine (among_any B b (k + 2) w1.heap.size 5 5 [-1, 0, 1, 3000, 3001] _ (HC.out.alloc _) (by omega) rfl (by omega) (by omega) (by omega) (num_cells w1 3 [-1, 0, 1, 3000, 3001] _ rfl)).mono ?_
    rintro e w2 ⟨x, hx, rfl, hc, hg2⟩
    have hxb : -1 ≤ x ∧ x ≤ 3001 := by simp at hx; omega
    have HC2 := Lib.hid hc
    have HG2 := Lib.hid hg2
    clear hc hg2 hx
    go_wp2_with fail
    go_ret
    exact ⟨x, rfl, by omega, HC2.out.mono (by omega), grown_trans (grown_trans HG.out (World.grownBy_alloc w1 _ _)) HG2.out⟩
  | false =>
    go_wp2_with fail
    refine (pick_any B b (k + 2) (l.length : Int) w1 HC.out (by omega) (by omega) (by omega)).mono ?_
    rintro e w2 ⟨r, rfl, hr, hc, hg2⟩
    have hrl : r < l.length := by omega
    have c0 : w2.cell? ⟨g, r * 3, none⟩ = some (.int .i64 (nth l r).a) := grown_cell (grown_trans HG.out hg2) (HCl.out r hrl) (by simp; exact hgb)
    have hbd := hb.get hrl
    have HC2 := Lib.hid hc
    have HG2 := Lib.hid (grown_trans HG.out hg2)
    have hbw2 := hc.2.1
    clear hc hg2
    generalize (nth l r).a = A at *
    go_wp2_with fail
    refine (among_any B b (k + 2 + 2) w2.heap.size 7 7 [0, 0, 1, -1, 5, 17, -30] _ (HC2.out.alloc _) (by omega) rfl (by omega) (by omega) (by omega) (num_cells w2 3 [0, 0, 1, -1, 5, 17, -30] _ rfl)).mono ?_
    rintro e w3 ⟨x, hx, rfl, hc, hg3⟩
    have hxb : -30 ≤ x ∧ x ≤ 17 := by simp at hx; omega
    have HC3 := Lib.hid hc
    have HG3 := Lib.hid hg3
    clear hc hg3 hx
    go_wp2_with fail
    go_ret
    exact ⟨A + x, rfl, by omega, HC3.out.mono (by omega), grown_trans (grown_trans HG2.out (World.grownBy_alloc w2 _ _)) HG3.out⟩
end Go.Proofs.Ytmmjbdffpgohdaa
