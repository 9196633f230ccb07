/- The small functions on spans. Condition: sizes. -/
import Derived.Test.YtmmjbdffpgohdaaDoorIsLineC
import Derived.Test.YtmmjbdffpgohdaaDoorIntS
namespace Go.Proofs.YtmmjbdffpgohdaaDoor
open Go.RowKit
set_option linter.unusedVariables false
theorem IsL.bd {l : List Sup} (hl : IsL l) {i : Nat} (hi : i < l.length) : 0 ≤ (nth l i).a ∧ (nth l i).a ≤ 3000 ∧ 0 ≤ (nth l i).h ∧ (nth l i).h ≤ 2000 :=
  ⟨(hl.ok i hi).1, (hl.ok i hi).2.1, (hl.ok i hi).2.2.1, (hl.ok i hi).2.2.2.1⟩
theorem IsL.asc {l : List Sup} (hl : IsL l) {i : Nat} (hi : i + 1 < l.length) : (nth l i).a < (nth l (i + 1)).a := (hl.ok (i + 1) hi).2.2.2.2 (by omega)
theorem isL_yes {l : List Sup} (h : isL l = true) : IsL l := (isL_iff l).1 h
def slen (l : List Sup) (i : Nat) : Int := (nth l (i + 1)).a - (nth l i).a
def srise (l : List Sup) (i : Nat) : Int := (nth l (i + 1)).h - (nth l i).h
theorem slen_bd {l : List Sup} (hl : IsL l) {i : Nat} (hi : i + 1 < l.length) : 0 < slen l i ∧ slen l i ≤ 3000 := by
  have h1 := hl.asc hi
  have h2 := hl.bd hi
  have h3 := hl.bd (i := i) (by omega)
  unfold slen; omega
theorem srise_bd {l : List Sup} (hl : IsL l) {i : Nat} (hi : i + 1 < l.length) : -2000 ≤ srise l i ∧ srise l i ≤ 2000 := by
  have h2 := hl.bd hi
  have h3 := hl.bd (i := i) (by omega)
  unfold srise; omega
def iabs (n : Int) : Int := if n < 0 then -n else n
theorem iabs_bd {n : Int} (h : -2000 ≤ n ∧ n ≤ 2000) : 0 ≤ iabs n ∧ iabs n ≤ 2000 := by unfold iabs; split <;> omega
def imax (a b : Int) : Int := if b < a then a else b
set_option maxHeartbeats 1000000 in
theorem spanRise_c (v : Value) (l : List Sup) (i : Nat) (w : World) (hr : Rs w v l.length (sups l)) (hl : IsL l) (hi : i + 1 < l.length) :
    Calls Tryd.prog 21 #[v, .int .i64 (i : Int)] w fun e w' => e = .returned (.int .i64 (srise l i)) ∧ Drew w w' := by
  have h8 := hl.eight
  obtain ⟨a, oa, ca, rfl, hla, hm, hs⟩ := hr.sup (by omega)
  obtain ⟨_, c0, _⟩ := hs i (by omega)
  obtain ⟨_, d0, _⟩ := hs (i + 1) hi
  have b0 := hl.bd (i := i) (by omega)
  have b1 := hl.bd hi
  clear hs hr hl
  unfold srise
  generalize (nth l i).h = A at *
  generalize (nth l (i + 1)).h = B at *
  obtain ⟨p1, p2, p3⟩ := succ_in i (by omega)
  have hi1 : i < l.length := by omega
  have hs1 : IntKind.i64.wrap (B - A) = B - A := IntWalk.i64_in _ (by omega)
  go_enter Tryd.func21, Tryd.ntmps21
  go_wp2_with fail
  go_quiet (fail)
  clear p1 p3
  go_wp2
  go_ret
  exact ⟨rfl, _, rfl⟩
theorem l1Most_c (a b : Int) (w : World) :
    Calls Tryd.prog 22 #[.int .i64 a, .int .i64 b] w fun e w' => e = .returned (.int .i64 (imax a b)) ∧ w = w' := by
  by_cases h : b < a
  · rw [imax, if_pos h]
    go_enter Tryd.func22, Tryd.ntmps22
    go_wp2
    go_ret
    exact ⟨rfl, rfl⟩
  · rw [imax, if_neg h]
    go_enter Tryd.func22, Tryd.ntmps22
    go_wp2
    go_ret
    exact ⟨rfl, rfl⟩
end Go.Proofs.YtmmjbdffpgohdaaDoor
