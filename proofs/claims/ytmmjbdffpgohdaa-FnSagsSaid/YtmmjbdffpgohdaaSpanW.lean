/- The small functions on spans. Condition: sizes. -/
import Derived.Test.YtmmjbdffpgohdaaIsLineC
import Derived.Test.YtmmjbdffpgohdaaIntS
namespace Go.Proofs.Ytmmjbdffpgohdaa
open Go.RowKit
set_option linter.unusedVariables false
theorem IsL.bd {l : List Sup} (hl : IsL l) {i : Nat} (hi : i < l.length) : 0 ≤ (nth l i).a ∧ (nth l i).a ≤ 3000 ∧ 0 ≤ (nth l i).h ∧ (nth l i).h ≤ 2000 :=
  ⟨(hl.ok i hi).1, (hl.ok i hi).2.1, (hl.ok i hi).2.2.1, (hl.ok i hi).2.2.2.1⟩
theorem IsL.asc {l : List Sup} (hl : IsL l) {i : Nat} (hi : i + 1 < l.length) : (nth l i).a < (nth l (i + 1)).a := (hl.ok (i + 1) hi).2.2.2.2 (by omega)
theorem isL_yes {l : List Sup} (h : isL l = true) : IsL l := (isL_iff l).1 h
def slen (l : List Sup) (i : Nat) : Int := (nth l (i + 1)).a - (nth l i).a
def srise (l : List Sup) (i : Nat) : Int := (nth l (i + 1)).h - (nth l i).h
theorem slen_bd {l : List Sup} (hl : IsL l) {i : Nat} (hi : i + 1 < l.length) : 0 < slen l i ∧ slen l i ≤ 3000 := by
  have h1 := hl.asc hi
  have h2 := hl.bd hi
  have h3 := hl.bd (i := i) (by omega)
  unfold slen; omega
theorem srise_bd {l : List Sup} (hl : IsL l) {i : Nat} (hi : i + 1 < l.length) : -2000 ≤ srise l i ∧ srise l i ≤ 2000 := by
  have h2 := hl.bd hi
  have h3 := hl.bd (i := i) (by omega)
  unfold srise; omega
def iabs (n : Int) : Int := if n < 0 then -n else n
theorem iabs_bd {n : Int} (h : -2000 ≤ n ∧ n ≤ 2000) : 0 ≤ iabs n ∧ iabs n ≤ 2000 := by unfold iabs; split <;> omega
def imax (a b : Int) : Int := if b < a then a else b
set_option maxHeartbeats 1000000 in
theorem spanLength_c (v : Value) (l : List Sup) (i : Nat) (w : World) (hr : Rs w v l.length (sups l)) (hl : IsL l) (hi : i + 1 < l.length) :
    Calls Try.prog 63 #[v, .int .i64 (i : Int)] w fun e w' => e = .returned (.int .i64 (slen l i)) ∧ Drew w w' := by
  have h8 := hl.eight
  obtain ⟨a, oa, ca, rfl, hla, hm, hs⟩ := hr.sup (by omega)
  obtain ⟨c0, _, _⟩ := hs i (by omega)
  obtain ⟨d0, _, _⟩ := hs (i + 1) hi
  have b0 := hl.bd (i := i) (by omega)
  have b1 := hl.bd hi
  clear hs hr hl
  unfold slen
  generalize (nth l i).a = A at *
  generalize (nth l (i + 1)).a = B at *
  obtain ⟨p1, p2, p3⟩ := succ_in i (by omega)
  have hi1 : i < l.length := by omega
  have hs1 : IntKind.i64.wrap (B - A) = B - A := IntWalk.i64_in _ (by omega)
  go_enter Try.func63, Try.ntmps63
  go_wp2_with fail
  go_quiet (fail)
  clear p1 p3
  go_wp2
  go_ret
  exact ⟨rfl, _, rfl⟩
set_option maxHeartbeats 1000000 in
theorem spanRise_c (v : Value) (l : List Sup) (i : Nat) (w : World) (hr : Rs w v l.length (sups l)) (hl : IsL l) (hi : i + 1 < l.length) :
    Calls Try.prog 100 #[v, .int .i64 (i : Int)] w fun e w' => e = .returned (.int .i64 (srise l i)) ∧ Drew w w' := by
  have h8 := hl.eight
  obtain ⟨a, oa, ca, rfl, hla, hm, hs⟩ := hr.sup (by omega)
  obtain ⟨_, c0, _⟩ := hs i (by omega)
  obtain ⟨_, d0, _⟩ := hs (i + 1) hi
  have b0 := hl.bd (i := i) (by omega)
  have b1 := hl.bd hi
  clear hs hr hl
  unfold srise
  generalize (nth l i).h = A at *
  generalize (nth l (i + 1)).h = B at *
  obtain ⟨p1, p2, p3⟩ := succ_in i (by omega)
  have hi1 : i < l.length := by omega
  have hs1 : IntKind.i64.wrap (B - A) = B - A := IntWalk.i64_in _ (by omega)
  go_enter Try.func100, Try.ntmps100
  go_wp2_with fail
  go_quiet (fail)
  clear p1 p3
  go_wp2
  go_ret
  exact ⟨rfl, _, rfl⟩
theorem absolute_c (n : Int) (w : World) (h1 : -9223372036854775808 < n) (h2 : n ≤ 9223372036854775807) :
    Calls Try.prog 106 #[.int .i64 n] w fun e w' => e = .returned (.int .i64 (iabs n)) ∧ w = w' := by
  unfold iabs
  go_enter Try.func106, Try.ntmps106
  go_wp2
  all_goals go_ret
  all_goals exact ⟨rfl, rfl⟩
theorem l1Most_c (a b : Int) (w : World) :
    Calls Try.prog 70 #[.int .i64 a, .int .i64 b] w fun e w' => e = .returned (.int .i64 (imax a b)) ∧ w = w' := by
  by_cases h : b < a
  · rw [imax, if_pos h]
    go_enter Try.func70, Try.ntmps70
    go_wp2
    go_ret
    exact ⟨rfl, rfl⟩
  · rw [imax, if_neg h]
    go_enter Try.func70, Try.ntmps70
    go_wp2
    go_ret
    exact ⟨rfl, rfl⟩
end Go.Proofs.Ytmmjbdffpgohdaa
