/- Slopes in thousandths. Condition: sizes. -/
import Derived.Test.YtdnmmafnjhgeiaaDriveC
namespace Go.Proofs.Ytdnmmafnjhgeiaa
open Go.RowKit
set_option linter.unusedVariables false
/-- The slope of a span in thousandths. -/
def slp (l : List Sup) (i : Nat) : Int := Int.tdiv (1000 * srise l i) (slen l i)
theorem tdiv_bd {n d B : Int} (hd : 0 < d) (h0 : -B ≤ n) (h1 : n ≤ B) : -B ≤ Int.tdiv n d ∧ Int.tdiv n d ≤ B := by
  have hB : 0 ≤ B := by omega
  by_cases hn : 0 ≤ n
  · have e := Int.tdiv_eq_ediv_of_nonneg (b := d) hn
    rw [e]
    have a := Int.ediv_nonneg hn (by omega : 0 ≤ d)
    have b := Int.ediv_le_self d hn
    omega
  · have e : Int.tdiv n d = -Int.tdiv (-n) d := by rw [Int.neg_tdiv, Int.neg_neg]
    rw [e, Int.tdiv_eq_ediv_of_nonneg (b := d) (by omega : 0 ≤ -n)]
    have a := Int.ediv_nonneg (by omega : 0 ≤ -n) (by omega : 0 ≤ d)
    have b := Int.ediv_le_self d (by omega : 0 ≤ -n)
    omega
theorem slp_bd {l : List Sup} (hl : IsL l) {i : Nat} (hi : i + 1 < l.length) : -2000000 ≤ slp l i ∧ slp l i ≤ 2000000 := by
  have h1 := slen_bd hl hi
  have h2 := srise_bd hl hi
  exact tdiv_bd h1.1 (by omega) (by omega)
set_option maxHeartbeats 1000000 in
theorem slope_c (v : Value) (l : List Sup) (i : Nat) (w : World) (hr : Rs w v l.length (sups l)) (hl : IsL l) (hi : i + 1 < l.length) :
    Calls Try.prog 79 #[v, .int .i64 (i : Int)] w fun e w' => e = .returned (.int .i64 (slp l i)) ∧ Drew w w' := by
  have HS : Hid (slp l i = Int.tdiv (1000 * srise l i) (slen l i)) := Lib.hid rfl
  have h1 := slen_bd hl hi
  have h2 := srise_bd hl hi
  have hb := slp_bd hl hi
  have HA := Lib.hid (fun W hW => spanRise_c v l i W hW hl hi)
  have HB := Lib.hid (fun W hW => spanLength_c v l i W hW hl hi)
  have HR := Lib.hid hr
  clear hr hl
  generalize slp l i = R at *
  generalize srise l i = S at *
  generalize slen l i = L at *
  have q1 : IntKind.i64.wrap (1000 * S) = 1000 * S := IntWalk.i64_in _ (by omega)
  have q2 : IntKind.i64.wrap (Int.tdiv (1000 * S) L) = R := by rw [← HS.out]; exact IntWalk.i64_in _ (by omega)
  have q3 : Int.tdiv (1000 * S) L = R := HS.out.symm
  have hL0 : L ≠ 0 := by omega
  go_enter Try.func79, Try.ntmps79
  go_wp2_with fail
  refine (HA.out _ HR.out).mono ?_
  rintro e w1 ⟨rfl, d1⟩
  have HR1 := Lib.hid (d1.rs HR.out)
  have D1 := Lib.hid d1
  clear d1
  go_wp2_with fail
  refine (HB.out _ HR1.out).mono ?_
  rintro e w2 ⟨rfl, d2⟩
  have D2 := Lib.hid (D1.out.trans d2)
  clear d2
  go_wp2
  go_ret
  exact ⟨rfl, D2.out⟩
set_option maxHeartbeats 2000000 in
theorem l6Slope_c (v : Value) (l : List Sup) (i : Nat) (w : World) (hr : Rs w v l.length (sups l)) (hl : IsL l) (hi : i + 1 < l.length) :
    Calls Try.prog 80 #[v, .int .i64 (i : Int)] w fun e w' => e = .returned (.int .i64 (slp l i)) ∧ Drew w w' := by
  have HS : Hid (slp l i = Int.tdiv (1000 * srise l i) (slen l i)) := Lib.hid rfl
  have h1 := slen_bd hl hi
  have h2 := srise_bd hl hi
  have hb := slp_bd hl hi
  have h8 := hl.eight
  obtain ⟨a, oa, ca, rfl, hla, hm, hs⟩ := hr.sup (by omega)
  obtain ⟨c0, c1, _⟩ := hs i (by omega)
  obtain ⟨d0, d1, _⟩ := hs (i + 1) hi
  have b0 := hl.bd (i := i) (by omega)
  have b1 := hl.bd (i := i + 1) hi
  have e1 : srise l i = (nth l (i + 1)).h - (nth l i).h := rfl
  have e2 : slen l i = (nth l (i + 1)).a - (nth l i).a := rfl
  clear hr hs hl
  generalize slp l i = R at *
  generalize srise l i = S at *
  generalize slen l i = L at *
  generalize (nth l (i + 1)).h = H1 at *
  generalize (nth l i).h = H0 at *
  generalize (nth l (i + 1)).a = A1 at *
  generalize (nth l i).a = A0 at *
  have s1 : IntKind.i64.wrap (H1 - H0) = S := by rw [e1]; exact IntWalk.i64_in _ (by omega)
  have s2 : IntKind.i64.wrap (A1 - A0) = L := by rw [e2]; exact IntWalk.i64_in _ (by omega)
  have q1 : IntKind.i64.wrap (1000 * S) = 1000 * S := IntWalk.i64_in _ (by omega)
  have q2 : IntKind.i64.wrap (Int.tdiv (1000 * S) L) = R := by rw [← HS.out]; exact IntWalk.i64_in _ (by omega)
  have q3 : Int.tdiv (1000 * S) L = R := HS.out.symm
  have q4 : IntKind.i64.wrap R = R := IntWalk.i64_in _ (by omega)
  have hL0 : L ≠ 0 := by omega
  obtain ⟨p1, p2, p3⟩ := succ_in i (by omega)
  have hi1 : i < l.length := by omega
  clear e1 e2
  go_enter Try.func80, Try.ntmps80
  go_wp2_with fail
  go_quiet (fail)
  clear p1 p3
  go_wp2
  go_ret
  exact ⟨rfl, _, rfl⟩
end Go.Proofs.Ytdnmmafnjhgeiaa
