/- SteepestSpan: the program's and the specification's answer as one function of the line. Condition: sizes. -/
import Derived.Test.YtdnmmafnjhgeiabSpanW
namespace Go.Proofs.Ytdnmmafnjhgeiab
open Go.RowKit
set_option linter.unusedVariables false
/-- The steepest of the first k spans. -/
def stpK (l : List Sup) : Nat → Nat
  | 0 => 0
  | k + 1 => if iabs (srise l (stpK l k)) * slen l k < iabs (srise l k) * slen l (stpK l k) then k else stpK l k
theorem stpK_lt (l : List Sup) : ∀ k, stpK l k < k ∨ stpK l k = 0
  | 0 => .inr rfl
  | k + 1 => by
    have h := stpK_lt l k
    simp only [stpK]
    split <;> omega
theorem stpK_bd (l : List Sup) (k : Nat) (h : k + 1 ≤ l.length) (h2 : 2 ≤ l.length) : stpK l k + 1 < l.length := by
  have := stpK_lt l k
  omega
theorem stpK_one (l : List Sup) : stpK l 1 = 0 := by simp [stpK]
theorem mul_bd {x y : Int} (h1 : 0 ≤ x ∧ x ≤ 2000) (h2 : 0 < y ∧ y ≤ 3000) : 0 ≤ x * y ∧ x * y ≤ 6000000 :=
  ⟨Int.mul_nonneg h1.1 (by omega), by
    have := Int.mul_le_mul h1.2 h2.2 (by omega) (by omega : (0:Int) ≤ 2000)
    omega⟩
noncomputable def steep (l : List Sup) : Int := if isL l then (stpK l (l.length - 1) : Int) else 0
set_option maxHeartbeats 1000000 in
theorem implSteepestSpan_c (v : Value) (l : List Sup) (w : World) (hr : Rs w v l.length (sups l)) (hn : l.length ≤ 1048576) :
    Calls Try.prog 11 #[v] w fun e w' => e = .returned (.tuple #[.int .i64 (steep l), .bool (isL l)]) ∧ Below w.heap.size w w' := by
  cases hb : isL l with
  | false =>
    have hu : steep l = 0 := by simp [steep, hb]
    rw [hu]
    have HB := Lib.hid hb
    have HR := Lib.hid hr
    clear hr hb hu
    go_enter Try.func11, Try.ntmps11
    go_wp2_with fail
    refine (implIsLine_c v l _ HR.out hn).mono ?_
    rw [HB.out]
    rintro e w1 ⟨rfl, b1⟩
    go_wp2
    go_ret2
    exact ⟨rfl, b1⟩
  | true =>
    have hl := isL_yes hb
    have hu : steep l = (stpK l (l.length - 1) : Int) := by simp [steep, hb]
    rw [hu]
    have HB := Lib.hid hb
    have h2 := hl.two
    have h8 := hl.eight
    have HL := Lib.hid hl
    obtain ⟨a, oa, ca, rfl, hla, hm, hs⟩ := hr.sup (by omega)
    have HR := Lib.hid hr
    clear hr hb hl hs hu
    go_enter Try.func11, Try.ntmps11
    go_wp2_with fail
    refine (implIsLine_c _ l _ HR.out hn).mono ?_
    rw [HB.out]
    rintro e w1 ⟨rfl, b1⟩
    go_wp2
    go_loopw [4, 14] (fun s i wr => ∃ k : Nat, k + 1 ≤ l.length ∧ i = .int .i64 k ∧ s = .int .i64 ((stpK l k : Nat) : Int) ∧ Below w.heap.size w wr) (fun _ i _ => l.length - (intOf i).toNat)
    case atStart => exact ⟨0, by omega, rfl, rfl, b1⟩
    case round =>
      obtain ⟨k, hk, rfl, rfl, hbel⟩ := hrel
      by_cases hlt : k + 1 < l.length
      · have hlt' : (k : Int) < (l.length : Int) - 1 := by omega
        have hq := stpK_bd l k hk h2
        have hr1 := iabs_bd (srise_bd HL.out hlt)
        have hr2 := iabs_bd (srise_bd HL.out hq)
        have hr3 := srise_bd HL.out hlt
        have hr4 := srise_bd HL.out hq
        have hl1 := slen_bd HL.out hlt
        have hl2 := slen_bd HL.out hq
        have hm1 := mul_bd hr1 hl2
        have hm2 := mul_bd hr2 hl1
        have HS := Lib.hid (show stpK l (k + 1) = (if iabs (srise l (stpK l k)) * slen l k < iabs (srise l k) * slen l (stpK l k) then k else stpK l k) from rfl)
        generalize hz : stpK l k = z at *
        have HZ := Lib.hid hz
        clear hz
        go_wp2_with fail
        refine (spanRise_c _ l k wr (HR.out.below hbel rfl) HL.out hlt).mono ?_
        rintro e w2 ⟨rfl, d2⟩
        go_wp2_with fail
        refine (absolute_c (srise l k) _ (by omega) (by omega)).mono ?_
        rintro e w' ⟨rfl, rfl⟩
        go_wp2_with fail
        refine (spanLength_c _ l z w2 (HR.out.below (Drew.below_trans hbel d2) rfl) HL.out hq).mono ?_
        rintro e w3 ⟨rfl, d3⟩
        have d3' := d2.trans d3
        go_wp2_with fail
        refine (spanRise_c _ l z w3 (HR.out.below (Drew.below_trans hbel d3') rfl) HL.out hq).mono ?_
        rintro e w4 ⟨rfl, d4⟩
        go_wp2_with fail
        refine (absolute_c (srise l z) _ (by omega) (by omega)).mono ?_
        rintro e w' ⟨rfl, rfl⟩
        have d4' := d3'.trans d4
        go_wp2_with fail
        refine (spanLength_c _ l k w4 (HR.out.below (Drew.below_trans hbel d4') rfl) HL.out hlt).mono ?_
        rintro e w5 ⟨rfl, d5⟩
        have d5' := d4'.trans d5
        by_cases hc : iabs (srise l z) * slen l k < iabs (srise l k) * slen l z
        · have HS1 := Lib.hid (HS.out.trans (by rw [if_pos hc]))
          go_wp2
          go_roundw
          case rel => exact ⟨k + 1, by omega, by go_num, by rw [HS1.out], Drew.below_trans hbel d5'⟩
          case measure => simp [intOf]; omega
        · have HS1 := Lib.hid (HS.out.trans (by rw [if_neg hc]))
          go_wp2
          go_roundw
          case rel => exact ⟨k + 1, by omega, by go_num, by rw [HS1.out], Drew.below_trans hbel d5'⟩
          case measure => simp [intOf]; omega
      · obtain rfl : k = l.length - 1 := by omega
        go_wp2
        go_ret2
        exact ⟨rfl, hbel⟩
set_option maxHeartbeats 1000000 in
theorem l2Rise_c (v : Value) (l : List Sup) (i : Nat) (w : World) (hr : Rs w v l.length (sups l)) (hl : IsL l) (hi : i + 1 < l.length) :
    Calls Try.prog 29 #[v, .int .i64 (i : Int)] w fun e w' => e = .returned (.tuple #[.int .i64 (iabs (srise l i)), .int .i64 (slen l i)]) ∧ Drew w w' := by
  have h8 := hl.eight
  have hrb := srise_bd hl hi
  have hlb := slen_bd hl hi
  obtain ⟨a, oa, ca, rfl, hla, hm, hs⟩ := hr.sup (by omega)
  obtain ⟨c0, e0, _⟩ := hs i (by omega)
  obtain ⟨d0, f0, _⟩ := hs (i + 1) hi
  have b0 := hl.bd (i := i) (by omega)
  have b1 := hl.bd hi
  clear hs hr hl
  have HX := Lib.hid (show srise l i = (nth l (i + 1)).h - (nth l i).h from rfl)
  have HY := Lib.hid (show slen l i = (nth l (i + 1)).a - (nth l i).a from rfl)
  have hx := HX.out
  have hy := HY.out
  generalize (nth l i).a = A at *
  generalize (nth l (i + 1)).a = B at *
  generalize (nth l i).h = C at *
  generalize (nth l (i + 1)).h = D at *
  obtain ⟨p1, p2, p3⟩ := succ_in i (by omega)
  have hi1 : i < l.length := by omega
  have hi2 : (i : Int) + 1 < (l.length : Int) := by omega
  have hs1 : IntKind.i64.wrap (B - A) = B - A := IntWalk.i64_in _ (by omega)
  have hs2 : IntKind.i64.wrap (D - C) = D - C := IntWalk.i64_in _ (by omega)
  have hs3 : IntKind.i64.wrap (-(D - C)) = -(D - C) := IntWalk.i64_in _ (by omega)
  clear hx hy
  have HM : Hid (imax (D - C) (-(D - C)) = iabs (srise l i)) := Lib.hid (by
    rw [HX.out]; unfold imax iabs
    by_cases h : D - C < 0
    · rw [if_neg (by omega), if_pos h]
    · by_cases h0 : D - C = 0
      · rw [if_neg (by omega), if_neg h]; omega
      · rw [if_pos (by omega), if_neg h])
  go_enter Try.func29, Try.ntmps29
  go_wp2_with fail
  go_quiet (fail)
  have hdr : Drew w (w.drewN nq) := ⟨nq, rfl⟩
  have c0' : (w.drewN nq).cell? ⟨a, oa + i * 3, none⟩ = some (.int .i64 A) := c0
  have d0' : (w.drewN nq).cell? ⟨a, oa + (i + 1) * 3, none⟩ = some (.int .i64 B) := d0
  clear c0 e0 d0 f0
  generalize w.drewN nq = w2 at *
  go_wp2_with fail
  go_quiet ((go_at_call 38; exact (l1Most_c _ _ _).mono fun _ _ h => ⟨h.1, _, h.2.symm⟩))
  rw [HM.out]
  clear p1 p3 hs1 hs2 hs3
  go_wp2
  go_ret2
  refine ⟨?_, hdr.more _⟩
  rw [HY.out]
  rfl
set_option maxHeartbeats 1000000 in
theorem specSteepestSpan_c (v : Value) (l : List Sup) (w : World) (hr : Rs w v l.length (sups l)) (hn : l.length ≤ 1048576) :
    Calls Try.prog 12 #[v] w fun e w' => e = .returned (.tuple #[.int .i64 (steep l), .bool (isL l)]) ∧ Below w.heap.size w w' := by
  cases hb : isL l with
  | false =>
    have hu : steep l = 0 := by simp [steep, hb]
    rw [hu]
    have HB := Lib.hid hb
    have HR := Lib.hid hr
    clear hr hb hu
    go_enter Try.func12, Try.ntmps12
    go_wp2_with fail
    refine (l2Line_c v l _ HR.out hn).mono ?_
    rw [HB.out]
    rintro e w1 ⟨rfl, d1⟩
    go_wp2
    go_ret2
    exact ⟨rfl, d1.below _⟩
  | true =>
    have hl := isL_yes hb
    have hu : steep l = (stpK l (l.length - 1) : Int) := by simp [steep, hb]
    rw [hu]
    have HB := Lib.hid hb
    have h2 := hl.two
    have h8 := hl.eight
    have HL := Lib.hid hl
    obtain ⟨a, oa, ca, rfl, hla, hm, hs⟩ := hr.sup (by omega)
    have HR := Lib.hid hr
    clear hr hb hl hs hu
    go_enter Try.func12, Try.ntmps12
    go_wp2_with fail
    refine (l2Line_c _ l _ HR.out hn).mono ?_
    rw [HB.out]
    rintro e w1 ⟨rfl, d1⟩
    go_wp2
    go_loopw [4, 5] (fun s i wr => ∃ k : Nat, 1 ≤ k ∧ k + 1 ≤ l.length ∧ i = .int .i64 k ∧ s = .int .i64 ((stpK l k : Nat) : Int) ∧ Drew w wr) (fun _ i _ => l.length - (intOf i).toNat)
    case atStart => exact ⟨1, by omega, by omega, rfl, by rw [stpK_one]; rfl, d1⟩
    case round =>
      obtain ⟨k, hk1, hk, rfl, rfl, hdr⟩ := hrel
      by_cases hlt : k + 1 < l.length
      · have hq := stpK_bd l k hk h2
        have hr1 := iabs_bd (srise_bd HL.out hlt)
        have hr2 := iabs_bd (srise_bd HL.out hq)
        have hl1 := slen_bd HL.out hlt
        have hl2 := slen_bd HL.out hq
        have hm1 := mul_bd hr1 hl2
        have hm2 := mul_bd hr2 hl1
        have HS := Lib.hid (show stpK l (k + 1) = (if iabs (srise l (stpK l k)) * slen l k < iabs (srise l k) * slen l (stpK l k) then k else stpK l k) from rfl)
        generalize hz : stpK l k = z at *
        clear hz
        go_wp2_with fail
        refine (l2Rise_c _ l k wr (hdr.rs HR.out) HL.out hlt).mono ?_
        rintro e w2 ⟨rfl, d2⟩
        go_wp2_with fail
        refine (l2Rise_c _ l z w2 ((hdr.trans d2).rs HR.out) HL.out hq).mono ?_
        rintro e w3 ⟨rfl, d3⟩
        have d3' := (hdr.trans d2).trans d3
        by_cases hc : iabs (srise l z) * slen l k < iabs (srise l k) * slen l z
        · have HS1 := Lib.hid (HS.out.trans (by rw [if_pos hc]))
          go_wp2
          go_roundw
          case rel => exact ⟨k + 1, by omega, by omega, by go_num, by rw [HS1.out], d3'⟩
          case measure => simp [intOf]; omega
        · have HS1 := Lib.hid (HS.out.trans (by rw [if_neg hc]))
          go_wp2
          go_roundw
          case rel => exact ⟨k + 1, by omega, by omega, by go_num, by rw [HS1.out], d3'⟩
          case measure => simp [intOf]; omega
      · obtain rfl : k = l.length - 1 := by omega
        go_wp2
        go_ret2
        exact ⟨rfl, hdr.below _⟩
end Go.Proofs.Ytdnmmafnjhgeiab
