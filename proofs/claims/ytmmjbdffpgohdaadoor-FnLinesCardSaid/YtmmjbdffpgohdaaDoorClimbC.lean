/- ClimbOf: the program's and the specification's answer as one function of the line. Condition: sizes. -/
import Derived.Test.YtmmjbdffpgohdaaDoorSpanW
namespace Go.Proofs.YtmmjbdffpgohdaaDoor
open Go.RowKit
set_option linter.unusedVariables false
def upK (l : List Sup) : Nat → Int
  | 0 => 0
  | k + 1 => upK l k + (if 0 < srise l k then srise l k else 0)
def dnK (l : List Sup) : Nat → Int
  | 0 => 0
  | k + 1 => dnK l k + (if srise l k < 0 then - srise l k else 0)
theorem upK_bd {l : List Sup} (hl : IsL l) : ∀ k, k + 1 ≤ l.length → 0 ≤ upK l k ∧ upK l k ≤ 2000 * (k : Int)
  | 0, _ => by simp [upK]
  | k + 1, h => by
    have h1 := upK_bd hl k (by omega)
    have h2 := srise_bd hl (i := k) (by omega)
    simp only [upK]
    split <;> omega
theorem dnK_bd {l : List Sup} (hl : IsL l) : ∀ k, k + 1 ≤ l.length → 0 ≤ dnK l k ∧ dnK l k ≤ 2000 * (k : Int)
  | 0, _ => by simp [dnK]
  | k + 1, h => by
    have h1 := dnK_bd hl k (by omega)
    have h2 := srise_bd hl (i := k) (by omega)
    simp only [dnK]
    split <;> omega
noncomputable def climbU (l : List Sup) : Int := if isL l then upK l (l.length - 1) else 0
noncomputable def climbD (l : List Sup) : Int := if isL l then dnK l (l.length - 1) else 0
set_option maxHeartbeats 1000000 in
theorem implClimbOf_c (v : Value) (l : List Sup) (w : World) (hr : Rs w v l.length (sups l)) (hn : l.length ≤ 1048576) :
    Calls Tryd.prog 10 #[v] w fun e w' => e = .returned (.tuple #[.int .i64 (climbU l), .int .i64 (climbD l), .bool (isL l)]) ∧ Below w.heap.size w w' := by
  cases hb : isL l with
  | false =>
    have hu : climbU l = 0 := by simp [climbU, hb]
    have hd : climbD l = 0 := by simp [climbD, hb]
    rw [hu, hd]
    have HB := Lib.hid hb
    have HR := Lib.hid hr
    clear hr hb hu hd
    go_enter Tryd.func10, Tryd.ntmps10
    go_wp2_with fail
    refine (implIsLine_c v l _ HR.out hn).mono ?_
    rw [HB.out]
    rintro e w1 ⟨rfl, b1⟩
    go_wp2
    go_ret3
    exact ⟨rfl, b1⟩
  | true =>
    have hl := isL_yes hb
    have hu : climbU l = upK l (l.length - 1) := by simp [climbU, hb]
    have hd : climbD l = dnK l (l.length - 1) := by simp [climbD, hb]
    rw [hu, hd]
    have HB := Lib.hid hb
    have h2 := hl.two
    have h8 := hl.eight
    have HL := Lib.hid hl
    obtain ⟨a, oa, ca, rfl, hla, hm, hs⟩ := hr.sup (by omega)
    have HR := Lib.hid hr
    clear hr hb hl hs hu hd
    go_enter Tryd.func10, Tryd.ntmps10
    go_wp2_with fail
    refine (implIsLine_c _ l _ HR.out hn).mono ?_
    rw [HB.out]
    rintro e w1 ⟨rfl, b1⟩
    go_wp2
    go_loopw [5, 6, 15] (fun u d i wr => ∃ k : Nat, k + 1 ≤ l.length ∧ i = .int .i64 k ∧ u = .int .i64 (upK l k) ∧ d = .int .i64 (dnK l k) ∧ Below w.heap.size w wr) (fun _ _ i _ => l.length - (intOf i).toNat)
    case atStart => exact ⟨0, by omega, rfl, rfl, rfl, b1⟩
    case round =>
      obtain ⟨k, hk, rfl, rfl, rfl, hbel⟩ := hrel
      have hub := upK_bd HL.out k hk
      have hdb := dnK_bd HL.out k hk
      by_cases hlt : k + 1 < l.length
      · have hlt' : (k : Int) < (l.length : Int) - 1 := by omega
        have hrb := srise_bd HL.out hlt
        have HU := Lib.hid (show upK l (k + 1) = upK l k + (if 0 < srise l k then srise l k else 0) from rfl)
        have HD := Lib.hid (show dnK l (k + 1) = dnK l k + (if srise l k < 0 then - srise l k else 0) from rfl)
        go_wp2_with fail
        refine (spanRise_c _ l k wr (HR.out.below hbel rfl) HL.out hlt).mono ?_
        rintro e w2 ⟨rfl, d2⟩
        have hbel2 := Drew.below_trans hbel d2
        clear hbel d2
        generalize srise l k = R at *
        generalize upK l k = U at *
        generalize dnK l k = D at *
        by_cases hp : 0 < R
        · have HU1 := Lib.hid (HU.out.trans (by rw [if_pos hp]))
          have HD1 := Lib.hid (HD.out.trans (by rw [if_neg (by omega)]))
          go_wp2
          all_goals go_roundw
          case rel => exact ⟨k + 1, by omega, by go_num, by rw [HU1.out], by rw [HD1.out]; go_num, hbel2⟩
          case measure => simp [intOf]; omega
        · by_cases hq : R < 0
          · have HU1 := Lib.hid (HU.out.trans (by rw [if_neg hp]))
            have HD1 := Lib.hid (HD.out.trans (by rw [if_pos hq]))
            go_wp2
            all_goals go_roundw
            case rel => exact ⟨k + 1, by omega, by go_num, by rw [HU1.out]; go_num, by rw [HD1.out], hbel2⟩
            case measure => simp [intOf]; omega
          · obtain rfl : R = 0 := by omega
            have HU1 := Lib.hid (HU.out.trans (by rw [if_neg hp]))
            have HD1 := Lib.hid (HD.out.trans (by rw [if_neg hq]))
            go_wp2
            all_goals go_roundw
            case rel => exact ⟨k + 1, by omega, by go_num, by rw [HU1.out]; go_num, by rw [HD1.out]; go_num, hbel2⟩
            case measure => simp [intOf]; omega
      · obtain rfl : k = l.length - 1 := by omega
        go_wp2
        go_ret3
        exact ⟨rfl, hbel⟩
set_option maxHeartbeats 1000000 in
theorem specClimbOf_c (v : Value) (l : List Sup) (w : World) (hr : Rs w v l.length (sups l)) (hn : l.length ≤ 1048576) :
    Calls Tryd.prog 11 #[v] w fun e w' => e = .returned (.tuple #[.int .i64 (climbU l), .int .i64 (climbD l), .bool (isL l)]) ∧ Below w.heap.size w w' := by
  cases hb : isL l with
  | false =>
    have hu : climbU l = 0 := by simp [climbU, hb]
    have hd : climbD l = 0 := by simp [climbD, hb]
    rw [hu, hd]
    have HB := Lib.hid hb
    have HR := Lib.hid hr
    clear hr hb hu hd
    go_enter Tryd.func11, Tryd.ntmps11
    go_wp2_with fail
    refine (l2Line_c v l _ HR.out hn).mono ?_
    rw [HB.out]
    rintro e w1 ⟨rfl, d1⟩
    go_wp2
    go_ret3
    exact ⟨rfl, d1.below _⟩
  | true =>
    have hl := isL_yes hb
    have hu : climbU l = upK l (l.length - 1) := by simp [climbU, hb]
    have hd : climbD l = dnK l (l.length - 1) := by simp [climbD, hb]
    rw [hu, hd]
    have HB := Lib.hid hb
    have h2 := hl.two
    have h8 := hl.eight
    have HL := Lib.hid hl
    obtain ⟨a, oa, ca, rfl, hla, hm, hs⟩ := hr.sup (by omega)
    have HR := Lib.hid hr
    have HA := Lib.hid hs
    clear hr hb hl hs hu hd
    go_enter Tryd.func11, Tryd.ntmps11
    go_wp2_with fail
    refine (l2Line_c _ l _ HR.out hn).mono ?_
    rw [HB.out]
    rintro e w1 ⟨rfl, d1⟩
    go_wp2
    go_loopw [5, 6, 7] (fun u d i wr => ∃ k : Nat, k + 1 ≤ l.length ∧ i = .int .i64 ((k : Int) + 1) ∧ u = .int .i64 (upK l k) ∧ d = .int .i64 (dnK l k) ∧ Drew w wr) (fun _ _ i _ => l.length - (intOf i).toNat)
    case atStart => exact ⟨0, by omega, rfl, rfl, rfl, d1⟩
    case round =>
      obtain ⟨k, hk, rfl, rfl, rfl, hdr⟩ := hrel
      have hub := upK_bd HL.out k hk
      have hdb := dnK_bd HL.out k hk
      by_cases hlt : k + 1 < l.length
      · have hrb := srise_bd HL.out hlt
        have HU := Lib.hid (show upK l (k + 1) = upK l k + (if 0 < srise l k then srise l k else 0) from rfl)
        have HD := Lib.hid (show dnK l (k + 1) = dnK l k + (if srise l k < 0 then - srise l k else 0) from rfl)
        have HA1 := HA.out.drew hdr
        obtain ⟨_, c0, _⟩ := HA1 k (by omega)
        obtain ⟨_, d0, _⟩ := HA1 (k + 1) hlt
        have bd0 := HL.out.bd (i := k) (by omega)
        have bd1 := HL.out.bd (i := k + 1) hlt
        clear HA1
        have HX := Lib.hid (show srise l k = (nth l (k + 1)).h - (nth l k).h from rfl)
        have p1 : IntKind.i64.wrap ((k : Int) + 1 - 1) = (k : Int) := by rw [Int.add_sub_cancel]; exact IntWalk.i64_in _ (by omega)
        have p2 : IntKind.i64.wrap (k : Int) = (k : Int) := IntWalk.i64_in _ (by omega)
        have p3 : ((k : Int) + 1).toNat = k + 1 := by omega
        have p4 : (0 : Int) ≤ (k : Int) + 1 := by omega
        have hi1 : k < l.length := by omega
        have hi2 : (k : Int) + 1 < (l.length : Int) := by omega
        have hx0 := HX.out
        generalize (nth l k).h = A at *
        generalize (nth l (k + 1)).h = B at *
        have hs1 : IntKind.i64.wrap (B - A) = B - A := IntWalk.i64_in _ (by omega)
        clear hx0
        go_wp2_with fail
        go_quiet (fail)
        clear p1 p2 p3 hs1
        rw [← HX.out]
        generalize srise l k = R at *
        generalize upK l k = U at *
        generalize dnK l k = D at *
        have HUn : Hid (U + imax 0 R = U + (if 0 < R then R else 0)) := Lib.hid (by
          unfold imax
          by_cases hp : 0 < R
          · rw [if_neg (by omega), if_pos hp]
          · by_cases hq : R < 0
            · rw [if_pos hq, if_neg hp]
            · rw [if_neg hq, if_neg hp]; omega)
        have HDn : Hid (D + imax 0 (-R) = D + (if R < 0 then -R else 0)) := Lib.hid (by
          unfold imax
          by_cases hq : R < 0
          · rw [if_neg (by omega), if_pos hq]
          · by_cases hp : 0 < R
            · rw [if_pos (by omega), if_neg hq]
            · rw [if_neg (by omega), if_neg hq]; omega)
        have hm1 : 0 ≤ imax 0 R ∧ imax 0 R ≤ 2000 := by unfold imax; split <;> omega
        have hm2 : 0 ≤ imax 0 (-R) ∧ imax 0 (-R) ≤ 2000 := by unfold imax; split <;> omega
        go_wp2_with fail
        refine (l1Most_c 0 R _).mono ?_
        rintro e w' ⟨rfl, rfl⟩
        generalize imax 0 R = M1 at *
        go_wp2_with fail
        refine (l1Most_c 0 (-R) _).mono ?_
        rintro e w' ⟨rfl, rfl⟩
        generalize imax 0 (-R) = M2 at *
        go_wp2
        go_roundw
        case rel => exact ⟨k + 1, by omega, by go_num, by rw [HU.out, ← HUn.out], by rw [HD.out, ← HDn.out], hdr.more _⟩
        case measure => simp [intOf]; omega
      · obtain rfl : k = l.length - 1 := by omega
        go_wp2
        go_ret3
        exact ⟨rfl, hdr.below _⟩
end Go.Proofs.YtmmjbdffpgohdaaDoor
