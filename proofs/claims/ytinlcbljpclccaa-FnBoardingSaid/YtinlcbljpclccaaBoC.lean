/- Platforms and events: what the helpers answer. Condition: sizes. -/
import Derived.Test.YtinlcbljpclccaaBoMath
import Derived.Test.YtinlcbljpclccaaDrew
import Derived.Test.YtinlcbljpclccaaL1Math
import Derived.Laws.StructEq
import Derived.Deep.RegionHeld3
namespace Go.Proofs.Ytinlcbljpclccaa
open Go.RowKit
set_option linter.unusedVariables false
theorem ks_ne {k : ByteArray} {l : List UInt8} (h : k ≠ ⟨l.toArray⟩) : (k.toList == l) = false := by have := str_ne h; rw [show (⟨l.toArray⟩ : ByteArray).toList = l from ByteArray.toList_mk l] at this; exact this
theorem mostK_0 : mostK kCome = 16 := by rw [mostK, kd_0]; rfl
theorem mostK_1 : mostK kOpen = 0 := by rw [mostK, kd_1]; rfl
theorem mostK_2 : mostK kShut = 0 := by rw [mostK, kd_2]; rfl
theorem mostK_3 : mostK kEnter = 16 := by rw [mostK, kd_3]; rfl
theorem mostK_4 : mostK kLeave = 16 := by rw [mostK, kd_4]; rfl
theorem mostK_5 : mostK kArrive = 100 := by rw [mostK, kd_5]; rfl
theorem mostK_6 : mostK kLevel = 0 := by rw [mostK, kd_6]; rfl
theorem mostK_7 : mostK kGo = 0 := by rw [mostK, kd_7]; rfl
theorem mostK_not {k : ByteArray} (h : kd k = 8) : mostK k = -1 := by rw [mostK, h]; rfl
set_option maxHeartbeats 2000000 in
theorem l14Most_c (k : ByteArray) (w : World) :
    Calls Try.prog 58 #[.string k] w fun e w' => e = .returned (.int .i64 (mostK k)) ∧ w' = w := by
  rcases kd_cases k with rfl | rfl | rfl | rfl | rfl | rfl | rfl | rfl | ⟨a0, a1, a2, a3, a4, a5, a6, a7⟩
  case inr.inr.inr.inr.inr.inr.inr.inr =>
    rw [mostK_not (kd_not a0 a1 a2 a3 a4 a5 a6 a7)]
    have z0 := ks_ne (l := [99, 111, 109, 101]) a0
    have z1 := ks_ne (l := [111, 112, 101, 110]) a1
    have z2 := ks_ne (l := [115, 104, 117, 116]) a2
    have z3 := ks_ne (l := [101, 110, 116, 101, 114]) a3
    have z4 := ks_ne (l := [108, 101, 97, 118, 101]) a4
    have z5 := ks_ne (l := [97, 114, 114, 105, 118, 101]) a5
    have z6 := ks_ne (l := [108, 101, 118, 101, 108]) a6
    have z7 := ks_ne (l := [103, 111]) a7
    clear a0 a1 a2 a3 a4 a5 a6 a7
    go_enter Try.func58, Try.ntmps58
    go_wp2
    go_ret
    exact ⟨rfl, rfl⟩
  all_goals
    simp only [mostK_0, mostK_1, mostK_2, mostK_3, mostK_4, mostK_5, mostK_6, mostK_7]
    go_enter Try.func58, Try.ntmps58
    go_wp2
    go_ret
    exact ⟨rfl, rfl⟩
theorem plV_split (p : Plt) : plV p = (inR p.d 0 1 && (inR p.s 0 16 && (inR p.i 0 p.s && (inR p.w 0 500 && (inR p.g 0 9999 && (decide (0 < p.s) || decide (p.d = 0))))))) := rfl
set_option maxRecDepth 100000 in
set_option maxHeartbeats 2000000 in
theorem l14Good_c (p : Plt) (w : World) :
    Calls Try.prog 49 #[.agg #[.int .i64 p.d, .int .i64 p.s, .int .i64 p.i, .int .i64 p.w, .bool p.l, .int .i64 p.g]] w fun e w' => e = .returned (.bool (plV p)) ∧ Below w.heap.size w w' := by
  have HT := Lib.hid ((Below.refl w.heap.size w).alloc (Nat.le_refl _) (.cells #[.int .i64 p.d, .int .i64 p.s, .int .i64 p.i, .int .i64 p.w, .bool p.l, .int .i64 p.g] 25))
  have E0 := Lib.hid (fun W => l1In_c p.d 0 (1) W)
  have E1 := Lib.hid (fun W => l1In_c p.s 0 (16) W)
  have E2 := Lib.hid (fun W => l1In_c p.i 0 (p.s) W)
  have E3 := Lib.hid (fun W => l1In_c p.w 0 (500) W)
  have E4 := Lib.hid (fun W => l1In_c p.g 0 (9999) W)
  rw [plV_split]
  generalize inR p.d 0 1 = b0 at *
  generalize inR p.s 0 16 = b1 at *
  generalize inR p.i 0 p.s = b2 at *
  generalize inR p.w 0 500 = b3 at *
  generalize inR p.g 0 9999 = b4 at *
  by_cases hs : 0 < p.s
  · go_enter Try.func49, Try.ntmps49
    go_wp2_with fail
    refine (E0.out _).mono ?_
    rintro e w1 ⟨rfl, rfl⟩
    cases b0 with
    | false => go_wp2; go_ret; exact ⟨rfl, HT.out⟩
    | true =>
      go_wp2_with fail
      refine (E1.out _).mono ?_
      rintro e w1 ⟨rfl, rfl⟩
      cases b1 with
      | false => go_wp2; go_ret; exact ⟨rfl, HT.out⟩
      | true =>
        go_wp2_with fail
        refine (E2.out _).mono ?_
        rintro e w1 ⟨rfl, rfl⟩
        cases b2 with
        | false => go_wp2; go_ret; exact ⟨rfl, HT.out⟩
        | true =>
          go_wp2_with fail
          refine (E3.out _).mono ?_
          rintro e w1 ⟨rfl, rfl⟩
          cases b3 with
          | false => go_wp2; go_ret; exact ⟨rfl, HT.out⟩
          | true =>
            go_wp2_with fail
            refine (E4.out _).mono ?_
            rintro e w1 ⟨rfl, rfl⟩
            cases b4 with
            | false => go_wp2; go_ret; exact ⟨rfl, HT.out⟩
            | true => go_wp2; go_ret; exact ⟨by first | rfl | (simp [hs]; done) | (simp; rfl), HT.out⟩
  · go_enter Try.func49, Try.ntmps49
    go_wp2_with fail
    refine (E0.out _).mono ?_
    rintro e w1 ⟨rfl, rfl⟩
    cases b0 with
    | false => go_wp2; go_ret; exact ⟨rfl, HT.out⟩
    | true =>
      go_wp2_with fail
      refine (E1.out _).mono ?_
      rintro e w1 ⟨rfl, rfl⟩
      cases b1 with
      | false => go_wp2; go_ret; exact ⟨rfl, HT.out⟩
      | true =>
        go_wp2_with fail
        refine (E2.out _).mono ?_
        rintro e w1 ⟨rfl, rfl⟩
        cases b2 with
        | false => go_wp2; go_ret; exact ⟨rfl, HT.out⟩
        | true =>
          go_wp2_with fail
          refine (E3.out _).mono ?_
          rintro e w1 ⟨rfl, rfl⟩
          cases b3 with
          | false => go_wp2; go_ret; exact ⟨rfl, HT.out⟩
          | true =>
            go_wp2_with fail
            refine (E4.out _).mono ?_
            rintro e w1 ⟨rfl, rfl⟩
            cases b4 with
            | false => go_wp2; go_ret; exact ⟨rfl, HT.out⟩
            | true => go_wp2; go_ret; exact ⟨by first | rfl | (simp [hs]; done) | (simp; rfl), HT.out⟩
end Go.Proofs.Ytinlcbljpclccaa
