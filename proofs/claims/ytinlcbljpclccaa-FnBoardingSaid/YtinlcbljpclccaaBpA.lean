/- The program's platforms and events: counts, validity, what is allowed, what is behind. Condition: sizes. -/
import Derived.Test.YtinlcbljpclccaaBoE
import Derived.Test.YtinlcbljpclccaaBoG
import Derived.Deep.DeepCutAuto
namespace Go.Proofs.Ytinlcbljpclccaa
open Go.RowKit
set_option linter.unusedVariables false
/-- The least count of a kind, the greatest one, whether it is one. -/
def bcL (k : ByteArray) : Int := if mostK k ≤ 0 then 0 else 1
def bcG (k : ByteArray) : Int := if mostK k ≤ 0 then 0 else mostK k
def bcO (k : ByteArray) : Bool := decide (0 ≤ mostK k)
theorem bc_bd (k : ByteArray) : 0 ≤ bcL k ∧ bcL k ≤ 1 ∧ 0 ≤ bcG k ∧ bcG k ≤ 100 := by
  have h := mostK_bd k
  unfold bcL bcG
  refine ⟨?_, ?_, ?_, ?_⟩ <;> split <;> omega
theorem evV_bc (e : Bev) : evV e = (bcO e.k && inR e.c (bcL e.k) (bcG e.k)) := by
  rw [Bool.eq_iff_iff, evV_iff, Bool.and_eq_true, inR_iff, bcO, decide_eq_true_eq]
  unfold bcL bcG
  split <;> omega
/-- What the program asks of a valid event first. -/
def alA (p : Plt) (n : Nat) (c : Int) : Bool := if n = 0 then decide (p.s = 0) else if n = 1 then (decide (0 < p.s) && decide (p.d = 0)) else if n = 2 then decide (p.d = 1) else if n = 3 then (decide (p.d = 1) && (!p.l || decide (c = 1))) else if n = 4 then decide (p.d = 1) else if n = 5 then true else if n = 6 then (!p.l && decide (0 < p.w)) else if n = 7 then (decide (0 < p.s) && decide (p.d = 0)) else true
theorem al_can {p : Plt} {e : Bev} (h : plV p = true) (hv : evV e = true) : canP p (kd e.k) e.c = (alA p (kd e.k) e.c && plV (stP p (kd e.k) e.c)) := by
  have h1 := (plV_iff p).1 h
  have h2 := evV_bd hv
  have h3 := (evV_iff e).1 hv
  unfold mostK at h3
  rw [Bool.eq_iff_iff, Bool.and_eq_true, plV_iff]
  have h6 := h2.2.2
  generalize kd e.k = n at *
  cases hl : p.l <;>
  rcases (by omega : n = 0 ∨ n = 1 ∨ n = 2 ∨ n = 3 ∨ n = 4 ∨ n = 5 ∨ n = 6 ∨ n = 7) with rfl | rfl | rfl | rfl | rfl | rfl | rfl | rfl <;>
    (simp [canP, alA, stP, mostV, entP, hl] at h3 ⊢ <;> (try split) <;> omega)
theorem alA_0 (p : Plt) (c : Int) : alA p (kd kCome) c = decide (p.s = 0) := by rw [kd_0]; rfl
theorem alA_1 (p : Plt) (c : Int) : alA p (kd kOpen) c = (decide (0 < p.s) && decide (p.d = 0)) := by rw [kd_1]; rfl
theorem alA_2 (p : Plt) (c : Int) : alA p (kd kShut) c = decide (p.d = 1) := by rw [kd_2]; rfl
theorem alA_3 (p : Plt) (c : Int) : alA p (kd kEnter) c = (decide (p.d = 1) && (!p.l || decide (c = 1))) := by rw [kd_3]; rfl
theorem alA_4 (p : Plt) (c : Int) : alA p (kd kLeave) c = decide (p.d = 1) := by rw [kd_4]; rfl
theorem alA_5 (p : Plt) (c : Int) : alA p (kd kArrive) c = true := by rw [kd_5]; rfl
theorem alA_6 (p : Plt) (c : Int) : alA p (kd kLevel) c = (!p.l && decide (0 < p.w)) := by rw [kd_6]; rfl
theorem alA_7 (p : Plt) (c : Int) : alA p (kd kGo) c = (decide (0 < p.s) && decide (p.d = 0)) := by rw [kd_7]; rfl
theorem alA_8 {p : Plt} {c : Int} {k : ByteArray} (h : kd k = 8) : alA p (kd k) c = true := by rw [h]; rfl
theorem bc_0 : bcL kCome = 1 ∧ bcG kCome = 16 ∧ bcO kCome = true := by unfold bcL bcG bcO; rw [mostK_0]; decide
theorem bc_1 : bcL kOpen = 0 ∧ bcG kOpen = 0 ∧ bcO kOpen = true := by unfold bcL bcG bcO; rw [mostK_1]; decide
theorem bc_2 : bcL kShut = 0 ∧ bcG kShut = 0 ∧ bcO kShut = true := by unfold bcL bcG bcO; rw [mostK_2]; decide
theorem bc_3 : bcL kEnter = 1 ∧ bcG kEnter = 16 ∧ bcO kEnter = true := by unfold bcL bcG bcO; rw [mostK_3]; decide
theorem bc_4 : bcL kLeave = 1 ∧ bcG kLeave = 16 ∧ bcO kLeave = true := by unfold bcL bcG bcO; rw [mostK_4]; decide
theorem bc_5 : bcL kArrive = 1 ∧ bcG kArrive = 100 ∧ bcO kArrive = true := by unfold bcL bcG bcO; rw [mostK_5]; decide
theorem bc_6 : bcL kLevel = 0 ∧ bcG kLevel = 0 ∧ bcO kLevel = true := by unfold bcL bcG bcO; rw [mostK_6]; decide
theorem bc_7 : bcL kGo = 0 ∧ bcG kGo = 0 ∧ bcO kGo = true := by unfold bcL bcG bcO; rw [mostK_7]; decide
theorem bc_not {k : ByteArray} (h : kd k = 8) : bcL k = 0 ∧ bcG k = 0 ∧ bcO k = false := by unfold bcL bcG bcO; rw [mostK_not h]; decide
theorem ret_bc {a b c d : Int} {x y : Bool} (h : a = c) (g : b = d) (k : x = y) : Ending.returned (.tuple #[.int .i64 a, .int .i64 b, .bool x]) = .returned (.tuple #[.int .i64 c, .int .i64 d, .bool y]) := by rw [h, g, k]
set_option maxHeartbeats 2000000 in
theorem boardCounts_c (k : ByteArray) (w : World) :
    Calls Try.prog 55 #[.string k] w fun e w' => e = .returned (.tuple #[.int .i64 (bcL k), .int .i64 (bcG k), .bool (bcO k)]) ∧ w' = w := by
  rcases kd_cases k with rfl | rfl | rfl | rfl | rfl | rfl | rfl | rfl | ⟨a0, a1, a2, a3, a4, a5, a6, a7⟩
  case inr.inr.inr.inr.inr.inr.inr.inr =>
    obtain ⟨e0, e1, e2⟩ := bc_not (kd_not a0 a1 a2 a3 a4 a5 a6 a7)
    have z0 := ks_ne (l := [99, 111, 109, 101]) a0
    have z1 := ks_ne (l := [111, 112, 101, 110]) a1
    have z2 := ks_ne (l := [115, 104, 117, 116]) a2
    have z3 := ks_ne (l := [101, 110, 116, 101, 114]) a3
    have z4 := ks_ne (l := [108, 101, 97, 118, 101]) a4
    have z5 := ks_ne (l := [97, 114, 114, 105, 118, 101]) a5
    have z6 := ks_ne (l := [108, 101, 118, 101, 108]) a6
    have z7 := ks_ne (l := [103, 111]) a7
    clear a0 a1 a2 a3 a4 a5 a6 a7
    rw [e0, e1, e2]
    clear e0 e1 e2
    go_enter Try.func55, Try.ntmps55
    go_wp2
    go_ret3
    exact ⟨rfl, rfl⟩
  · rw [bc_0.1, bc_0.2.1, bc_0.2.2]
    go_enter Try.func55, Try.ntmps55
    go_wp2
    go_ret3
    exact ⟨rfl, rfl⟩
  · rw [bc_1.1, bc_1.2.1, bc_1.2.2]
    go_enter Try.func55, Try.ntmps55
    go_wp2
    go_ret3
    exact ⟨rfl, rfl⟩
  · rw [bc_2.1, bc_2.2.1, bc_2.2.2]
    go_enter Try.func55, Try.ntmps55
    go_wp2
    go_ret3
    exact ⟨rfl, rfl⟩
  · rw [bc_3.1, bc_3.2.1, bc_3.2.2]
    go_enter Try.func55, Try.ntmps55
    go_wp2
    go_ret3
    exact ⟨rfl, rfl⟩
  · rw [bc_4.1, bc_4.2.1, bc_4.2.2]
    go_enter Try.func55, Try.ntmps55
    go_wp2
    go_ret3
    exact ⟨rfl, rfl⟩
  · rw [bc_5.1, bc_5.2.1, bc_5.2.2]
    go_enter Try.func55, Try.ntmps55
    go_wp2
    go_ret3
    exact ⟨rfl, rfl⟩
  · rw [bc_6.1, bc_6.2.1, bc_6.2.2]
    go_enter Try.func55, Try.ntmps55
    go_wp2
    go_ret3
    exact ⟨rfl, rfl⟩
  · rw [bc_7.1, bc_7.2.1, bc_7.2.2]
    go_enter Try.func55, Try.ntmps55
    go_wp2
    go_ret3
    exact ⟨rfl, rfl⟩
theorem plV_z {p : Plt} (h : p.s = 0) (h1 : p.d ≠ 0) : plV p = false := by rw [← Bool.not_eq_true]; intro hh; have := (plV_iff p).1 hh; omega
theorem plV_o {p : Plt} (h : ¬ (p.s = 0 ∧ p.d ≠ 0)) : plV p = (inR p.d 0 1 && (inR p.s 0 16 && (inR p.i 0 p.s && (inR p.w 0 500 && inR p.g 0 9999)))) := by
  rw [Bool.eq_iff_iff, plV_iff]
  simp only [Bool.and_eq_true, inR_iff]
  omega
set_option maxRecDepth 100000 in
set_option maxHeartbeats 2000000 in
theorem implIsPlatform_c (p : Plt) (w : World) :
    Calls Try.prog 16 #[.agg #[.int .i64 p.d, .int .i64 p.s, .int .i64 p.i, .int .i64 p.w, .bool p.l, .int .i64 p.g]] w fun e w' => e = .returned (.bool (plV p)) ∧ Below w.heap.size w w' := by
  have HT := Lib.hid ((Below.refl w.heap.size w).alloc (Nat.le_refl _) (.cells #[.int .i64 p.d, .int .i64 p.s, .int .i64 p.i, .int .i64 p.w, .bool p.l, .int .i64 p.g] 25))
  have E0 := Lib.hid (fun W => within_c p.d 0 (1) W)
  have E1 := Lib.hid (fun W => within_c p.s 0 (16) W)
  have E2 := Lib.hid (fun W => within_c p.i 0 (p.s) W)
  have E3 := Lib.hid (fun W => within_c p.w 0 (500) W)
  have E4 := Lib.hid (fun W => within_c p.g 0 (9999) W)
  by_cases hs : p.s = 0 ∧ p.d ≠ 0
  · rw [plV_z hs.1 hs.2]
    have q0 : (p.s == 0) = true := by simpa using hs.1
    have q1 : (p.d != 0) = true := by simpa using hs.2
    clear hs
    go_enter Try.func16, Try.ntmps16
    go_wp2
    go_ret
    exact ⟨rfl, HT.out⟩
  · rw [plV_o hs]
    generalize inR p.d 0 1 = b0 at *
    generalize inR p.s 0 16 = b1 at *
    generalize inR p.i 0 p.s = b2 at *
    generalize inR p.w 0 500 = b3 at *
    generalize inR p.g 0 9999 = b4 at *
    by_cases hs0 : p.s = 0
    · have q0 : (p.s == 0) = true := by simpa using hs0
      have hd0 : p.d = 0 := by omega
      have q1 : (p.d != 0) = false := by simpa using hd0
      clear hd0
      clear hs hs0
      go_enter Try.func16, Try.ntmps16
      go_wp2_with fail
      refine (E0.out _).mono ?_
      rintro e wx ⟨rfl, hwx⟩
      rw [hwx]; clear hwx
      cases b0 with
      | false => go_wp2; go_ret; exact ⟨rfl, HT.out⟩
      | true =>
        go_wp2_with fail
        refine (E1.out _).mono ?_
        rintro e wx ⟨rfl, hwx⟩
        rw [hwx]; clear hwx
        cases b1 with
        | false => go_wp2; go_ret; exact ⟨rfl, HT.out⟩
        | true =>
          go_wp2_with fail
          refine (E2.out _).mono ?_
          rintro e wx ⟨rfl, hwx⟩
          rw [hwx]; clear hwx
          cases b2 with
          | false => go_wp2; go_ret; exact ⟨rfl, HT.out⟩
          | true =>
            go_wp2_with fail
            refine (E3.out _).mono ?_
            rintro e wx ⟨rfl, hwx⟩
            rw [hwx]; clear hwx
            cases b3 with
            | false => go_wp2; go_ret; exact ⟨rfl, HT.out⟩
            | true =>
              go_wp2_with fail
              refine (E4.out _).mono ?_
              rintro e wx ⟨rfl, hwx⟩
              rw [hwx]; clear hwx
              cases b4 with
              | false => go_wp2; go_ret; exact ⟨rfl, HT.out⟩
              | true => go_wp2; go_ret; exact ⟨rfl, HT.out⟩
    · have q0 : (p.s == 0) = false := by simpa using hs0
      clear hs hs0
      go_enter Try.func16, Try.ntmps16
      go_wp2_with fail
      refine (E0.out _).mono ?_
      rintro e wx ⟨rfl, hwx⟩
      rw [hwx]; clear hwx
      cases b0 with
      | false => go_wp2; go_ret; exact ⟨rfl, HT.out⟩
      | true =>
        go_wp2_with fail
        refine (E1.out _).mono ?_
        rintro e wx ⟨rfl, hwx⟩
        rw [hwx]; clear hwx
        cases b1 with
        | false => go_wp2; go_ret; exact ⟨rfl, HT.out⟩
        | true =>
          go_wp2_with fail
          refine (E2.out _).mono ?_
          rintro e wx ⟨rfl, hwx⟩
          rw [hwx]; clear hwx
          cases b2 with
          | false => go_wp2; go_ret; exact ⟨rfl, HT.out⟩
          | true =>
            go_wp2_with fail
            refine (E3.out _).mono ?_
            rintro e wx ⟨rfl, hwx⟩
            rw [hwx]; clear hwx
            cases b3 with
            | false => go_wp2; go_ret; exact ⟨rfl, HT.out⟩
            | true =>
              go_wp2_with fail
              refine (E4.out _).mono ?_
              rintro e wx ⟨rfl, hwx⟩
              rw [hwx]; clear hwx
              cases b4 with
              | false => go_wp2; go_ret; exact ⟨rfl, HT.out⟩
              | true => go_wp2; go_ret; exact ⟨rfl, HT.out⟩
set_option maxRecDepth 100000 in
set_option maxHeartbeats 2000000 in
theorem implIsBoardEvent_c (e : Bev) (w : World) :
    Calls Try.prog 27 #[.agg #[.string e.k, .int .i64 e.c]] w fun x w' => x = .returned (.bool (evV e)) ∧ Below w.heap.size w w' := by
  have HT := Lib.hid ((Below.refl w.heap.size w).alloc (Nat.le_refl _) (.cells #[.string e.k, .int .i64 e.c] 35))
  have E0 := Lib.hid (fun W => boardCounts_c e.k W)
  have E1 := Lib.hid (fun W => within_c e.c (bcL e.k) (bcG e.k) W)
  rw [evV_bc]
  generalize inR e.c (bcL e.k) (bcG e.k) = r at *
  generalize bcL e.k = u at *
  generalize bcG e.k = v at *
  generalize bcO e.k = b at *
  go_enter Try.func27, Try.ntmps27
  go_wp2_with fail
  refine (E0.out _).mono ?_
  rintro x wx ⟨rfl, hwx⟩
  rw [hwx]; clear hwx
  cases b with
  | false => go_wp2; go_ret; exact ⟨rfl, HT.out⟩
  | true =>
    go_wp2_with fail
    refine (E1.out _).mono ?_
    rintro x wx ⟨rfl, hwx⟩
    rw [hwx]; clear hwx
    go_wp2
    go_ret
    exact ⟨rfl, HT.out⟩
set_option maxRecDepth 100000 in
set_option maxHeartbeats 4000000 in
theorem doesAllow_c (p : Plt) (k : ByteArray) (c : Int) (w : World) (h : plV p = true) (hc : 0 ≤ c ∧ c ≤ 100) :
    Calls Try.prog 52 #[.agg #[.int .i64 p.d, .int .i64 p.s, .int .i64 p.i, .int .i64 p.w, .bool p.l, .int .i64 p.g], .agg #[.string k, .int .i64 c]] w fun x w' => x = .returned (.bool (alA p (kd k) c)) ∧ Below w.heap.size w w' := by
  have hp := (plV_iff p).1 h
  clear h
  rcases kd_cases k with rfl | rfl | rfl | rfl | rfl | rfl | rfl | rfl | ⟨a0, a1, a2, a3, a4, a5, a6, a7⟩
  · rw [alA_0]
    all_goals try (exfalso; omega)
    all_goals
      go_enter Try.func52, Try.ntmps52
      go_wp2
      go_ret
      exact ⟨by first | rfl | (simp_all; done) | (simp; omega) | (simp_all; intros; omega) | (simp; intros; omega), ((Below.refl _ _).alloc (Nat.le_refl _) _).alloc (by simp) _⟩
  · rw [alA_1]
    by_cases h1 : 0 < p.s
    all_goals by_cases h2 : p.d = 0
    all_goals try (exfalso; omega)
    all_goals
      go_enter Try.func52, Try.ntmps52
      go_wp2
      go_ret
      exact ⟨by first | rfl | (simp_all; done) | (simp; omega) | (simp_all; intros; omega) | (simp; intros; omega), ((Below.refl _ _).alloc (Nat.le_refl _) _).alloc (by simp) _⟩
  · rw [alA_2]
    all_goals try (exfalso; omega)
    all_goals
      go_enter Try.func52, Try.ntmps52
      go_wp2
      go_ret
      exact ⟨by first | rfl | (simp_all; done) | (simp; omega) | (simp_all; intros; omega) | (simp; intros; omega), ((Below.refl _ _).alloc (Nat.le_refl _) _).alloc (by simp) _⟩
  · rw [alA_3]
    by_cases h1 : p.d = 1
    all_goals by_cases h2 : p.l = true
    all_goals by_cases h3 : c = 1
    all_goals try (exfalso; omega)
    all_goals
      go_enter Try.func52, Try.ntmps52
      go_wp2
      go_ret
      exact ⟨by first | rfl | (simp_all; done) | (simp; omega) | (simp_all; intros; omega) | (simp; intros; omega), ((Below.refl _ _).alloc (Nat.le_refl _) _).alloc (by simp) _⟩
  · rw [alA_4]
    all_goals try (exfalso; omega)
    all_goals
      go_enter Try.func52, Try.ntmps52
      go_wp2
      go_ret
      exact ⟨by first | rfl | (simp_all; done) | (simp; omega) | (simp_all; intros; omega) | (simp; intros; omega), ((Below.refl _ _).alloc (Nat.le_refl _) _).alloc (by simp) _⟩
  · rw [alA_5]
    all_goals try (exfalso; omega)
    all_goals
      go_enter Try.func52, Try.ntmps52
      go_wp2
      go_ret
      exact ⟨by first | rfl | (simp_all; done) | (simp; omega) | (simp_all; intros; omega) | (simp; intros; omega), ((Below.refl _ _).alloc (Nat.le_refl _) _).alloc (by simp) _⟩
  · rw [alA_6]
    by_cases h1 : p.l = true
    all_goals try (exfalso; omega)
    all_goals
      go_enter Try.func52, Try.ntmps52
      go_wp2
      go_ret
      exact ⟨by first | rfl | (simp_all; done) | (simp; omega) | (simp_all; intros; omega) | (simp; intros; omega), ((Below.refl _ _).alloc (Nat.le_refl _) _).alloc (by simp) _⟩
  · rw [alA_7]
    by_cases h1 : 0 < p.s
    all_goals by_cases h2 : p.d = 0
    all_goals try (exfalso; omega)
    all_goals
      go_enter Try.func52, Try.ntmps52
      go_wp2
      go_ret
      exact ⟨by first | rfl | (simp_all; done) | (simp; omega) | (simp_all; intros; omega) | (simp; intros; omega), ((Below.refl _ _).alloc (Nat.le_refl _) _).alloc (by simp) _⟩
  · rw [alA_8 (kd_not a0 a1 a2 a3 a4 a5 a6 a7)]
    have z0 := ks_ne (l := [99, 111, 109, 101]) a0
    have z1 := ks_ne (l := [111, 112, 101, 110]) a1
    have z2 := ks_ne (l := [115, 104, 117, 116]) a2
    have z3 := ks_ne (l := [101, 110, 116, 101, 114]) a3
    have z4 := ks_ne (l := [108, 101, 97, 118, 101]) a4
    have z5 := ks_ne (l := [97, 114, 114, 105, 118, 101]) a5
    have z6 := ks_ne (l := [108, 101, 118, 101, 108]) a6
    have z7 := ks_ne (l := [103, 111]) a7
    clear a0 a1 a2 a3 a4 a5 a6 a7
    go_enter Try.func52, Try.ntmps52
    go_wp2
    go_ret
    exact ⟨by first | rfl | (simp_all; done) | (simp; omega) | (simp_all; intros; omega) | (simp; intros; omega), ((Below.refl _ _).alloc (Nat.le_refl _) _).alloc (by simp) _⟩
end Go.Proofs.Ytinlcbljpclccaa
