/- Platforms and events: events, entering, what is possible, steps. Condition: sizes. -/
import Derived.Test.YtinlcbljpclccaaBoC
import Derived.Test.YtinlcbljpclccaaAft
namespace Go.Proofs.Ytinlcbljpclccaa
open Go.RowKit
set_option linter.unusedVariables false
theorem evV_0 {e : Bev} (h : mostK e.k = 0) : evV e = decide (e.c = 0) := by rw [evV_impl, if_pos (by omega), h]; simp
theorem evV_pos {e : Bev} (h : 0 < mostK e.k) : evV e = inR e.c 1 (mostK e.k) := by rw [evV_impl, if_neg (by omega)]
theorem evV_neg {e : Bev} (h : mostK e.k < 0) : evV e = false := by rw [evV_impl, if_pos (by omega)]; simp; omega
set_option maxRecDepth 100000 in
set_option maxHeartbeats 2000000 in
theorem l14Event_c (e : Bev) (w : World) :
    Calls Try.prog 60 #[.agg #[.string e.k, .int .i64 e.c]] w fun x w' => x = .returned (.bool (evV e)) ∧ Below w.heap.size w w' := by
  have E0 := Lib.hid (fun W => l14Most_c e.k W)
  have E1 := Lib.hid (fun W => l1In_c e.c 1 (mostK e.k) W)
  have h0 := @evV_0 e; have h1 := @evV_pos e; have h2 := @evV_neg e
  have hb := mostK_bd e.k
  generalize hr : inR e.c 1 (mostK e.k) = r at *
  generalize evV e = b at *
  generalize mostK e.k = m at *
  clear hr
  rcases (by omega : m = 0 ∨ 0 < m ∨ m < 0) with hm | hm | hm
  · obtain rfl := h0 hm
    clear h0 h1 h2
    by_cases hc : e.c = 0
    · go_enter Try.func60, Try.ntmps60
      go_wp2_with fail
      refine (E0.out _).mono ?_
      rintro e1 w1 ⟨rfl, rfl⟩
      go_wp2
      go_ret
      exact ⟨by first | rfl | (simp_all; done) | (simp; omega) | (simp_all; intros; omega) | (simp; intros; omega), (Below.refl _ _).alloc (Nat.le_refl _) _⟩
    · go_enter Try.func60, Try.ntmps60
      go_wp2_with fail
      refine (E0.out _).mono ?_
      rintro e1 w1 ⟨rfl, rfl⟩
      go_wp2
      go_ret
      exact ⟨by first | rfl | (simp_all; done) | (simp; omega) | (simp_all; intros; omega) | (simp; intros; omega), (Below.refl _ _).alloc (Nat.le_refl _) _⟩
  · obtain rfl := h1 hm
    clear h0 h1 h2
    go_enter Try.func60, Try.ntmps60
    go_wp2_with fail
    refine (E0.out _).mono ?_
    rintro e1 w1 ⟨rfl, rfl⟩
    go_wp2_with fail
    refine (E1.out _).mono ?_
    rintro e1 w1 ⟨rfl, rfl⟩
    go_wp2
    go_ret
    exact ⟨by first | rfl | (simp_all; done) | (simp; omega) | (simp_all; intros; omega) | (simp; intros; omega), (Below.refl _ _).alloc (Nat.le_refl _) _⟩
  · obtain rfl := h2 hm
    clear h0 h1 h2
    go_enter Try.func60, Try.ntmps60
    go_wp2_with fail
    refine (E0.out _).mono ?_
    rintro e1 w1 ⟨rfl, rfl⟩
    go_wp2
    go_ret
    exact ⟨by first | rfl | (simp_all; done) | (simp; omega) | (simp_all; intros; omega) | (simp; intros; omega), (Below.refl _ _).alloc (Nat.le_refl _) _⟩
theorem l1Least_c (a b : Int) (w : World) :
    Calls Try.prog 57 #[.int .i64 a, .int .i64 b] w fun e w' => e = .returned (.int .i64 (min a b)) ∧ w' = w := by
  by_cases h : a < b
  · rw [Int.min_eq_left (by omega)]
    go_enter Try.func57, Try.ntmps57
    go_wp2
    go_ret
    exact ⟨rfl, rfl⟩
  · rw [Int.min_eq_right (by omega)]
    go_enter Try.func57, Try.ntmps57
    go_wp2
    go_ret
    exact ⟨rfl, rfl⟩
set_option maxRecDepth 100000 in
set_option maxHeartbeats 2000000 in
theorem l14Entering_c (p : Plt) (w : World) (h : plV p = true) :
    Calls Try.prog 63 #[.agg #[.int .i64 p.d, .int .i64 p.s, .int .i64 p.i, .int .i64 p.w, .bool p.l, .int .i64 p.g]] w fun x w' => x = .returned (.int .i64 (entP p)) ∧ Below w.heap.size w w' := by
  have hp := (plV_iff p).1 h
  clear h
  have E0 := Lib.hid (fun a b W => l1Least_c a b W)
  have q : IntKind.i64.wrap (p.s - p.i) = p.s - p.i := IntWalk.i64_in _ (by omega)
  unfold entP
  by_cases hd : p.d = 1
  · rw [if_pos hd]
    cases hl : p.l with
    | true =>
      go_enter Try.func63, Try.ntmps63
      go_wp2_with fail
      refine (E0.out _ _ _).mono ?_
      rintro e1 w1 ⟨rfl, rfl⟩
      go_wp2_with fail
      refine (E0.out _ _ _).mono ?_
      rintro e1 w1 ⟨rfl, rfl⟩
      go_wp2
      go_ret
      exact ⟨by first | rfl | (simp_all; done) | (simp; omega) | (simp_all; intros; omega) | (simp; intros; omega), (Below.refl _ _).alloc (Nat.le_refl _) _⟩
    | false =>
      go_enter Try.func63, Try.ntmps63
      go_wp2_with fail
      refine (E0.out _ _ _).mono ?_
      rintro e1 w1 ⟨rfl, rfl⟩
      go_wp2
      go_ret
      exact ⟨by first | rfl | (simp_all; done) | (simp; omega) | (simp_all; intros; omega) | (simp; intros; omega), (Below.refl _ _).alloc (Nat.le_refl _) _⟩
  · rw [if_neg hd]
    go_enter Try.func63, Try.ntmps63
    go_wp2
    go_ret
    exact ⟨by first | rfl | (simp_all; done) | (simp; omega) | (simp_all; intros; omega) | (simp; intros; omega), (Below.refl _ _).alloc (Nat.le_refl _) _⟩
theorem canP_0 (p : Plt) (c : Int) : canP p (kd kCome) c = decide (p.s = 0) := by rw [kd_0]; rfl
theorem canP_1 (p : Plt) (c : Int) : canP p (kd kOpen) c = (decide (0 < p.s) && decide (p.d = 0)) := by rw [kd_1]; rfl
theorem canP_2 (p : Plt) (c : Int) : canP p (kd kShut) c = decide (p.d = 1) := by rw [kd_2]; rfl
theorem canP_3 (p : Plt) (c : Int) : canP p (kd kEnter) c = decide (c ≤ entP p) := by rw [kd_3]; rfl
theorem canP_4 (p : Plt) (c : Int) : canP p (kd kLeave) c = (decide (p.d = 1) && decide (c ≤ p.i)) := by rw [kd_4]; rfl
theorem canP_5 (p : Plt) (c : Int) : canP p (kd kArrive) c = decide (p.w + c ≤ 500) := by rw [kd_5]; rfl
theorem canP_6 (p : Plt) (c : Int) : canP p (kd kLevel) c = (!p.l && decide (0 < p.w)) := by rw [kd_6]; rfl
theorem canP_7 (p : Plt) (c : Int) : canP p (kd kGo) c = (decide (0 < p.s) && (decide (p.d = 0) && decide (p.g < 9999))) := by rw [kd_7]; rfl
theorem canP_8 {p : Plt} {c : Int} {k : ByteArray} (h : kd k = 8) : canP p (kd k) c = (decide (0 < p.s) && (decide (p.d = 0) && decide (p.g < 9999))) := by rw [h]; rfl
set_option maxRecDepth 100000 in
set_option maxHeartbeats 4000000 in
theorem l14Can_c (p : Plt) (k : ByteArray) (c : Int) (w : World) (h : plV p = true) (hc : -1 ≤ c ∧ c ≤ 100) :
    Calls Try.prog 56 #[.agg #[.int .i64 p.d, .int .i64 p.s, .int .i64 p.i, .int .i64 p.w, .bool p.l, .int .i64 p.g], .agg #[.string k, .int .i64 c]] w fun x w' => x = .returned (.bool (canP p (kd k) c)) ∧ Below w.heap.size w w' := by
  have hp := (plV_iff p).1 h
  have E0 := Lib.hid (fun W => l14Entering_c p W h)
  clear h
  have q : IntKind.i64.wrap (p.w + c) = p.w + c := IntWalk.i64_in _ (by omega)
  rcases kd_cases k with rfl | rfl | rfl | rfl | rfl | rfl | rfl | rfl | ⟨a0, a1, a2, a3, a4, a5, a6, a7⟩
  · rw [canP_0]
    all_goals try (exfalso; omega)
    all_goals
      go_enter Try.func56, Try.ntmps56
      go_wp2
      go_ret
      exact ⟨by first | rfl | (simp_all; done) | (simp; omega) | (simp_all; intros; omega) | (simp; intros; omega), ((Below.refl _ _).alloc (Nat.le_refl _) _).alloc (by simp) _⟩
  · rw [canP_1]
    by_cases h1 : 0 < p.s
    all_goals by_cases h2 : p.d = 0
    all_goals try (exfalso; omega)
    all_goals
      go_enter Try.func56, Try.ntmps56
      go_wp2
      go_ret
      exact ⟨by first | rfl | (simp_all; done) | (simp; omega) | (simp_all; intros; omega) | (simp; intros; omega), ((Below.refl _ _).alloc (Nat.le_refl _) _).alloc (by simp) _⟩
  · rw [canP_2]
    all_goals try (exfalso; omega)
    all_goals
      go_enter Try.func56, Try.ntmps56
      go_wp2
      go_ret
      exact ⟨by first | rfl | (simp_all; done) | (simp; omega) | (simp_all; intros; omega) | (simp; intros; omega), ((Below.refl _ _).alloc (Nat.le_refl _) _).alloc (by simp) _⟩
  · rw [canP_3]
    go_enter Try.func56, Try.ntmps56
    go_wp2_with fail
    have hA := box_Plt w p 25 w.heap.size rfl ((w.alloc (.cells #[.int .i64 p.d, .int .i64 p.s, .int .i64 p.i, .int .i64 p.w, .bool p.l, .int .i64 p.g] 25)).alloc (.cells #[.string kEnter, .int .i64 c] 35)) ((Below.refl _ _).alloc (by simp) _)
    have hB := box_Bev (w.alloc (.cells #[.int .i64 p.d, .int .i64 p.s, .int .i64 p.i, .int .i64 p.w, .bool p.l, .int .i64 p.g] 25)) ⟨kEnter, c⟩ 35 (w.heap.size + 1) (by simp) ((w.alloc (.cells #[.int .i64 p.d, .int .i64 p.s, .int .i64 p.i, .int .i64 p.w, .bool p.l, .int .i64 p.g] 25)).alloc (.cells #[.string kEnter, .int .i64 c] 35)) (Below.refl _ _)
    have HT : Hid (Below w.heap.size w ((w.alloc (.cells #[.int .i64 p.d, .int .i64 p.s, .int .i64 p.i, .int .i64 p.w, .bool p.l, .int .i64 p.g] 25)).alloc (.cells #[.string kEnter, .int .i64 c] 35))) := Lib.hid (((Below.refl _ _).alloc (Nat.le_refl _) _).alloc (by simp) _)
    generalize ((w.alloc (.cells #[.int .i64 p.d, .int .i64 p.s, .int .i64 p.i, .int .i64 p.w, .bool p.l, .int .i64 p.g] 25)).alloc (.cells #[.string kEnter, .int .i64 c] 35)) = W0 at *
    obtain ⟨k0, k1, k2, k3, k4, k5⟩ := hA
    obtain ⟨_, e1⟩ := hB
    have K0 : ∀ x : Aft W0, x.w.cell? ⟨w.heap.size, 0, none⟩ = some (.int .i64 p.d) := fun x => x.cell k0
    have K1 : ∀ x : Aft W0, x.w.cell? ⟨w.heap.size, 1, none⟩ = some (.int .i64 p.s) := fun x => x.cell k1
    have K2 : ∀ x : Aft W0, x.w.cell? ⟨w.heap.size, 2, none⟩ = some (.int .i64 p.i) := fun x => x.cell k2
    have K3 : ∀ x : Aft W0, x.w.cell? ⟨w.heap.size, 3, none⟩ = some (.int .i64 p.w) := fun x => x.cell k3
    have K4 : ∀ x : Aft W0, x.w.cell? ⟨w.heap.size, 4, none⟩ = some (.bool p.l) := fun x => x.cell k4
    have K5 : ∀ x : Aft W0, x.w.cell? ⟨w.heap.size, 5, none⟩ = some (.int .i64 p.g) := fun x => x.cell k5
    have K6 : ∀ x : Aft W0, x.w.cell? ⟨w.heap.size + 1, 1, none⟩ = some (.int .i64 c) := fun x => x.cell e1
    clear k0 k1 k2 k3 k4 k5 e1
    refine wp_region_aft (w0 := W0) (by kernel_rfl) (by kernel_rfl) (Below.refl _ _) ?_
    repeat (go_big_quiet_step ((go_at_call 63; exact aft_of (E0.out _))))
    refine wpQuiet_nil ?_
    rintro _ ⟨x, rfl⟩
    go_wp2
    go_ret
    exact ⟨by first | rfl | (simp_all; done) | (simp; omega) | (simp_all; intros; omega) | (simp; intros; omega), HT.out.trans (x.below.mono HT.out.size)⟩
  · rw [canP_4]
    by_cases h1 : p.d = 1
    all_goals try (exfalso; omega)
    all_goals
      go_enter Try.func56, Try.ntmps56
      go_wp2
      go_ret
      exact ⟨by first | rfl | (simp_all; done) | (simp; omega) | (simp_all; intros; omega) | (simp; intros; omega), ((Below.refl _ _).alloc (Nat.le_refl _) _).alloc (by simp) _⟩
  · rw [canP_5]
    all_goals try (exfalso; omega)
    all_goals
      go_enter Try.func56, Try.ntmps56
      go_wp2
      go_ret
      exact ⟨by first | rfl | (simp_all; done) | (simp; omega) | (simp_all; intros; omega) | (simp; intros; omega), ((Below.refl _ _).alloc (Nat.le_refl _) _).alloc (by simp) _⟩
  · rw [canP_6]
    by_cases h1 : p.l = true
    all_goals try (exfalso; omega)
    all_goals
      go_enter Try.func56, Try.ntmps56
      go_wp2
      go_ret
      exact ⟨by first | rfl | (simp_all; done) | (simp; omega) | (simp_all; intros; omega) | (simp; intros; omega), ((Below.refl _ _).alloc (Nat.le_refl _) _).alloc (by simp) _⟩
  · rw [canP_7]
    by_cases h1 : 0 < p.s
    all_goals by_cases h2 : p.d = 0
    all_goals try (exfalso; omega)
    all_goals
      go_enter Try.func56, Try.ntmps56
      go_wp2
      go_ret
      exact ⟨by first | rfl | (simp_all; done) | (simp; omega) | (simp_all; intros; omega) | (simp; intros; omega), ((Below.refl _ _).alloc (Nat.le_refl _) _).alloc (by simp) _⟩
  · rw [canP_8 (kd_not a0 a1 a2 a3 a4 a5 a6 a7)]
    have z0 := ks_ne (l := [99, 111, 109, 101]) a0
    have z1 := ks_ne (l := [111, 112, 101, 110]) a1
    have z2 := ks_ne (l := [115, 104, 117, 116]) a2
    have z3 := ks_ne (l := [101, 110, 116, 101, 114]) a3
    have z4 := ks_ne (l := [108, 101, 97, 118, 101]) a4
    have z5 := ks_ne (l := [97, 114, 114, 105, 118, 101]) a5
    have z6 := ks_ne (l := [108, 101, 118, 101, 108]) a6
    have z7 := ks_ne (l := [103, 111]) a7
    clear a0 a1 a2 a3 a4 a5 a6 a7
    by_cases h1 : 0 < p.s
    all_goals by_cases h2 : p.d = 0
    all_goals try (exfalso; omega)
    all_goals
      go_enter Try.func56, Try.ntmps56
      go_wp2
      go_ret
      exact ⟨by first | rfl | (simp_all; done) | (simp; omega) | (simp_all; intros; omega) | (simp; intros; omega), ((Below.refl _ _).alloc (Nat.le_refl _) _).alloc (by simp) _⟩
end Go.Proofs.Ytinlcbljpclccaa
