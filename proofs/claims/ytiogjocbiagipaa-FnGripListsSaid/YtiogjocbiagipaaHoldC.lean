/- DoesHold: the program's and the specification's answer as one function. No condition. -/
import Derived.Test.YtiogjocbiagipaaPullC
import Derived.Test.YtiogjocbiagipaaAft
namespace Go.Proofs.Ytiogjocbiagipaa
open Go.RowKit
set_option linter.unusedVariables false
/-- A grip holds. -/
def dhB (k : Grp) (a s : Int) : Bool := decide (3 * plX a s ≤ k.s) && decide (k.w ≤ 40)
def dhOk (k : Grp) (a s : Int) : Bool := plOk a s && isG k
def dhV (k : Grp) (a s : Int) : Bool := dhOk k a s && dhB k a s
theorem dh_p {k : Grp} {a s : Int} (h : plOk a s = false) : dhOk k a s = false := by simp [dhOk, h]
theorem dh_g {k : Grp} {a s : Int} (h : isG k = false) : dhOk k a s = false := by simp [dhOk, h]
theorem dh_no {k : Grp} {a s : Int} (h : dhOk k a s = false) : dhV k a s = false := by simp [dhV, h]
theorem dh_yes {k : Grp} {a s : Int} (h : dhOk k a s = true) : dhV k a s = dhB k a s := by simp [dhV, h]
theorem dh_all {k : Grp} {a s : Int} (h : plOk a s = true) (g : isG k = true) : dhOk k a s = true := by simp [dhOk, h, g]
theorem ret_bb {a b c d : Bool} (h : a = b) (g : c = d) : Ending.returned (.tuple #[.bool a, .bool c]) = .returned (.tuple #[.bool b, .bool d]) := by rw [h, g]
theorem dhB_1 {k : Grp} {a s : Int} (h : ¬ 3 * plX a s ≤ k.s) : dhB k a s = false := by simp [dhB, h]
theorem dhB_2 {k : Grp} {a s : Int} (h : 3 * plX a s ≤ k.s) (g : ¬ k.w ≤ 40) : dhB k a s = false := by simp [dhB, g]
theorem dhB_3 {k : Grp} {a s : Int} (h : 3 * plX a s ≤ k.s) (g : k.w ≤ 40) : dhB k a s = true := by simp [dhB, h, g]
set_option maxRecDepth 100000 in
set_option maxHeartbeats 2000000 in
theorem l7Holds_c (k : Grp) (a s : Int) (w : World) (hp : plOk a s = true) :
    Calls Try.prog 61 #[.agg #[.int .i64 k.i, .int .i64 k.s, .int .i64 k.w, .int .i64 k.g, .int .i64 k.p], .int .i64 a, .int .i64 s] w fun e w' => e = .returned (.bool (dhB k a s)) ∧ Below w.heap.size w w' := by
  have EP := Lib.hid (fun W => l7Pull_c a s W hp)
  obtain ⟨x1, x2⟩ := plX_bd hp
  have H1 := Lib.hid (dhB_1 (k := k) (a := a) (s := s))
  have H2 := Lib.hid (dhB_2 (k := k) (a := a) (s := s))
  have H3 := Lib.hid (dhB_3 (k := k) (a := a) (s := s))
  have e1 : IntKind.i64.wrap (3 * plX a s) = 3 * plX a s := IntWalk.i64_in _ (by omega)
  generalize plX a s = X at *
  clear hp
  by_cases h1 : 3 * X ≤ k.s
  · by_cases h2 : k.w ≤ 40
    · skip
      have t2 : decide (k.w ≤ 40) = true := by simpa using h2
      have HH := Lib.hid (H3.out h1 h2)
      go_enter Try.func61, Try.ntmps61
      go_wp2_with fail
      have HWB : Hid (Below w.heap.size w (w.alloc (.cells #[.int .i64 k.i, .int .i64 k.s, .int .i64 k.w, .int .i64 k.g, .int .i64 k.p] 25))) := Lib.hid ((Below.refl _ _).alloc (Nat.le_refl _) _)
      have d := box_Grp w k 25 _ rfl (w.alloc (.cells #[.int .i64 k.i, .int .i64 k.s, .int .i64 k.w, .int .i64 k.g, .int .i64 k.p] 25)) (Below.refl _ _)
      have hsW : (w.alloc (.cells #[.int .i64 k.i, .int .i64 k.s, .int .i64 k.w, .int .i64 k.g, .int .i64 k.p] 25)).heap.size = w.heap.size + 1 := by simp
      generalize w.alloc (.cells #[.int .i64 k.i, .int .i64 k.s, .int .i64 k.w, .int .i64 k.g, .int .i64 k.p] 25) = W0 at *
      have D1' : ∀ x : Aft W0, x.w.cell? ⟨w.heap.size, 1, none⟩ = some (.int .i64 k.s) := fun x => x.cell d.2.1
      have D2' : ∀ x : Aft W0, x.w.cell? ⟨w.heap.size, 2, none⟩ = some (.int .i64 k.w) := fun x => x.cell d.2.2.1
      clear d
      refine wp_region_aft (w0 := W0) (by kernel_rfl) (by kernel_rfl) (Below.refl _ _) ?_
      repeat (go_big_quiet_step ((go_at_call 65; exact aft_same (EP.out _))))
      refine wpQuiet_nil ?_
      rintro _ ⟨x, rfl⟩
      go_wp2
      go_ret
      exact ⟨ret_b (by rw [HH.out] <;> first | rfl | (simp; omega)), HWB.out.trans (x.below.mono HWB.out.size)⟩
    · skip
      have HH := Lib.hid (H2.out h1 h2)
      have t2 : decide (k.w ≤ 40) = false := by simpa using h2
      go_enter Try.func61, Try.ntmps61
      go_wp2_with fail
      have HWB : Hid (Below w.heap.size w (w.alloc (.cells #[.int .i64 k.i, .int .i64 k.s, .int .i64 k.w, .int .i64 k.g, .int .i64 k.p] 25))) := Lib.hid ((Below.refl _ _).alloc (Nat.le_refl _) _)
      have d := box_Grp w k 25 _ rfl (w.alloc (.cells #[.int .i64 k.i, .int .i64 k.s, .int .i64 k.w, .int .i64 k.g, .int .i64 k.p] 25)) (Below.refl _ _)
      have hsW : (w.alloc (.cells #[.int .i64 k.i, .int .i64 k.s, .int .i64 k.w, .int .i64 k.g, .int .i64 k.p] 25)).heap.size = w.heap.size + 1 := by simp
      generalize w.alloc (.cells #[.int .i64 k.i, .int .i64 k.s, .int .i64 k.w, .int .i64 k.g, .int .i64 k.p] 25) = W0 at *
      have D1' : ∀ x : Aft W0, x.w.cell? ⟨w.heap.size, 1, none⟩ = some (.int .i64 k.s) := fun x => x.cell d.2.1
      have D2' : ∀ x : Aft W0, x.w.cell? ⟨w.heap.size, 2, none⟩ = some (.int .i64 k.w) := fun x => x.cell d.2.2.1
      clear d
      refine wp_region_aft (w0 := W0) (by kernel_rfl) (by kernel_rfl) (Below.refl _ _) ?_
      repeat (go_big_quiet_step ((go_at_call 65; exact aft_same (EP.out _))))
      refine wpQuiet_nil ?_
      rintro _ ⟨x, rfl⟩
      go_wp2
      go_ret
      exact ⟨ret_b (by rw [HH.out] <;> first | rfl | (simp; omega)), HWB.out.trans (x.below.mono HWB.out.size)⟩
  · skip
    have t2 : decide (3 * X ≤ k.s) = false := by simpa using h1
    have HH := Lib.hid (H1.out h1)
    go_enter Try.func61, Try.ntmps61
    go_wp2_with fail
    have HWB : Hid (Below w.heap.size w (w.alloc (.cells #[.int .i64 k.i, .int .i64 k.s, .int .i64 k.w, .int .i64 k.g, .int .i64 k.p] 25))) := Lib.hid ((Below.refl _ _).alloc (Nat.le_refl _) _)
    have d := box_Grp w k 25 _ rfl (w.alloc (.cells #[.int .i64 k.i, .int .i64 k.s, .int .i64 k.w, .int .i64 k.g, .int .i64 k.p] 25)) (Below.refl _ _)
    have hsW : (w.alloc (.cells #[.int .i64 k.i, .int .i64 k.s, .int .i64 k.w, .int .i64 k.g, .int .i64 k.p] 25)).heap.size = w.heap.size + 1 := by simp
    generalize w.alloc (.cells #[.int .i64 k.i, .int .i64 k.s, .int .i64 k.w, .int .i64 k.g, .int .i64 k.p] 25) = W0 at *
    have D1' : ∀ x : Aft W0, x.w.cell? ⟨w.heap.size, 1, none⟩ = some (.int .i64 k.s) := fun x => x.cell d.2.1
    have D2' : ∀ x : Aft W0, x.w.cell? ⟨w.heap.size, 2, none⟩ = some (.int .i64 k.w) := fun x => x.cell d.2.2.1
    clear d
    refine wp_region_aft (w0 := W0) (by kernel_rfl) (by kernel_rfl) (Below.refl _ _) ?_
    repeat (go_big_quiet_step ((go_at_call 65; exact aft_same (EP.out _))))
    refine wpQuiet_nil ?_
    rintro _ ⟨x, rfl⟩
    go_wp2
    go_ret
    exact ⟨ret_b (by rw [HH.out] <;> first | rfl | (simp; omega)), HWB.out.trans (x.below.mono HWB.out.size)⟩
set_option maxRecDepth 100000 in
set_option maxHeartbeats 2000000 in
theorem specDoesHold_w (k : Grp) (a s : Int) (w : World) :
    Calls Try.prog 21 #[.agg #[.int .i64 k.i, .int .i64 k.s, .int .i64 k.w, .int .i64 k.g, .int .i64 k.p], .int .i64 a, .int .i64 s] w fun e w' => e = .returned (.tuple #[.bool (dhV k a s), .bool (dhOk k a s)]) ∧ Below w.heap.size w w' := by
  have E0 := Lib.hid (fun W => l7One_c k W)
  have E1 := Lib.hid (fun W => l7Load_c a W)
  have E2 := Lib.hid (fun W => l7Slope_c s W)
  cases hk : isG k with
  | false =>
    rw [hk] at E0
    have HD := Lib.hid (dh_g (a := a) (s := s) hk)
    have HV := Lib.hid (dh_no HD.out)
    clear hk E1 E2
    go_enter Try.func21, Try.ntmps21
    go_wp2_with fail
    refine (E0.out _).mono ?_
    rintro e w1 ⟨rfl, b1⟩
    go_wp2
    go_ret2
    exact ⟨ret_bb HV.out.symm HD.out.symm, ((((Below.refl _ _).alloc (Nat.le_refl _) _)).trans (b1.mono (by simp)))⟩
  | true =>
    cases hm : inR a 100 4000 with
    | false =>
      rw [hk] at E0
      rw [hm] at E1
      have HD := Lib.hid (dh_p (k := k) (plOk_no1 (s := s) hm))
      have HV := Lib.hid (dh_no HD.out)
      clear hk hm E2
      go_enter Try.func21, Try.ntmps21
      go_wp2_with fail
      refine (E0.out _).mono ?_
      rintro e w1 ⟨rfl, b1⟩
      go_wp2_with fail
      refine (E1.out _).mono ?_
      rintro e w2 ⟨rfl, rfl⟩
      go_wp2
      go_ret2
      exact ⟨ret_bb HV.out.symm HD.out.symm, ((((Below.refl _ _).alloc (Nat.le_refl _) _)).trans (b1.mono (by simp)))⟩
    | true =>
      cases hn : inR s 0 100 with
      | false =>
        rw [hk] at E0
        rw [hm] at E1
        rw [hn] at E2
        have HD := Lib.hid (dh_p (k := k) (plOk_no2 (a := a) hn))
        have HV := Lib.hid (dh_no HD.out)
        clear hk hm hn
        go_enter Try.func21, Try.ntmps21
        go_wp2_with fail
        refine (E0.out _).mono ?_
        rintro e w1 ⟨rfl, b1⟩
        go_wp2_with fail
        refine (E1.out _).mono ?_
        rintro e w2 ⟨rfl, rfl⟩
        go_wp2_with fail
        refine (E2.out _).mono ?_
        rintro e w3 ⟨rfl, rfl⟩
        go_wp2
        go_ret2
        exact ⟨ret_bb HV.out.symm HD.out.symm, ((((Below.refl _ _).alloc (Nat.le_refl _) _)).trans (b1.mono (by simp)))⟩
      | true =>
        have hp := plOk_yes hm hn
        rw [hm] at E1
        rw [hn] at E2
        have HD := Lib.hid (dh_all hp hk)
        rw [hk] at E0
        have HV := Lib.hid (dh_yes HD.out)
        have EH := Lib.hid (fun W => l7Holds_c k a s W hp)
        have HK := Lib.hid (box_Grp w k 25 _ rfl)
        clear hk hm hn hp
        go_enter Try.func21, Try.ntmps21
        go_wp2_with fail
        refine (E0.out _).mono ?_
        rintro e w1 ⟨rfl, b1⟩
        go_wp2_with fail
        refine (E1.out _).mono ?_
        rintro e w2 ⟨rfl, rfl⟩
        go_wp2_with fail
        refine (E2.out _).mono ?_
        rintro e w3 ⟨rfl, rfl⟩
        obtain ⟨k0, k1, k2, k3, k4⟩ := HK.out _ (by simpa using b1)
        go_wp2_with fail
        refine (EH.out _).mono ?_
        rintro e w4 ⟨rfl, b4⟩
        go_wp2
        go_ret2
        exact ⟨ret_bb HV.out.symm HD.out.symm, (((((Below.refl _ _).alloc (Nat.le_refl _) _)).trans (b1.mono (by simp))).trans (b4.mono (Nat.le_trans (by simp) b1.size)))⟩
set_option maxRecDepth 100000 in
set_option maxHeartbeats 2000000 in
theorem implDoesHold_w (k : Grp) (a s : Int) (w : World) :
    Calls Try.prog 19 #[.agg #[.int .i64 k.i, .int .i64 k.s, .int .i64 k.w, .int .i64 k.g, .int .i64 k.p], .int .i64 a, .int .i64 s] w fun e w' => e = .returned (.tuple #[.bool (dhV k a s), .bool (dhOk k a s)]) ∧ Below w.heap.size w w' := by
  have E0 := Lib.hid (fun W => implPullOf_w a s W)
  have E1 := Lib.hid (fun W => implIsGrip_c k W)
  have HK := Lib.hid (box_Grp w k 25 _ rfl)
  cases hp : plOk a s with
  | false =>
    rw [hp] at E0
    have HD := Lib.hid (dh_p (k := k) hp)
    have HV := Lib.hid (dh_no HD.out)
    clear hp E1
    go_enter Try.func19, Try.ntmps19
    go_wp2_with fail
    refine (E0.out _).mono ?_
    rintro e w1 ⟨rfl, rfl⟩
    go_wp2
    go_ret2
    exact ⟨ret_bb HV.out.symm HD.out.symm, ((Below.refl _ _).alloc (Nat.le_refl _) _)⟩
  | true =>
    cases hk : isG k with
    | false =>
      rw [hp] at E0
      rw [hk] at E1
      have HD := Lib.hid (dh_g (a := a) (s := s) hk)
      have HV := Lib.hid (dh_no HD.out)
      clear hp hk
      go_enter Try.func19, Try.ntmps19
      go_wp2_with fail
      refine (E0.out _).mono ?_
      rintro e w1 ⟨rfl, rfl⟩
      obtain ⟨k0, k1, k2, k3, k4⟩ := HK.out _ (Below.refl _ _)
      go_wp2_with fail
      refine (E1.out _).mono ?_
      rintro e w2 ⟨rfl, b1⟩
      go_wp2
      go_ret2
      exact ⟨ret_bb HV.out.symm HD.out.symm, ((((Below.refl _ _).alloc (Nat.le_refl _) _)).trans (b1.mono (by simp)))⟩
    | true =>
      have HD := Lib.hid (dh_all hp hk)
      have HV := Lib.hid (dh_yes HD.out)
      have hv := pl_yes hp
      obtain ⟨x1, x2⟩ := plX_bd hp
      have H1 := Lib.hid (dhB_1 (k := k) (a := a) (s := s))
      have H2 := Lib.hid (dhB_2 (k := k) (a := a) (s := s))
      have H3 := Lib.hid (dhB_3 (k := k) (a := a) (s := s))
      rw [hp, hv] at E0
      rw [hk] at E1
      have e1 : IntKind.i64.wrap (3 * plX a s) = 3 * plX a s := IntWalk.i64_in _ (by omega)
      generalize plX a s = X at *
      clear hp hk hv
      by_cases h1 : 3 * X ≤ k.s
      · by_cases h2 : k.w ≤ 40
        · have t2 : decide (k.w ≤ 40) = true := by simpa using h2
          have HH := Lib.hid (H3.out h1 h2)
          go_enter Try.func19, Try.ntmps19
          go_wp2_with fail
          refine (E0.out _).mono ?_
          rintro e w1 ⟨rfl, rfl⟩
          obtain ⟨k0, k1, k2, k3, k4⟩ := HK.out _ (Below.refl _ _)
          go_wp2_with fail
          refine (E1.out _).mono ?_
          rintro e w2 ⟨rfl, b1⟩
          clear k0 k1 k2 k3 k4
          obtain ⟨k0, k1, k2, k3, k4⟩ := HK.out _ (by simpa using b1)
          go_wp2
          go_ret2
          exact ⟨ret_bb (by rw [HV.out, HH.out] <;> first | rfl | (simp; omega)) HD.out.symm, ((((Below.refl _ _).alloc (Nat.le_refl _) _)).trans (b1.mono (by simp)))⟩
        · have t2 : decide (k.w ≤ 40) = false := by simpa using h2
          have HH := Lib.hid (H2.out h1 h2)
          go_enter Try.func19, Try.ntmps19
          go_wp2_with fail
          refine (E0.out _).mono ?_
          rintro e w1 ⟨rfl, rfl⟩
          obtain ⟨k0, k1, k2, k3, k4⟩ := HK.out _ (Below.refl _ _)
          go_wp2_with fail
          refine (E1.out _).mono ?_
          rintro e w2 ⟨rfl, b1⟩
          clear k0 k1 k2 k3 k4
          obtain ⟨k0, k1, k2, k3, k4⟩ := HK.out _ (by simpa using b1)
          go_wp2
          go_ret2
          exact ⟨ret_bb (by rw [HV.out, HH.out] <;> first | rfl | (simp; omega)) HD.out.symm, ((((Below.refl _ _).alloc (Nat.le_refl _) _)).trans (b1.mono (by simp)))⟩
      · have HH := Lib.hid (H1.out h1)
        go_enter Try.func19, Try.ntmps19
        go_wp2_with fail
        refine (E0.out _).mono ?_
        rintro e w1 ⟨rfl, rfl⟩
        obtain ⟨k0, k1, k2, k3, k4⟩ := HK.out _ (Below.refl _ _)
        go_wp2_with fail
        refine (E1.out _).mono ?_
        rintro e w2 ⟨rfl, b1⟩
        clear k0 k1 k2 k3 k4
        obtain ⟨k0, k1, k2, k3, k4⟩ := HK.out _ (by simpa using b1)
        go_wp2
        go_ret2
        exact ⟨ret_bb (by rw [HV.out, HH.out] <;> first | rfl | (simp; omega)) HD.out.symm, ((((Below.refl _ _).alloc (Nat.le_refl _) _)).trans (b1.mono (by simp)))⟩
theorem implDoesHold_c (k : Grp) (a s : Int) (w : World) (hwa : (Lit.int .i64 a).wf = true) (hws : (Lit.int .i64 s).wf = true) :
    Calls Try.prog 19 #[.agg #[.int .i64 k.i, .int .i64 k.s, .int .i64 k.w, .int .i64 k.g, .int .i64 k.p], .int .i64 a, .int .i64 s] w fun e w' => e = .returned (.tuple #[.bool (dhV k a s), .bool (dhOk k a s)]) ∧ Below w.heap.size w w' := implDoesHold_w k a s w
theorem specDoesHold_c (k : Grp) (a s : Int) (w : World) (hwa : (Lit.int .i64 a).wf = true) (hws : (Lit.int .i64 s).wf = true) :
    Calls Try.prog 21 #[.agg #[.int .i64 k.i, .int .i64 k.s, .int .i64 k.w, .int .i64 k.g, .int .i64 k.p], .int .i64 a, .int .i64 s] w fun e w' => e = .returned (.tuple #[.bool (dhV k a s), .bool (dhOk k a s)]) ∧ Below w.heap.size w w' := specDoesHold_w k a s w
end Go.Proofs.Ytiogjocbiagipaa
