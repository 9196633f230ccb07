/- RidesLeft and CanRide: the program's and the specification's answer as one function. Condition: the table of rules is as laid. -/
import Derived.Test.YtpknodbkjjcdjaaDoorTikR
import Derived.Deep.DeepCutAuto
namespace Go.Proofs.YtpknodbkjjcdjaaDoor
open Go.RowKit
set_option linter.unusedVariables false
/-- What RidesLeft answers. -/
def rlU (k : Tik) (D : Int) : Int := if rdOk k D then rdU k D else 0
def rlD (k : Tik) (D : Int) : Int := if rdOk k D then rdD k D else 0
theorem rl_no {k : Tik} {D : Int} (h : rdOk k D = false) : rlU k D = 0 ∧ rlD k D = 0 := by simp [rlU, rlD, h]
theorem rl_yes {k : Tik} {D : Int} (h : rdOk k D = true) : rlU k D = rdU k D ∧ rlD k D = rdD k D := by simp [rlU, rlD, h]
/-- What CanRide answers. -/
def crV (k : Tik) (D : Int) (u : Bool) : Bool := rdOk k D && canT k D u
theorem ret_3 {a b c d : Int} {x y : Bool} (h : a = b) (g : c = d) (k : x = y) : Ending.returned (.tuple #[.int .i64 a, .int .i64 c, .bool x]) = .returned (.tuple #[.int .i64 b, .int .i64 d, .bool y]) := by rw [h, g, k]
theorem ret_bb {a b c d : Bool} (h : a = b) (g : c = d) : Ending.returned (.tuple #[.bool a, .bool c]) = .returned (.tuple #[.bool b, .bool d]) := by rw [h, g]
theorem cr_of (k : Tik) (D : Int) (u : Bool) : crV k D u = if u then decide (0 < rlU k D) else decide (0 < rlD k D) := by
  unfold crV canT rlU rlD
  cases rdOk k D <;> cases u <;> simp
set_option maxRecDepth 100000 in
set_option maxHeartbeats 2000000 in
theorem specRidesLeft_c (k : Tik) (D : Int) (w : World) :
    Calls Tryd.prog 51 #[.agg #[.int .i64 k.i, .int .i64 k.s, .int .i64 k.w, .int .i64 k.g, .int .i64 k.p], .int .i64 D] w fun e w' => e = .returned (.tuple #[.int .i64 (rlU k D), .int .i64 (rlD k D), .bool (rdOk k D)]) ∧ Below w.heap.size w w' := by
  have E1 := Lib.hid (fun W => l11One_c k W)
  have E2 := Lib.hid (fun W => l11Day_c D W)
  have E3 : Hid (isT k = true → ∀ W, Calls Tryd.prog 85 #[.agg #[.int .i64 k.i, .int .i64 k.s, .int .i64 k.w, .int .i64 k.g, .int .i64 k.p], .int .i64 D] W fun e w' => e = .returned (.tuple #[.int .i64 (rdU k D), .int .i64 (rdD k D)]) ∧ Below W.heap.size W w') := Lib.hid (fun h W => l11Rides_c k D W h)
  have hd : rdOk k D = (isT k && inR D 0 999) := rfl
  have HN := Lib.hid (rl_no (k := k) (D := D))
  have HY := Lib.hid (rl_yes (k := k) (D := D))
  generalize rlU k D = U at *
  generalize rlD k D = V at *
  generalize rdU k D = U1 at *
  generalize rdD k D = V1 at *
  generalize rdOk k D = b at *
  have HD := Lib.hid hd
  clear hd
  generalize isT k = b1 at *
  generalize inR D 0 999 = b2 at *
  go_enter Tryd.func51, Tryd.ntmps51
  go_wp2_with fail
  refine (E1.out _).mono ?_
  rintro e w1 ⟨rfl, t1⟩
  have T1 := Lib.hid (((Below.refl w.heap.size w).alloc (Nat.le_refl _) _).trans (t1.mono (by simp)))
  cases b1 with
  | false =>
    go_wp2
    go_ret3
    exact ⟨ret_3 (HN.out (by rw [HD.out]; rfl)).1.symm (HN.out (by rw [HD.out]; rfl)).2.symm (by rw [HD.out]; rfl), T1.out⟩
  | true =>
    have HR := Lib.hid (E3.out (by simp))
    have HK := Lib.hid (box_Tik w k 31 _ rfl)
    clear E3
    go_wp2_with fail
    refine (E2.out _).mono ?_
    rintro e w2 ⟨rfl, rfl⟩
    cases b2 with
    | false =>
      go_wp2
      go_ret3
      exact ⟨ret_3 (HN.out (by rw [HD.out]; rfl)).1.symm (HN.out (by rw [HD.out]; rfl)).2.symm (by rw [HD.out]; rfl), T1.out⟩
    | true =>
      obtain ⟨k0, k1, k2, k3, k4⟩ := HK.out _ (by simpa using t1)
      go_wp2_with fail
      refine (HR.out _).mono ?_
      rintro e w3 ⟨rfl, t3⟩
      have T3 := Lib.hid (T1.out.trans (t3.mono T1.out.size))
      go_wp2
      go_ret3
      exact ⟨ret_3 (HY.out (by rw [HD.out]; rfl)).1.symm (HY.out (by rw [HD.out]; rfl)).2.symm (by rw [HD.out]; rfl), T3.out⟩
set_option maxRecDepth 100000 in
set_option maxHeartbeats 2000000 in
theorem specCanRide_c (k : Tik) (D : Int) (u : Bool) (w : World) :
    Calls Tryd.prog 32 #[.agg #[.int .i64 k.i, .int .i64 k.s, .int .i64 k.w, .int .i64 k.g, .int .i64 k.p], .int .i64 D, .bool u] w fun e w' => e = .returned (.tuple #[.bool (crV k D u), .bool (rdOk k D)]) ∧ Below w.heap.size w w' := by
  have E1 := Lib.hid (fun W => l11One_c k W)
  have E2 := Lib.hid (fun W => l11Day_c D W)
  have E3 : Hid (isT k = true → ∀ W, Calls Tryd.prog 66 #[.agg #[.int .i64 k.i, .int .i64 k.s, .int .i64 k.w, .int .i64 k.g, .int .i64 k.p], .int .i64 D, .bool u] W fun e w' => e = .returned (.bool (canT k D u)) ∧ Below W.heap.size W w') := Lib.hid (fun h W => l11Can_c k D u W h)
  have hd : rdOk k D = (isT k && inR D 0 999) := rfl
  have hc : crV k D u = (rdOk k D && canT k D u) := rfl
  generalize crV k D u = c at *
  generalize canT k D u = t at *
  generalize rdOk k D = b at *
  have HD := Lib.hid hd
  have HCR := Lib.hid hc
  clear hd hc
  generalize isT k = b1 at *
  generalize inR D 0 999 = b2 at *
  go_enter Tryd.func32, Tryd.ntmps32
  go_wp2_with fail
  refine (E1.out _).mono ?_
  rintro e w1 ⟨rfl, t1⟩
  have T1 := Lib.hid (((Below.refl w.heap.size w).alloc (Nat.le_refl _) _).trans (t1.mono (by simp)))
  cases b1 with
  | false =>
    go_wp2
    go_ret2
    exact ⟨ret_bb (by rw [HCR.out, HD.out]; rfl) (by rw [HD.out]; rfl), T1.out⟩
  | true =>
    have HR := Lib.hid (E3.out (by simp))
    have HK := Lib.hid (box_Tik w k 31 _ rfl)
    clear E3
    go_wp2_with fail
    refine (E2.out _).mono ?_
    rintro e w2 ⟨rfl, rfl⟩
    cases b2 with
    | false =>
      go_wp2
      go_ret2
      exact ⟨ret_bb (by rw [HCR.out, HD.out]; rfl) (by rw [HD.out]; rfl), T1.out⟩
    | true =>
      obtain ⟨k0, k1, k2, k3, k4⟩ := HK.out _ (by simpa using t1)
      go_wp2_with fail
      refine (HR.out _).mono ?_
      rintro e w3 ⟨rfl, t3⟩
      have T3 := Lib.hid (T1.out.trans (t3.mono T1.out.size))
      go_wp2
      go_ret2
      exact ⟨ret_bb (by rw [HCR.out, HD.out]; rfl) (by rw [HD.out]; rfl), T3.out⟩
set_option maxRecDepth 100000 in
set_option maxHeartbeats 2000000 in
theorem ridesLeft_no (k : Tik) (D : Int) (w : World) (hT : RulP w) (hk : rdOk k D = false) :
    Calls Tryd.prog 20 #[.agg #[.int .i64 k.i, .int .i64 k.s, .int .i64 k.w, .int .i64 k.g, .int .i64 k.p], .int .i64 D] w fun e w' => e = .returned (.tuple #[.int .i64 0, .int .i64 0, .bool false]) ∧ Below w.heap.size w w' := by
  have E1 := Lib.hid (fun W h => implIsTicket_c k W h)
  have E2 := Lib.hid (fun W => isTicketDay_c D W)
  have HTT := Lib.hid hT
  have hd : (isT k && inR D 0 999) = false := hk
  have HD := Lib.hid hd
  clear hd hk hT
  generalize isT k = b1 at *
  generalize inR D 0 999 = b2 at *
  go_enter Tryd.func20, Tryd.ntmps20
  go_wp2_with fail
  refine (E1.out _ (HTT.out.below ((Below.refl _ _).alloc (Nat.le_refl _) _))).mono ?_
  rintro e w1 ⟨rfl, t1⟩
  have T1 := Lib.hid (((Below.refl w.heap.size w).alloc (Nat.le_refl _) _).trans (t1.mono (by simp)))
  cases b1 with
  | false =>
    go_wp2
    go_ret3
    exact ⟨rfl, T1.out⟩
  | true =>
    cases b2 with
    | false =>
      go_wp2_with fail
      refine (E2.out _).mono ?_
      rintro e w2 ⟨rfl, rfl⟩
      go_wp2
      go_ret3
      exact ⟨rfl, T1.out⟩
    | true => have := HD.out; cases this
set_option maxRecDepth 100000 in
set_option maxHeartbeats 2000000 in
theorem ridesLeft_false (i d g p D : Int) (K : Nat) (hK : K < 4) (w : World) (hT : RulP w) (hk : isT ⟨i, K, d, g, p⟩ = true) (hD : inR D 0 999 = true) (hf : forD ⟨i, K, d, g, p⟩ D = false) :
    Calls Tryd.prog 20 #[.agg #[.int .i64 i, .int .i64 K, .int .i64 d, .int .i64 g, .int .i64 p], .int .i64 D] w fun e w' => e = .returned (.tuple #[.int .i64 (rdU ⟨i, K, d, g, p⟩ D), .int .i64 (rdD ⟨i, K, d, g, p⟩ D), .bool true]) ∧ Below w.heap.size w w' := by
  have hi := (isT_iff _).1 hk
  simp only [] at hi
  have hb := tE_bd K
  have hb2 := tB_bd K
  have E1 := Lib.hid (fun W h => implIsTicket_c ⟨i, K, d, g, p⟩ W h)
  have E2 := Lib.hid (fun W => isTicketDay_c D W)
  have E3 := Lib.hid (fun W h => isForDay_k i d g p D K hK W h (by omega))
  have HC := Lib.hid (fun W h => RulP.cells (w := W) h K hK)
  have HTT := Lib.hid hT
  have HU : Hid (rdU ⟨i, K, d, g, p⟩ D = if false then lfU ⟨i, K, d, g, p⟩ else 0) := Lib.hid (by unfold rdU; rw [hf])
  have HV : Hid (rdD ⟨i, K, d, g, p⟩ D = if false then lfD ⟨i, K, d, g, p⟩ else 0) := Lib.hid (by unfold rdD; rw [hf])
  obtain ⟨m1, m2⟩ := lf_min hk
  simp only [] at E1 m1 m2
  rw [hk] at E1
  rw [hD] at E2
  rw [hf] at E3
  generalize rdU ⟨i, K, d, g, p⟩ D = U at *
  generalize rdD ⟨i, K, d, g, p⟩ D = V at *
  generalize lfU ⟨i, K, d, g, p⟩ = U1 at *
  generalize lfD ⟨i, K, d, g, p⟩ = V1 at *
  generalize tE K = TE at *
  generalize tB K = TB at *
  generalize tD K = TD at *
  have q1 : IntKind.i64.wrap (TB - g) = TB - g := IntWalk.i64_in _ (by omega)
  have q2 : IntKind.i64.wrap (TB - g - p) = TB - g - p := IntWalk.i64_in _ (by omega)
  have q3 : IntKind.i64.wrap (TE - g) = TE - g := IntWalk.i64_in _ (by omega)
  have q4 : IntKind.i64.wrap (TE - p) = TE - p := IntWalk.i64_in _ (by omega)
  have HX := Lib.hid (box_Tik w ⟨i, K, d, g, p⟩ 31 _ rfl)
  clear hk hD hf hi hb hb2 hT
  go_enter Tryd.func20, Tryd.ntmps20
  go_wp2_with fail
  generalize hW0 : w.alloc (.cells #[.int .i64 i, .int .i64 K, .int .i64 d, .int .i64 g, .int .i64 p] 31) = W0 at *
  have hs0 : W0.heap.size = w.heap.size + 1 := by rw [← hW0]; simp
  have B0 : Hid (Below w.heap.size w W0) := Lib.hid (by rw [← hW0]; exact (Below.refl _ _).alloc (Nat.le_refl _) _)
  have bx := HX.out W0 (Below.refl _ _)
  obtain ⟨d0, d1, d2, d3, d4⟩ := bx
  clear hW0
  refine (E1.out _ (HTT.out.below B0.out)).mono ?_
  rintro e w1 ⟨rfl, t1⟩
  go_wp2_with fail
  refine (E2.out _).mono ?_
  rintro e w2 ⟨rfl, rfl⟩
  have T1 := Lib.hid (B0.out.trans (t1.mono B0.out.size))
  obtain ⟨e0, e1, e2, e3, e4⟩ := HX.out _ (by simpa [hs0] using t1)
  have hz1 := t1.size
  clear d0 d1 d2 d3 d4 t1
  go_wp2_with fail
  refine (E3.out _ (HTT.out.below T1.out)).mono ?_
  rintro e w3 ⟨rfl, t3⟩
  have T3 := Lib.hid (T1.out.trans (t3.mono T1.out.size))
  go_wp2
  go_ret3
  exact ⟨ret_3 HU.out.symm HV.out.symm rfl, T3.out⟩
set_option maxRecDepth 100000 in
set_option maxHeartbeats 2000000 in
theorem ridesLeft_true (i d g p D : Int) (K : Nat) (hK : K < 4) (w : World) (hT : RulP w) (hk : isT ⟨i, K, d, g, p⟩ = true) (hD : inR D 0 999 = true) (hf : forD ⟨i, K, d, g, p⟩ D = true) :
    Calls Tryd.prog 20 #[.agg #[.int .i64 i, .int .i64 K, .int .i64 d, .int .i64 g, .int .i64 p], .int .i64 D] w fun e w' => e = .returned (.tuple #[.int .i64 (rdU ⟨i, K, d, g, p⟩ D), .int .i64 (rdD ⟨i, K, d, g, p⟩ D), .bool true]) ∧ Below w.heap.size w w' := by
  have hi := (isT_iff _).1 hk
  simp only [] at hi
  have hb := tE_bd K
  have hb2 := tB_bd K
  have E1 := Lib.hid (fun W h => implIsTicket_c ⟨i, K, d, g, p⟩ W h)
  have E2 := Lib.hid (fun W => isTicketDay_c D W)
  have E3 := Lib.hid (fun W h => isForDay_k i d g p D K hK W h (by omega))
  have HC := Lib.hid (fun W h => RulP.cells (w := W) h K hK)
  have HTT := Lib.hid hT
  have HU : Hid (rdU ⟨i, K, d, g, p⟩ D = if true then lfU ⟨i, K, d, g, p⟩ else 0) := Lib.hid (by unfold rdU; rw [hf])
  have HV : Hid (rdD ⟨i, K, d, g, p⟩ D = if true then lfD ⟨i, K, d, g, p⟩ else 0) := Lib.hid (by unfold rdD; rw [hf])
  obtain ⟨m1, m2⟩ := lf_min hk
  simp only [] at E1 m1 m2
  rw [hk] at E1
  rw [hD] at E2
  rw [hf] at E3
  generalize rdU ⟨i, K, d, g, p⟩ D = U at *
  generalize rdD ⟨i, K, d, g, p⟩ D = V at *
  generalize lfU ⟨i, K, d, g, p⟩ = U1 at *
  generalize lfD ⟨i, K, d, g, p⟩ = V1 at *
  generalize tE K = TE at *
  generalize tB K = TB at *
  generalize tD K = TD at *
  have q1 : IntKind.i64.wrap (TB - g) = TB - g := IntWalk.i64_in _ (by omega)
  have q2 : IntKind.i64.wrap (TB - g - p) = TB - g - p := IntWalk.i64_in _ (by omega)
  have q3 : IntKind.i64.wrap (TE - g) = TE - g := IntWalk.i64_in _ (by omega)
  have q4 : IntKind.i64.wrap (TE - p) = TE - p := IntWalk.i64_in _ (by omega)
  have HX := Lib.hid (box_Tik w ⟨i, K, d, g, p⟩ 31 _ rfl)
  clear hk hD hf hi hb hb2 hT
  go_enter Tryd.func20, Tryd.ntmps20
  go_wp2_with fail
  generalize hW0 : w.alloc (.cells #[.int .i64 i, .int .i64 K, .int .i64 d, .int .i64 g, .int .i64 p] 31) = W0 at *
  have hs0 : W0.heap.size = w.heap.size + 1 := by rw [← hW0]; simp
  have B0 : Hid (Below w.heap.size w W0) := Lib.hid (by rw [← hW0]; exact (Below.refl _ _).alloc (Nat.le_refl _) _)
  have bx := HX.out W0 (Below.refl _ _)
  obtain ⟨d0, d1, d2, d3, d4⟩ := bx
  clear hW0
  refine (E1.out _ (HTT.out.below B0.out)).mono ?_
  rintro e w1 ⟨rfl, t1⟩
  go_wp2_with fail
  refine (E2.out _).mono ?_
  rintro e w2 ⟨rfl, rfl⟩
  have T1 := Lib.hid (B0.out.trans (t1.mono B0.out.size))
  obtain ⟨e0, e1, e2, e3, e4⟩ := HX.out _ (by simpa [hs0] using t1)
  have hz1 := t1.size
  clear d0 d1 d2 d3 d4 t1
  go_wp2_with fail
  refine (E3.out _ (HTT.out.below T1.out)).mono ?_
  rintro e w3 ⟨rfl, t3⟩
  have T3 := Lib.hid (T1.out.trans (t3.mono T1.out.size))
  have hb1 : w.heap.size < w2.heap.size := by omega
  have z0 := (t3.cell (p := ⟨w.heap.size, 0, none⟩) hb1).trans e0
  have z1 := (t3.cell (p := ⟨w.heap.size, 1, none⟩) hb1).trans e1
  have z2 := (t3.cell (p := ⟨w.heap.size, 2, none⟩) hb1).trans e2
  have z3 := (t3.cell (p := ⟨w.heap.size, 3, none⟩) hb1).trans e3
  have z4 := (t3.cell (p := ⟨w.heap.size, 4, none⟩) hb1).trans e4
  obtain ⟨c0, c1, c2⟩ := HC.out _ (HTT.out.below T3.out)
  have hb3 : w.heap.size < w3.heap.size := by have := t3.size; omega
  clear t3 e0 e1 e2 e3 e4 HC E1 E2 E3
  go_upto_region 7 with fail
  go_quiet (fail)
  go_wp2
  all_goals
    go_ret3
    exact ⟨ret_3 (by rw [HU.out, if_pos trivial]; omega) (by rw [HV.out, if_pos trivial]; omega) rfl, below_drewN (T3.out.alloc T3.out.size _) _⟩
theorem implRidesLeft_c (k : Tik) (D : Int) (w : World) (hT : RulP w) :
    Calls Tryd.prog 20 #[.agg #[.int .i64 k.i, .int .i64 k.s, .int .i64 k.w, .int .i64 k.g, .int .i64 k.p], .int .i64 D] w fun e w' => e = .returned (.tuple #[.int .i64 (rlU k D), .int .i64 (rlD k D), .bool (rdOk k D)]) ∧ Below w.heap.size w w' := by
  cases hk : rdOk k D with
  | false => rw [(rl_no hk).1, (rl_no hk).2]; exact ridesLeft_no k D w hT hk
  | true =>
    rw [(rl_yes hk).1, (rl_yes hk).2]
    have h2 : isT k = true ∧ inR D 0 999 = true := by simpa [rdOk] using hk
    obtain ⟨i, s, d, g, p⟩ := k
    have h3 := h2.1
    unfold isT at h3
    simp only [Bool.and_eq_true] at h3
    obtain ⟨K, hK, rfl⟩ := kind_of h3.1.1.1.1.2
    cases hf : forD ⟨i, K, d, g, p⟩ D with
    | false => exact ridesLeft_false i d g p D K hK w hT h2.1 h2.2 hf
    | true => exact ridesLeft_true i d g p D K hK w hT h2.1 h2.2 hf
set_option maxRecDepth 100000 in
set_option maxHeartbeats 2000000 in
theorem implCanRide_c (k : Tik) (D : Int) (u : Bool) (w : World) (hT : RulP w) :
    Calls Tryd.prog 21 #[.agg #[.int .i64 k.i, .int .i64 k.s, .int .i64 k.w, .int .i64 k.g, .int .i64 k.p], .int .i64 D, .bool u] w fun e w' => e = .returned (.tuple #[.bool (crV k D u), .bool (rdOk k D)]) ∧ Below w.heap.size w w' := by
  have HL := Lib.hid (fun W h => implRidesLeft_c k D W h)
  have HTT := Lib.hid hT
  have hc := cr_of k D u
  generalize crV k D u = c at *
  generalize rlU k D = U at *
  generalize rlD k D = V at *
  generalize rdOk k D = b at *
  have HCR := Lib.hid hc
  clear hT hc
  cases u
  · go_enter Tryd.func21, Tryd.ntmps21
    go_wp2_with fail
    refine (HL.out _ (HTT.out.below ((Below.refl _ _).alloc (Nat.le_refl _) _))).mono ?_
    rintro e w1 ⟨rfl, b1⟩
    go_wp2
    go_ret2
    exact ⟨ret_bb (by rw [HCR.out]; rfl) rfl, ((Below.refl _ _).alloc (Nat.le_refl _) _).trans (b1.mono (by simp))⟩
  · go_enter Tryd.func21, Tryd.ntmps21
    go_wp2_with fail
    refine (HL.out _ (HTT.out.below ((Below.refl _ _).alloc (Nat.le_refl _) _))).mono ?_
    rintro e w1 ⟨rfl, b1⟩
    go_wp2
    go_ret2
    exact ⟨ret_bb (by rw [HCR.out]; rfl) rfl, ((Below.refl _ _).alloc (Nat.le_refl _) _).trans (b1.mono (by simp))⟩
end Go.Proofs.YtpknodbkjjcdjaaDoor
