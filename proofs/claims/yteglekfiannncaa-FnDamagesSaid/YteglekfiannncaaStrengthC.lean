/- StrengthLeft: the program's and the specification's answer as one function. Condition: sizes. -/
import Derived.Test.YteglekfiannncaaBrokenC
namespace Go.Proofs.Yteglekfiannncaa
open Go.RowKit
set_option linter.unusedVariables false
def imx (a b : Int) : Int := if b < a then a else b
theorem most_c (a b : Int) (w : World) :
    Calls Try.prog 115 #[.int .i64 a, .int .i64 b] w fun e w' => e = .returned (.int .i64 (imx a b)) ∧ w' = w := by
  by_cases h : b < a
  · have e : imx a b = a := by unfold imx; rw [if_pos h]
    rw [e]
    clear e
    go_enter Try.func115, Try.ntmps115
    go_wp2
    go_ret
    exact ⟨rfl, rfl⟩
  · have e : imx a b = b := by unfold imx; rw [if_neg h]
    rw [e]
    clear e
    go_enter Try.func115, Try.ntmps115
    go_wp2
    go_ret
    exact ⟨rfl, rfl⟩
/-- All wires of a kind. -/
def allK (k : RK) : Int := k.s * k.w
theorem allK_bd {k : RK} (h : isK k = true) : 28 ≤ allK k ∧ allK k ≤ 320 ∧ allK k ≤ 8 * k.w ∧ 7 ≤ k.w ∧ k.w ≤ 40 ∧ 4 ≤ k.s ∧ k.s ≤ 8 ∧ 10 ≤ k.p ∧ k.p ≤ 5000 := by
  obtain ⟨_, ⟨h1, h2⟩, ⟨h3, h4⟩, _, h5⟩ := (isK_iff k).1 h
  unfold allK
  have a1 : 4 * 7 ≤ k.s * k.w := Int.mul_le_mul h1 h3 (by omega) (by omega)
  have a2 : k.s * k.w ≤ 8 * 40 := Int.mul_le_mul h2 h4 (by omega) (by omega)
  have a3 : k.s * k.w ≤ 8 * k.w := Int.mul_le_mul_of_nonneg_right h2 (by omega)
  omega
theorem allWires_c (k : RK) (w : World) (h : isK k = true) :
    Calls Try.prog 114 #[.agg #[.int .i64 k.i, .int .i64 k.s, .int .i64 k.w, .int .i64 k.g, .int .i64 k.p]] w fun e w' => e = .returned (.int .i64 (allK k)) ∧ Below w.heap.size w w' := by
  have hb := allK_bd h
  have e1 : IntKind.i64.wrap (k.s * k.w) = allK k := IntWalk.i64_in (allK k) (by omega)
  clear hb h
  go_enter Try.func114, Try.ntmps114
  go_wp2
  go_ret
  exact ⟨rfl, (Below.refl _ _).alloc (Nat.le_refl _) _⟩
noncomputable def slW (k : RK) (l : List Dmg) : Int := imx 0 (allK k - (mst l 10 (-1) l.length).2)
noncomputable def slV (k : RK) (l : List Dmg) : Int := if good k l then Int.tdiv (k.p * slW k l) (allK k) else 0
theorem sl_no {k : RK} {l : List Dmg} (h : good k l = false) : slV k l = 0 := by simp [slV, h]
theorem sl_yes {k : RK} {l : List Dmg} (h : good k l = true) : slV k l = Int.tdiv (k.p * slW k l) (allK k) := by simp [slV, h]
theorem sl_bd {k : RK} {l : List Dmg} (h : Good k l) : 0 ≤ slW k l ∧ slW k l ≤ allK k := by
  have h1 := allK_bd h.kind
  have h2 := mst_bd h.srt 10 (-1) l.length
  unfold slW imx
  split <;> omega
/-- The strength is at least 0, and not more than that of the new rope. -/
theorem sl_val {k : RK} {l : List Dmg} (h : Good k l) : Int.tdiv (k.p * slW k l) (allK k) = k.p * slW k l / allK k ∧ 0 ≤ k.p * slW k l / allK k ∧ k.p * slW k l / allK k ≤ k.p ∧ 0 ≤ k.p * slW k l ∧ k.p * slW k l ≤ 1600000 := by
  have h1 := allK_bd h.kind
  have h2 := sl_bd h
  have h3 : 0 ≤ k.p * slW k l := Int.mul_nonneg (by omega) h2.1
  have h4 : k.p * slW k l ≤ k.p * allK k := Int.mul_le_mul_of_nonneg_left h2.2 (by omega)
  have h5 : k.p * allK k ≤ 5000 * 320 := Int.mul_le_mul (by omega) (by omega) (by omega) (by omega)
  refine ⟨Int.tdiv_eq_ediv_of_nonneg h3, Int.ediv_nonneg h3 (by omega), ?_, h3, by omega⟩
  exact Int.ediv_le_of_le_mul (by omega) h4
set_option maxRecDepth 100000 in
set_option maxHeartbeats 4000000 in
theorem specStrengthLeft_c (k : RK) (v : Value) (l : List Dmg)  (w : World) (hr : Rs w v l.length (dmgs l)) (hn : l.length ≤ 1048576)  :
    Calls Try.prog 52 #[.agg #[.int .i64 k.i, .int .i64 k.s, .int .i64 k.w, .int .i64 k.g, .int .i64 k.p], v] w fun e w' => e = .returned (.tuple #[.int .i64 (slV k l), .bool (good k l)]) ∧ Below w.heap.size w w' := by
  have HR := Lib.hid hr
  clear hr
  go_enter Try.func52, Try.ntmps52
  go_wp2_with fail
  have HBX := Lib.hid (box_RK w k 47 _ rfl)
  have HT : Hid (Below w.heap.size w (w.alloc (.cells #[.int .i64 k.i, .int .i64 k.s, .int .i64 k.w, .int .i64 k.g, .int .i64 k.p] 47))) := Lib.hid ((Below.refl _ _).alloc (Nat.le_refl _) _)
  have hs0 : (w.alloc (.cells #[.int .i64 k.i, .int .i64 k.s, .int .i64 k.w, .int .i64 k.g, .int .i64 k.p] 47)).heap.size = w.heap.size + 1 := by simp
  generalize w.alloc (.cells #[.int .i64 k.i, .int .i64 k.s, .int .i64 k.w, .int .i64 k.g, .int .i64 k.p] 47) = W0 at *
  refine (l3Good_c k _ l _ (HR.out.below HT.out rfl) hn).mono ?_
  rintro e w1 ⟨rfl, b1⟩
  have HB1 : Hid (Below (w.heap.size + 1) W0 w1) := Lib.hid (by rw [← hs0]; exact b1)
  have HT1 : Hid (Below w.heap.size w w1) := Lib.hid (HT.out.trans (b1.mono (by omega)))
  clear b1
  cases hg : good k l with
  | false =>
    have HGB := Lib.hid hg
    have HN := Lib.hid (sl_no hg)
    go_wp2
    go_ret2
    exact ⟨ret_p HN.out.symm HGB.out.symm, HT1.out⟩
  | true =>
    have HGB := Lib.hid hg
    have HY := Lib.hid (sl_yes hg)
    have HG := Lib.hid (good_yes hg)
    have HK := HG.out.kind
    have hab := allK_bd HK
    have hmb := mst_bd HG.out.srt 10 (-1) l.length
    have hsv := sl_val HG.out
    have HEM : Hid (∀ W, Rs W v l.length (dmgs l) → _) := Lib.hid (fun W h => l3Most_c v l 10 (-1) W h HG.out.srt (by omega))
    have EA := Lib.hid (fun W => allWires_c k W HK)
    have EI := Lib.hid (fun W => most_c 0 (allK k - (mst l 10 (-1) l.length).2) W)
    have hal : k.s * k.w = allK k := rfl
    have hdW : slW k l = imx 0 (allK k - (mst l 10 (-1) l.length).2) := rfl
    rw [← hdW] at EI
    have HDW := Lib.hid hdW
    clear HK hg hdW
    generalize slW k l = SW at *
    generalize (mst l 10 (-1) l.length).2 = M at *
    generalize (mst l 10 (-1) l.length).1 = M1 at *
    generalize allK k = AL at *
    have e1 : IntKind.i64.wrap (k.s * k.w) = AL := by rw [hal]; exact IntWalk.i64_in _ (by omega)
    have e2 : IntKind.i64.wrap (AL - M) = AL - M := IntWalk.i64_in _ (by omega)
    obtain ⟨PM, hPM⟩ : ∃ PM, PM = k.p * SW := ⟨_, rfl⟩
    rw [← hPM] at hsv HY
    have e3 : IntKind.i64.wrap (k.p * SW) = PM := by rw [← hPM]; exact IntWalk.i64_in _ (by omega)
    have e4 : IntKind.i64.wrap (Int.tdiv PM AL) = Int.tdiv PM AL := by rw [hsv.1]; exact IntWalk.i64_in _ (by omega)
    have hne : (AL == 0) = false := by rw [beq_eq_false_iff_ne]; omega
    have hne' : AL ≠ 0 := by omega
    clear hsv hPM hmb hal
    obtain ⟨k0, k1, k2, k3, k4⟩ := HBX.out _ HB1.out
    go_wp2_with fail
    refine (HEM.out _ (HR.out.below HT1.out rfl)).mono ?_
    rintro e w3 ⟨rfl, b3⟩
    have HB3 : Hid (Below (w.heap.size + 1) W0 w3) := Lib.hid (HB1.out.trans (b3.mono (by have := HB1.out.size; omega)))
    have HT3 : Hid (Below w.heap.size w w3) := Lib.hid (HT1.out.trans (b3.mono HT1.out.size))
    clear b3 k0 k1 k2 k3 k4 HEM
    obtain ⟨k0, k1, k2, k3, k4⟩ := HBX.out _ HB3.out
    go_wp2_with fail
    have K0 : ∀ x : Aft w3, x.w.cell? ⟨w.heap.size, 0, none⟩ = some (.int .i64 k.i) := fun x => x.cell k0
    have K1 : ∀ x : Aft w3, x.w.cell? ⟨w.heap.size, 1, none⟩ = some (.int .i64 k.s) := fun x => x.cell k1
    have K2 : ∀ x : Aft w3, x.w.cell? ⟨w.heap.size, 2, none⟩ = some (.int .i64 k.w) := fun x => x.cell k2
    have K3 : ∀ x : Aft w3, x.w.cell? ⟨w.heap.size, 3, none⟩ = some (.int .i64 k.g) := fun x => x.cell k3
    have K4 : ∀ x : Aft w3, x.w.cell? ⟨w.heap.size, 4, none⟩ = some (.int .i64 k.p) := fun x => x.cell k4
    refine wp_region_aft (w0 := w3) (by kernel_rfl) (by kernel_rfl) (Below.refl _ _) ?_
    repeat (go_big_quiet_step ((go_at_call 115; exact aft_same (EI.out _))))
    refine wpQuiet_nil ?_
    rintro _ ⟨x, rfl⟩
    go_wp2
    go_ret2
    exact ⟨ret_p HY.out.symm HGB.out.symm, HT3.out.trans (x.below.mono HT3.out.size)⟩
set_option maxRecDepth 100000 in
set_option maxHeartbeats 4000000 in
theorem implStrengthLeft_c (k : RK) (v : Value) (l : List Dmg)  (w : World) (hr : Rs w v l.length (dmgs l)) (hn : l.length ≤ 1048576)  :
    Calls Try.prog 51 #[.agg #[.int .i64 k.i, .int .i64 k.s, .int .i64 k.w, .int .i64 k.g, .int .i64 k.p], v] w fun e w' => e = .returned (.tuple #[.int .i64 (slV k l), .bool (good k l)]) ∧ Below w.heap.size w w' := by
  have HR := Lib.hid hr
  clear hr
  go_enter Try.func51, Try.ntmps51
  go_wp2_with fail
  have HBX := Lib.hid (box_RK w k 47 _ rfl)
  have HT : Hid (Below w.heap.size w (w.alloc (.cells #[.int .i64 k.i, .int .i64 k.s, .int .i64 k.w, .int .i64 k.g, .int .i64 k.p] 47))) := Lib.hid ((Below.refl _ _).alloc (Nat.le_refl _) _)
  have hs0 : (w.alloc (.cells #[.int .i64 k.i, .int .i64 k.s, .int .i64 k.w, .int .i64 k.g, .int .i64 k.p] 47)).heap.size = w.heap.size + 1 := by simp
  generalize w.alloc (.cells #[.int .i64 k.i, .int .i64 k.s, .int .i64 k.w, .int .i64 k.g, .int .i64 k.p] 47) = W0 at *
  refine (implAreDamages_c k _ l _ (HR.out.below HT.out rfl) hn).mono ?_
  rintro e w1 ⟨rfl, b1⟩
  have HB1 : Hid (Below (w.heap.size + 1) W0 w1) := Lib.hid (by rw [← hs0]; exact b1)
  have HT1 : Hid (Below w.heap.size w w1) := Lib.hid (HT.out.trans (b1.mono (by omega)))
  clear b1
  cases hg : good k l with
  | false =>
    have HGB := Lib.hid hg
    have HN := Lib.hid (sl_no hg)
    go_wp2
    go_ret2
    exact ⟨ret_p HN.out.symm HGB.out.symm, HT1.out⟩
  | true =>
    have HGB := Lib.hid hg
    have HY := Lib.hid (sl_yes hg)
    have HG := Lib.hid (good_yes hg)
    have HK := HG.out.kind
    have hab := allK_bd HK
    have hmb := mst_bd HG.out.srt 10 (-1) l.length
    have hsv := sl_val HG.out
    have HEM : Hid (∀ W, Rs W v l.length (dmgs l) → _) := Lib.hid (fun W h => mostBroken_c v l 10 W h HG.out.srt (by omega))
    have EA := Lib.hid (fun W => allWires_c k W HK)
    have EI := Lib.hid (fun W => most_c 0 (allK k - (mst l 10 (-1) l.length).2) W)
    have hal : k.s * k.w = allK k := rfl
    have hdW : slW k l = imx 0 (allK k - (mst l 10 (-1) l.length).2) := rfl
    rw [← hdW] at EI
    have HDW := Lib.hid hdW
    clear HK hg hdW
    generalize slW k l = SW at *
    generalize (mst l 10 (-1) l.length).2 = M at *
    generalize (mst l 10 (-1) l.length).1 = M1 at *
    generalize allK k = AL at *
    have e1 : IntKind.i64.wrap (k.s * k.w) = AL := by rw [hal]; exact IntWalk.i64_in _ (by omega)
    have e2 : IntKind.i64.wrap (AL - M) = AL - M := IntWalk.i64_in _ (by omega)
    obtain ⟨PM, hPM⟩ : ∃ PM, PM = k.p * SW := ⟨_, rfl⟩
    rw [← hPM] at hsv HY
    have e3 : IntKind.i64.wrap (k.p * SW) = PM := by rw [← hPM]; exact IntWalk.i64_in _ (by omega)
    have e4 : IntKind.i64.wrap (Int.tdiv PM AL) = Int.tdiv PM AL := by rw [hsv.1]; exact IntWalk.i64_in _ (by omega)
    have hne : (AL == 0) = false := by rw [beq_eq_false_iff_ne]; omega
    have hne' : AL ≠ 0 := by omega
    clear hsv hPM hmb hal
    go_wp2_with fail
    refine (HEM.out _ (HR.out.below HT1.out rfl)).mono ?_
    rintro e w3 ⟨rfl, b3⟩
    have HB3 : Hid (Below (w.heap.size + 1) W0 w3) := Lib.hid (HB1.out.trans (b3.mono (by have := HB1.out.size; omega)))
    have HT3 : Hid (Below w.heap.size w w3) := Lib.hid (HT1.out.trans (b3.mono HT1.out.size))
    clear b3 HEM
    obtain ⟨k0, k1, k2, k3, k4⟩ := HBX.out _ HB3.out
    go_wp2_with fail
    refine (EA.out _).mono ?_
    rintro e w4 ⟨rfl, b4⟩
    have HB4 : Hid (Below (w.heap.size + 1) W0 w4) := Lib.hid (HB3.out.trans (b4.mono (by have := HB3.out.size; omega)))
    have HT4 : Hid (Below w.heap.size w w4) := Lib.hid (HT3.out.trans (b4.mono HT3.out.size))
    clear b4 k0 k1 k2 k3 k4
    obtain ⟨k0, k1, k2, k3, k4⟩ := HBX.out _ HB4.out
    rcases (show (0 ≤ AL - M ∧ SW = AL - M) ∨ (AL - M < 0 ∧ SW = 0) by rw [HDW.out]; unfold imx; split <;> omega) with ⟨hz, hsw⟩ | ⟨hz, hsw⟩
    · rw [hsw] at e3
      have hz1 : ¬ (AL - M < 0) := by omega
      clear hsw
      go_wp2_with fail
      have K0 : ∀ x : Aft w4, x.w.cell? ⟨w.heap.size, 0, none⟩ = some (.int .i64 k.i) := fun x => x.cell k0
      have K1 : ∀ x : Aft w4, x.w.cell? ⟨w.heap.size, 1, none⟩ = some (.int .i64 k.s) := fun x => x.cell k1
      have K2 : ∀ x : Aft w4, x.w.cell? ⟨w.heap.size, 2, none⟩ = some (.int .i64 k.w) := fun x => x.cell k2
      have K3 : ∀ x : Aft w4, x.w.cell? ⟨w.heap.size, 3, none⟩ = some (.int .i64 k.g) := fun x => x.cell k3
      have K4 : ∀ x : Aft w4, x.w.cell? ⟨w.heap.size, 4, none⟩ = some (.int .i64 k.p) := fun x => x.cell k4
      refine wp_region_aft (w0 := w4) (by kernel_rfl) (by kernel_rfl) (Below.refl _ _) ?_
      repeat (go_big_quiet_step ((go_at_call 114; exact aft_of (EA.out _))))
      refine wpQuiet_nil ?_
      rintro _ ⟨x, rfl⟩
      go_wp2
      go_ret2
      exact ⟨ret_p HY.out.symm HGB.out.symm, HT4.out.trans (x.below.mono HT4.out.size)⟩
    · have HPM : Hid (slV k l = 0) := Lib.hid (by rw [HY.out]; rw [hsw, Int.mul_zero] at e3; rw [← e3, show IntKind.i64.wrap 0 = 0 from IntWalk.i64_in 0 (by omega)]; exact Int.zero_tdiv _)
      have hz1 : ¬ (0 ≤ AL - M) := by omega
      clear hsw e3 e4
      go_wp2_with fail
      have K0 : ∀ x : Aft w4, x.w.cell? ⟨w.heap.size, 0, none⟩ = some (.int .i64 k.i) := fun x => x.cell k0
      have K1 : ∀ x : Aft w4, x.w.cell? ⟨w.heap.size, 1, none⟩ = some (.int .i64 k.s) := fun x => x.cell k1
      have K2 : ∀ x : Aft w4, x.w.cell? ⟨w.heap.size, 2, none⟩ = some (.int .i64 k.w) := fun x => x.cell k2
      have K3 : ∀ x : Aft w4, x.w.cell? ⟨w.heap.size, 3, none⟩ = some (.int .i64 k.g) := fun x => x.cell k3
      have K4 : ∀ x : Aft w4, x.w.cell? ⟨w.heap.size, 4, none⟩ = some (.int .i64 k.p) := fun x => x.cell k4
      refine wp_region_aft (w0 := w4) (by kernel_rfl) (by kernel_rfl) (Below.refl _ _) ?_
      repeat (go_big_quiet_step ((go_at_call 114; exact aft_of (EA.out _))))
      refine wpQuiet_nil ?_
      rintro _ ⟨x, rfl⟩
      go_wp2
      go_ret2
      exact ⟨ret_p HPM.out.symm HGB.out.symm, HT4.out.trans (x.below.mono HT4.out.size)⟩
end Go.Proofs.Yteglekfiannncaa
