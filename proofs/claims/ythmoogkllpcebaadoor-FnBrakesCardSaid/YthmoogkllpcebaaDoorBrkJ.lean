/- The way without a brake, holding still and the safe speed: the program's and the specification's answer as one function. Condition: sizes; the library's table is as laid. -/
import Derived.Test.YthmoogkllpcebaaDoorBrkI
namespace Go.Proofs.YthmoogkllpcebaaDoor
open Go.RowKit
set_option linter.unusedVariables false
/-- All of n but the one with an index. -/
def but10 (n : Nat) (b : Int) : Nat := full10 n - 2 ^ b.toNat
theorem but_lt (n : Nat) (b : Int) : but10 n b < 2 ^ n := Nat.lt_of_le_of_lt (Nat.sub_le _ _) (full_lt n)
theorem andNot_at : ∀ n : Nat, n < 5 → ∀ i : Nat, i < n → bits BinOp.andNot IntKind.u64 ((full10 n : Nat) : Int) (IntKind.u64.wrap (2 ^ min i 64)) = ((full10 n - 2 ^ i : Nat) : Int) := by decide +kernel
theorem minus_at : ∀ n : Nat, n < 5 → ∀ i : Nat, i < n → IntKind.i64.wrap (((full10 n : Nat) : Int) - 2 ^ i) = ((full10 n - 2 ^ i : Nat) : Int) := by decide +kernel
theorem two_at : ∀ i : Nat, i < 4 → IntKind.i64.wrap (2 ^ i) = 2 ^ i := by decide +kernel
def wwOk (L S : Int) (l : List Brk) (x b : Int) : Bool := inR b 0 ((l.length : Int) - 1) && sw10 L S l x (but10 l.length b)
def wwV (L S : Int) (l : List Brk) (x b : Int) : Int := if wwOk L S l x b then way10 L S l x (but10 l.length b) else 0
theorem ww_no {L S : Int} {l : List Brk} {x b : Int} (h : inR b 0 ((l.length : Int) - 1) = false) : wwV L S l x b = 0 ∧ wwOk L S l x b = false := by
  have : wwOk L S l x b = false := by simp [wwOk, h]
  simp [wwV, this]
theorem ww_not {L S : Int} {l : List Brk} {x b : Int} (h : sw10 L S l x (but10 l.length b) = false) : wwV L S l x b = 0 ∧ wwOk L S l x b = false := by
  have : wwOk L S l x b = false := by simp [wwOk, h]
  simp [wwV, this]
theorem ww_in {L S : Int} {l : List Brk} {x b : Int} (h : inR b 0 ((l.length : Int) - 1) = true) : wwV L S l x b = wy10 L S l x (but10 l.length b) ∧ wwOk L S l x b = sw10 L S l x (but10 l.length b) := by
  have : wwOk L S l x b = sw10 L S l x (but10 l.length b) := by simp [wwOk, h]
  refine ⟨?_, this⟩
  unfold wwV wy10
  rw [this]
set_option maxRecDepth 100000 in
set_option maxHeartbeats 4000000 in
theorem implWayWithout_c (L S : Int) (v : Value) (l : List Brk) (x b : Int) (w : World) (hr : Rs w v l.length (brks l)) (hn : l.length ≤ 1048576) (hT : BruP w) :
    Calls Tryd.prog 22 #[.agg #[.int .i64 L, .int .i64 S, v], .int .i64 x, .int .i64 b] w fun e w' => e = .returned (.tuple #[.int .i64 (wwV L S l x b), .bool (wwOk L S l x b)]) ∧ Below w.heap.size w w' := by
  have HR := Lib.hid hr
  obtain ⟨a, ca, rfl⟩ := hr.shape
  clear hr
  have HB := Lib.hid ((Below.refl w.heap.size w).alloc (Nat.le_refl _) (.cells #[.int .i64 L, .int .i64 S, .slice a l.length ca] 26))
  have HB0 := Lib.hid (blk_new3 w (.int .i64 L) (.int .i64 S) (.slice a l.length ca) 26)
  have HTB := Lib.hid (hT.below HB.out)
  clear hT
  have E1 := Lib.hid (fun W => within_c b 0 ((l.length : Int) - 1) W)
  have q1 : IntKind.i64.wrap ((l.length : Int) - 1) = (l.length : Int) - 1 := IntWalk.i64_in _ (by omega)
  cases hk : inR b 0 ((l.length : Int) - 1) with
  | false =>
    rw [hk] at E1
    have HX := Lib.hid (ww_no (L := L) (S := S) (x := x) hk)
    clear hk
    go_enter Tryd.func22, Tryd.ntmps22
    go_wp2_with fail
    refine (E1.out _).mono ?_
    rintro e w1 ⟨rfl, rfl⟩
    go_wp2
    go_ret2
    exact ⟨ret_ib10 HX.out.1.symm HX.out.2.symm, HB.out⟩
  | true =>
    have hb := (inR_iff _ _ _).1 hk
    have HX := Lib.hid (ww_in (L := L) (S := S) (x := x) hk)
    rw [hk] at E1
    obtain ⟨i, rfl⟩ : ∃ i : Nat, b = (i : Int) := ⟨b.toNat, by omega⟩
    have hil : i < l.length := by omega
    have HBT : Hid (but10 l.length (i : Int) = full10 l.length - 2 ^ i) := Lib.hid (by simp [but10])
    clear hk
    go_enter Tryd.func22, Tryd.ntmps22
    go_wp2_with fail
    refine (E1.out _).mono ?_
    rintro e w1 ⟨rfl, rfl⟩
    generalize hW0 : w.alloc (.cells #[.int .i64 L, .int .i64 S, .slice a l.length ca] 26) = W0 at *
    have hs0 : W0.heap.size = w.heap.size + 1 := by rw [← hW0]; simp
    clear hW0
    obtain ⟨d0, d1, d2⟩ := blk_cell3 HB0.out
    have D0 : ∀ y : Aft W0, y.w.cell? ⟨w.heap.size, 0, none⟩ = some (.int .i64 L) := fun y => y.cell d0
    have D1 : ∀ y : Aft W0, y.w.cell? ⟨w.heap.size, 1, none⟩ = some (.int .i64 S) := fun y => y.cell d1
    have D2 : ∀ y : Aft W0, y.w.cell? ⟨w.heap.size, 2, none⟩ = some (.slice a l.length ca) := fun y => y.cell d2
    clear d0 d1 d2
    have HAB := Lib.hid (fun (y : Aft W0) => allBrakes_c L S (.slice a l.length ca) l y.w (HR.out.below (HB.out.trans (y.below.mono HB.out.size)) rfl) hn)
    change Hid (∀ y : Aft W0, Calls Tryd.prog 50 #[.agg #[.int .i64 L, .int .i64 S, .slice a l.length ca]] y.w fun e w' => e = .returned (.int .u64 (allV l.length)) ∧ Below y.w.heap.size y.w w') at HAB
    have HWW := Lib.hid (fun (y : Aft W0) => wayWith_c L S (.slice a l.length ca) l x (bits BinOp.andNot IntKind.u64 (allV l.length) (IntKind.u64.wrap (2 ^ min i 64))) (but10 l.length (i : Int)) y.w (HR.out.below (HB.out.trans (y.below.mono HB.out.size)) rfl) hn (fun h => by
      have h4 := ask_len h
      rw [allV_of _ h4, HBT.out, andNot_at _ (by omega) _ hil]
      exact ⟨rfl, Nat.lt_of_le_of_lt (Nat.sub_le _ _) (full_lt _)⟩) (HTB.out.below y.below))
    generalize allV l.length = AV at *
    clear hb
    go_wp2_with fail
    refine wp_region_aft (w0 := W0) (by kernel_rfl) (by kernel_rfl) (Below.refl _ _) ?_
    repeat (go_big_quiet_step (first | (go_at_call 50; exact aft_of (HAB.out _)) | (go_at_call 51; exact aft_of (HWW.out _)) | fail))
    refine wpQuiet_nil ?_
    rintro Y3 ⟨⟨_, b3⟩, rfl⟩
    try simp only []
    clear D0 D1 D2
    have HT := Lib.hid (HB.out.trans (b3.mono HB.out.size))
    clear b3
    go_wp2
    go_ret2
    exact ⟨ret_ib10 HX.out.1.symm HX.out.2.symm, HT.out⟩
set_option maxRecDepth 100000 in
set_option maxHeartbeats 4000000 in
theorem specWayWithout_c (L S : Int) (v : Value) (l : List Brk) (x b : Int) (w : World) (hr : Rs w v l.length (brks l)) (hn : l.length ≤ 1048576) :
    Calls Tryd.prog 23 #[.agg #[.int .i64 L, .int .i64 S, v], .int .i64 x, .int .i64 b] w fun e w' => e = .returned (.tuple #[.int .i64 (wwV L S l x b), .bool (wwOk L S l x b)]) ∧ Below w.heap.size w w' := by
  have HR := Lib.hid hr
  obtain ⟨a, ca, rfl⟩ := hr.shape
  clear hr
  have HB := Lib.hid ((Below.refl w.heap.size w).alloc (Nat.le_refl _) (.cells #[.int .i64 L, .int .i64 S, .slice a l.length ca] 26))
  have HB0 := Lib.hid (blk_new3 w (.int .i64 L) (.int .i64 S) (.slice a l.length ca) 26)
  have E0 := Lib.hid (fun W h => l10Asked_c L S (.slice a l.length ca) l x W h hn)
  have E1 := Lib.hid (fun W => l1In_c b 0 ((l.length : Int) - 1) W)
  have q1 : IntKind.i64.wrap ((l.length : Int) - 1) = (l.length : Int) - 1 := IntWalk.i64_in _ (by omega)
  cases hk : ask10 L S l x with
  | false =>
    rw [hk] at E0
    have HX := Lib.hid (ww_not (b := b) (sw10_no hk (but10 l.length b)).1)
    clear hk
    go_enter Tryd.func23, Tryd.ntmps23
    go_wp2_with fail
    refine (E0.out _ (HR.out.below HB.out rfl)).mono ?_
    rintro e w1 ⟨rfl, b1⟩
    have HT := Lib.hid (HB.out.trans (b1.mono HB.out.size))
    clear b1
    go_wp2
    go_ret2
    exact ⟨ret_ib10 HX.out.1.symm HX.out.2.symm, HT.out⟩
  | true =>
    rw [hk] at E0
    have hl4 := ask_len hk
    cases hm : inR b 0 ((l.length : Int) - 1) with
    | false =>
      rw [hm] at E1
      have HX := Lib.hid (ww_no (L := L) (S := S) (x := x) hm)
      clear hk hm
      go_enter Tryd.func23, Tryd.ntmps23
      go_wp2_with fail
      refine (E0.out _ (HR.out.below HB.out rfl)).mono ?_
      rintro e w1 ⟨rfl, b1⟩
      have HT := Lib.hid (HB.out.trans (b1.mono HB.out.size))
      obtain ⟨d0, d1, d2⟩ := blk_cell3 (blk_keep HB0.out b1 (by simp))
      clear b1
      go_wp2_with fail
      refine (E1.out _).mono ?_
      rintro e w2 ⟨rfl, rfl⟩
      go_wp2
      go_ret2
      exact ⟨ret_ib10 HX.out.1.symm HX.out.2.symm, HT.out⟩
    | true =>
      have hb := (inR_iff _ _ _).1 hm
      have HXI := Lib.hid (ww_in (L := L) (S := S) (x := x) hm)
      rw [hm] at E1
      obtain ⟨i, rfl⟩ : ∃ i : Nat, b = (i : Int) := ⟨b.toNat, by omega⟩
      have hil : i < l.length := by omega
      have HBT : Hid (but10 l.length (i : Int) = full10 l.length - 2 ^ i) := Lib.hid (by simp [but10])
      have HWC := Lib.hid (fun W h => l10Way_c L S (.slice a l.length ca) l x (but10 l.length (i : Int)) W h hk (but_lt _ _))
      rw [HBT.out] at HWC
      have q2 : IntKind.u64.wrap (i : Int) = (i : Int) := by rw [IntKind.wrap_u64]; omega
      have q3 := two_at i (by omega)
      have q4 := minus_at l.length (by omega) i hil
      have HLT := Lib.hid (wyS_lt (s := but10 l.length (i : Int)) hk)
      have HS1 := Lib.hid (fun g => sw10_yes (s := but10 l.length (i : Int)) hk g)
      have HS2 := Lib.hid (fun g => sw10_stay (L := L) (S := S) (l := l) (x := x) (s := but10 l.length (i : Int)) g)
      have HWE : Hid (stp10 L S l x (but10 l.length (i : Int)) = true → wyS L S l x (but10 l.length (i : Int)) = way10 L S l x (but10 l.length (i : Int))) := Lib.hid (fun g => by simp [wyS, g])
      rw [HBT.out] at HLT HS1 HS2 HWE HXI
      clear hk hm hb
      go_enter Tryd.func23, Tryd.ntmps23
      go_wp2_with fail
      refine (E0.out _ (HR.out.below HB.out rfl)).mono ?_
      rintro e w1 ⟨rfl, b1⟩
      have HT := Lib.hid (HB.out.trans (b1.mono HB.out.size))
      have HK1 := Lib.hid (blk_keep HB0.out b1 (by simp))
      obtain ⟨e0, e1, e2⟩ := blk_cell3 HK1.out
      clear b1
      go_wp2_with fail
      refine (E1.out _).mono ?_
      rintro e w2 ⟨rfl, rfl⟩
      clear e0 e1 e2
      obtain ⟨d0, d1, d2⟩ := blk_cell3 HK1.out
      have D0 : ∀ y : Aft w2, y.w.cell? ⟨w.heap.size, 0, none⟩ = some (.int .i64 L) := fun y => y.cell d0
      have D1 : ∀ y : Aft w2, y.w.cell? ⟨w.heap.size, 1, none⟩ = some (.int .i64 S) := fun y => y.cell d1
      have D2 : ∀ y : Aft w2, y.w.cell? ⟨w.heap.size, 2, none⟩ = some (.slice a l.length ca) := fun y => y.cell d2
      clear d0 d1 d2
      have HAL := Lib.hid (fun (y : Aft w2) => l10All_c L S (.slice a l.length ca) l y.w (HR.out.below (HT.out.trans (y.below.mono HT.out.size)) rfl) hl4)
      have HWY := Lib.hid (fun (y : Aft w2) => HWC.out y.w (HR.out.below (HT.out.trans (y.below.mono HT.out.size)) rfl))
      have hfl : 0 ≤ ((full10 l.length : Nat) : Int) := by omega
      generalize full10 l.length - 2 ^ i = bt at *
      generalize ((full10 l.length : Nat) : Int) = fl at *
      go_wp2_with fail
      refine wp_region_aft (w0 := w2) (by kernel_rfl) (by kernel_rfl) (Below.refl _ _) ?_
      repeat (go_big_quiet_step (first | (go_at_call 55; exact aft_of (HAL.out _)) | (go_at_call 56; exact aft_of (HWY.out _)) | fail))
      refine wpQuiet_nil ?_
      rintro Y3 ⟨⟨_, b3⟩, rfl⟩
      try simp only []
      clear D0 D1 D2
      have HT3 := Lib.hid (HT.out.trans (b3.mono HT.out.size))
      clear b3
      cases hst : stp10 L S l x bt with
      | false =>
        have t1 := HLT.out
        rw [hst] at t1
        simp only [Bool.not_false] at t1
        have HX := Lib.hid (HS2.out hst)
        clear hst
        generalize wyS L S l x bt = wy at *
        go_wp2
        go_ret2
        exact ⟨ret_ib10 (by rw [HXI.out.1, HX.out.2.2]) (by rw [HXI.out.2, HX.out.1]), HT3.out⟩
      | true =>
        have t1 := HLT.out
        rw [hst] at t1
        simp only [Bool.not_true] at t1
        have HX := Lib.hid (HS1.out hst)
        have HW := Lib.hid (HWE.out hst)
        clear hst
        generalize wyS L S l x bt = wy at *
        go_wp2
        go_ret2
        exact ⟨ret_ib10 (by rw [HXI.out.1, HX.out.2.2, HW.out]) (by rw [HXI.out.2, HX.out.1]), HT3.out⟩
/-- The sum of the first forces. -/
def sumF (l : List Brk) : Nat → Int
  | 0 => 0
  | j + 1 => sumF l j + (gth l j).f
theorem sumF_hold {l : List Brk} (h : GoodB l) : ∀ j, j ≤ l.length → hold l (fun i => (full10 l.length).testBit i) ((10 : Nat) : Int) j = sumF l j
  | 0, _ => rfl
  | j + 1, hj => by
    have ih := sumF_hold h j (by omega)
    have hb := (h.2 j (by omega)).2
    simp only [hold, sumF, ih, full10_bit l.length j (by omega), Bool.true_and]
    rw [if_pos (by simp; omega)]
theorem sumF_bd {l : List Brk} (h : GoodB l) : ∀ j, j ≤ l.length → 0 ≤ sumF l j ∧ sumF l j ≤ 100000 * (j : Int)
  | 0, _ => by simp [sumF]
  | j + 1, hj => by
    have ih := sumF_bd h j (by omega)
    have hb := (h.2 j (by omega)).1
    simp only [sumF]
    omega
def hsV (L S : Int) (l : List Brk) : Bool := drvOk L S l && decide (S ≤ sumF l l.length)
theorem hs_frS {S : Int} {l : List Brk} (h : GoodB l) : frS S l (full10 l.length) 10 = S - sumF l l.length := by
  unfold frS frc
  rw [sumF_hold h _ (Nat.le_refl _)]
theorem ret_bb10 {x y : Bool} {a b : Bool} (g : x = y) (h : a = b) : Ending.returned (.tuple #[.bool x, .bool a]) = .returned (.tuple #[.bool y, .bool b]) := by rw [g, h]
set_option maxRecDepth 100000 in
set_option maxHeartbeats 4000000 in
theorem implHoldsStill_c (L S : Int) (v : Value) (l : List Brk) (w : World) (hr : Rs w v l.length (brks l)) (hn : l.length ≤ 1048576) (hT : BruP w) :
    Calls Tryd.prog 38 #[.agg #[.int .i64 L, .int .i64 S, v]] w fun e w' => e = .returned (.tuple #[.bool (hsV L S l), .bool (drvOk L S l)]) ∧ Below w.heap.size w w' := by
  have HR := Lib.hid hr
  obtain ⟨a, ca, rfl⟩ := hr.shape
  clear hr
  have HB := Lib.hid ((Below.refl w.heap.size w).alloc (Nat.le_refl _) (.cells #[.int .i64 L, .int .i64 S, .slice a l.length ca] 26))
  have HB0 := Lib.hid (blk_new3 w (.int .i64 L) (.int .i64 S) (.slice a l.length ca) 26)
  have HTB := Lib.hid (hT.below HB.out)
  clear hT
  have E0 := Lib.hid (fun W h => implIsDrive_c L S (.slice a l.length ca) l W h hn)
  cases hk : drvOk L S l with
  | false =>
    rw [hk] at E0
    have HX : Hid (hsV L S l = false) := Lib.hid (by simp [hsV, hk])
    clear hk
    go_enter Tryd.func38, Tryd.ntmps38
    go_wp2_with fail
    refine (E0.out _ (HR.out.below HB.out rfl)).mono ?_
    rintro e w1 ⟨rfl, b1⟩
    have HT := Lib.hid (HB.out.trans (b1.mono HB.out.size))
    clear b1
    go_wp2
    go_ret2
    exact ⟨ret_bb10 HX.out.symm rfl, HT.out⟩
  | true =>
    rw [hk] at E0
    obtain ⟨hL, hS, hg⟩ := (drvOk_iff L S l).1 hk
    have HFE := Lib.hid (hs_frS (S := S) hg)
    have HX : Hid (hsV L S l = decide (S ≤ sumF l l.length)) := Lib.hid (by simp [hsV, hk])
    have HAV := Lib.hid (allV_of l.length hg.1)
    have HFC := Lib.hid (fun W h h2 => forceIn_c L S (.slice a l.length ca) l 10 (full10 l.length) W h hg hS (by decide) (full_lt _) h2)
    rw [HFE.out] at HFC
    clear hk hg
    go_enter Tryd.func38, Tryd.ntmps38
    go_wp2_with fail
    refine (E0.out _ (HR.out.below HB.out rfl)).mono ?_
    rintro e w1 ⟨rfl, b1⟩
    have HT := Lib.hid (HB.out.trans (b1.mono HB.out.size))
    have HK1 := Lib.hid (blk_keep HB0.out b1 (by simp))
    have HTW := Lib.hid (HTB.out.below b1)
    clear b1
    obtain ⟨d0, d1, d2⟩ := blk_cell3 HK1.out
    have D0 : ∀ y : Aft w1, y.w.cell? ⟨w.heap.size, 0, none⟩ = some (.int .i64 L) := fun y => y.cell d0
    have D1 : ∀ y : Aft w1, y.w.cell? ⟨w.heap.size, 1, none⟩ = some (.int .i64 S) := fun y => y.cell d1
    have D2 : ∀ y : Aft w1, y.w.cell? ⟨w.heap.size, 2, none⟩ = some (.slice a l.length ca) := fun y => y.cell d2
    clear d0 d1 d2
    have HAB := Lib.hid (fun (y : Aft w1) => allBrakes_c L S (.slice a l.length ca) l y.w (HR.out.below (HT.out.trans (y.below.mono HT.out.size)) rfl) hn)
    change Hid (∀ y : Aft w1, Calls Tryd.prog 50 #[.agg #[.int .i64 L, .int .i64 S, .slice a l.length ca]] y.w fun e w' => e = .returned (.int .u64 (allV l.length)) ∧ Below y.w.heap.size y.w w') at HAB
    rw [HAV.out] at HAB
    have HFW := Lib.hid (fun (y : Aft w1) => HFC.out y.w (HR.out.below (HT.out.trans (y.below.mono HT.out.size)) rfl) (HTW.out.below y.below))
    have HDE : Hid (decide (S - sumF l l.length ≤ 0) = decide (S ≤ sumF l l.length)) := Lib.hid (by congr 1; exact propext ⟨fun h => by omega, fun h => by omega⟩)
    generalize S - sumF l l.length = F at *
    generalize ((full10 l.length : Nat) : Int) = fl at *
    go_wp2_with fail
    refine wp_region_aft (w0 := w1) (by kernel_rfl) (by kernel_rfl) (Below.refl _ _) ?_
    repeat (go_big_quiet_step (first | (go_at_call 50; exact aft_of (HAB.out _)) | (go_at_call 71; exact aft_of (HFW.out _)) | fail))
    refine wpQuiet_nil ?_
    rintro Y3 ⟨⟨_, b3⟩, rfl⟩
    try simp only []
    clear D0 D1 D2
    have HT3 := Lib.hid (HT.out.trans (b3.mono HT.out.size))
    clear b3
    go_wp2
    go_ret2
    exact ⟨ret_bb10 (by rw [HX.out, ← HDE.out]) rfl, HT3.out⟩
set_option maxRecDepth 100000 in
set_option maxHeartbeats 4000000 in
theorem specHoldsStill_c (L S : Int) (v : Value) (l : List Brk) (w : World) (hr : Rs w v l.length (brks l)) (hn : l.length ≤ 1048576) :
    Calls Tryd.prog 39 #[.agg #[.int .i64 L, .int .i64 S, v]] w fun e w' => e = .returned (.tuple #[.bool (hsV L S l), .bool (drvOk L S l)]) ∧ Below w.heap.size w w' := by
  have HR := Lib.hid hr
  obtain ⟨ao, a, oa, ca, rfl, hao, hat⟩ := hr.form_Brk
  have HA := Lib.hid hao
  have HL := Lib.hid hat
  clear hr hao hat
  have HB := Lib.hid ((Below.refl w.heap.size w).alloc (Nat.le_refl _) (.cells #[.int .i64 L, .int .i64 S, .slice ao l.length ca] 26))
  have HB0 := Lib.hid (blk_new3 w (.int .i64 L) (.int .i64 S) (.slice ao l.length ca) 26)
  have E0 := Lib.hid (fun W h => l10Good_c L S (.slice ao l.length ca) l W h hn)
  cases hk : drvOk L S l with
  | false =>
    rw [hk] at E0
    have HX : Hid (hsV L S l = false) := Lib.hid (by simp [hsV, hk])
    clear hk
    go_enter Tryd.func39, Tryd.ntmps39
    go_wp2_with fail
    refine (E0.out _ (HR.out.below HB.out rfl)).mono ?_
    rintro e w1 ⟨rfl, b1⟩
    have HT := Lib.hid (HB.out.trans (b1.mono HB.out.size))
    clear b1
    go_wp2
    go_ret2
    exact ⟨ret_bb10 HX.out.symm rfl, HT.out⟩
  | true =>
    rw [hk] at E0
    obtain ⟨hL, hS, hg⟩ := (drvOk_iff L S l).1 hk
    have hl4 := hg.1
    have HX : Hid (hsV L S l = decide (S ≤ sumF l l.length)) := Lib.hid (by simp [hsV, hk])
    have HGB := Lib.hid hg.2
    have HSB := Lib.hid (fun j h => sumF_bd hg j h)
    clear hk hg
    go_enter Tryd.func39, Tryd.ntmps39
    go_wp2_with fail
    refine (E0.out _ (HR.out.below HB.out rfl)).mono ?_
    rintro e w1 ⟨rfl, b1⟩
    have HT := Lib.hid (HB.out.trans (b1.mono HB.out.size))
    have HK1 := Lib.hid (blk_keep HB0.out b1 (by simp))
    clear b1
    go_wp2
    go_loopw [4, 5] (fun f i wr => ∃ j : Nat, j ≤ l.length ∧ i = .int .i64 j ∧ f = .int .i64 (sumF l j) ∧ wr = w1) (fun _ i _ => l.length - (intOf i).toNat)
    case atStart => exact ⟨0, by omega, rfl, rfl, rfl⟩
    case round =>
      obtain ⟨j, hj, rfl, rfl, rfl⟩ := hrel
      obtain ⟨d0, d1, d2⟩ := blk_cell3 HK1.out
      have hsb := HSB.out j hj
      by_cases hlt : j < l.length
      · obtain ⟨rfl, hla, hll⟩ := HA.out (by omega)
        obtain ⟨c0, c1⟩ := (HL.out.below HT.out hla) j hlt
        have hgb := (HGB.out j hlt).1
        have HST : Hid (sumF l (j + 1) = sumF l j + (gth l j).f) := Lib.hid rfl
        generalize sumF l j = F at *
        generalize gth l j = D at *
        have q1 : IntKind.i64.wrap (F + D.f) = F + D.f := IntWalk.i64_in _ (by omega)
        go_wp2
        go_roundw
        case rel => exact ⟨j + 1, by omega, by go_num, by rw [HST.out], by trivial⟩
        case measure => simp [intOf]; omega
      · obtain rfl : j = l.length := by omega
        go_wp2
        go_ret2
        exact ⟨ret_bb10 HX.out.symm rfl, HT.out⟩
/-- The greatest number up to n such that all from 1 to it hold. -/
def runC (f : Nat → Bool) : Nat → Nat
  | 0 => 0
  | k + 1 => if runC f k = k ∧ f (k + 1) = true then k + 1 else runC f k
theorem runC_le (f : Nat → Bool) : ∀ n, runC f n ≤ n
  | 0 => Nat.le_refl _
  | k + 1 => by
    have ih := runC_le f k
    unfold runC
    split <;> omega
theorem runC_all {f : Nat → Bool} : ∀ {k : Nat}, (∀ j, 0 < j → j ≤ k → f j = true) → runC f k = k
  | 0, _ => rfl
  | k + 1, h => by
    have ih := runC_all (f := f) (k := k) (fun j a b => h j a (by omega))
    unfold runC
    rw [if_pos ⟨ih, h (k + 1) (by omega) (Nat.le_refl _)⟩]
theorem runC_stop {f : Nat → Bool} {k : Nat} (h : ∀ j, 0 < j → j ≤ k → f j = true) (hf : f (k + 1) = false) : ∀ n, runC f (k + n) = k
  | 0 => runC_all h
  | n + 1 => by
    have ih := runC_stop h hf n
    rw [show k + (n + 1) = (k + n) + 1 by omega]
    unfold runC
    rw [ih]
    by_cases e : n = 0
    · subst e
      rw [if_neg (by rw [Nat.add_zero, hf]; simp)]
    · rw [if_neg (by omega)]
theorem runC_good {f : Nat → Bool} : ∀ {n j : Nat}, 0 < j → j ≤ runC f n → f j = true
  | 0, j, h, g => by simp [runC] at g; omega
  | k + 1, j, h, g => by
    unfold runC at g
    split at g
    · rename_i hc
      by_cases e : j = k + 1
      · subst e; exact hc.2
      · exact runC_good (n := k) h (by omega)
    · exact runC_good (n := k) h g
def ssF (L S : Int) (l : List Brk) (y : Int) (k : Nat) : Bool := stp10 L S l (k : Int) (full10 l.length) && decide (way10 L S l (k : Int) (full10 l.length) ≤ y)
def ssOk (L S : Int) (l : List Brk) (y : Int) : Bool := drvOk L S l && decide (0 ≤ y)
def ssV (L S : Int) (l : List Brk) (y : Int) : Int := if ssOk L S l y then (runC (ssF L S l y) 100 : Nat) else 0
theorem ss_no {L S : Int} {l : List Brk} {y : Int} (h : ssOk L S l y = false) : ssV L S l y = 0 := by simp [ssV, h]
theorem ss_yes {L S : Int} {l : List Brk} {y : Int} (h : ssOk L S l y = true) : ssV L S l y = (runC (ssF L S l y) 100 : Nat) := by simp [ssV, h]
theorem ask_of {L S : Int} {l : List Brk} {k : Nat} (h : drvOk L S l = true) (hk : k ≤ 100) : ask10 L S l (k : Int) = true := (ask10_iff _ _ _ _).2 ⟨h, by omega⟩
theorem ss_bad1 {L S : Int} {l : List Brk} {y : Int} {k : Nat} (h : stp10 L S l (k : Int) (full10 l.length) = false) : ssF L S l y k = false := by simp [ssF, h]
theorem ss_bad2 {L S : Int} {l : List Brk} {y : Int} {k : Nat} (h : y < way10 L S l (k : Int) (full10 l.length)) : ssF L S l y k = false := by
  simp only [ssF, Bool.and_eq_false_iff, decide_eq_false_iff_not]
  right; omega
theorem ss_good {L S : Int} {l : List Brk} {y : Int} {k : Nat} (g : stp10 L S l (k : Int) (full10 l.length) = true) (h : ¬ y < way10 L S l (k : Int) (full10 l.length)) : ssF L S l y k = true := by
  simp only [ssF, Bool.and_eq_true, decide_eq_true_iff]
  exact ⟨g, by omega⟩
set_option maxRecDepth 100000 in
set_option maxHeartbeats 4000000 in
theorem implSafeSpeed_c (L S : Int) (v : Value) (l : List Brk) (y : Int) (w : World) (hr : Rs w v l.length (brks l)) (hn : l.length ≤ 1048576) (hT : BruP w) :
    Calls Tryd.prog 29 #[.agg #[.int .i64 L, .int .i64 S, v], .int .i64 y] w fun e w' => e = .returned (.tuple #[.int .i64 (ssV L S l y), .bool (ssOk L S l y)]) ∧ Below w.heap.size w w' := by
  have HR := Lib.hid hr
  obtain ⟨a, ca, rfl⟩ := hr.shape
  clear hr
  have HB := Lib.hid ((Below.refl w.heap.size w).alloc (Nat.le_refl _) (.cells #[.int .i64 L, .int .i64 S, .slice a l.length ca] 26))
  have HB0 := Lib.hid (blk_new3 w (.int .i64 L) (.int .i64 S) (.slice a l.length ca) 26)
  have HTB := Lib.hid (hT.below HB.out)
  clear hT
  have E0 := Lib.hid (fun W h => implIsDrive_c L S (.slice a l.length ca) l W h hn)
  have hd : ssOk L S l y = (drvOk L S l && decide (0 ≤ y)) := rfl
  cases hk : drvOk L S l with
  | false =>
    rw [hk] at E0 hd
    have HX := Lib.hid (ss_no hd)
    have HD : Hid (ssOk L S l y = false) := Lib.hid (by rw [hd]; rfl)
    clear hk hd
    go_enter Tryd.func29, Tryd.ntmps29
    go_wp2_with fail
    refine (E0.out _ (HR.out.below HB.out rfl)).mono ?_
    rintro e w1 ⟨rfl, b1⟩
    have HT := Lib.hid (HB.out.trans (b1.mono HB.out.size))
    clear b1
    go_wp2
    go_ret2
    exact ⟨ret_ib10 HX.out.symm HD.out.symm, HT.out⟩
  | true =>
    by_cases h0 : 0 ≤ y
    · rw [hk, decide_eq_true h0] at hd
      rw [hk] at E0
      have HD : Hid (ssOk L S l y = true) := Lib.hid hd
      have HX := Lib.hid (ss_yes hd)
      obtain ⟨hL, hS, hg⟩ := (drvOk_iff L S l).1 hk
      have hl4 := hg.1
      have HAK := Lib.hid (fun (k : Nat) (h : k ≤ 100) => ask_of hk h)
      have t0 : decide (y < 0) = false := by simp; omega
      clear hk hd hg
      go_enter Tryd.func29, Tryd.ntmps29
      go_wp2_with fail
      refine (E0.out _ (HR.out.below HB.out rfl)).mono ?_
      rintro e w1 ⟨rfl, b1⟩
      have HT := Lib.hid (HB.out.trans (b1.mono HB.out.size))
      have HK1 := Lib.hid (blk_keep HB0.out b1 (by simp))
      have hw1 : w.heap.size < w1.heap.size := by have := b1.size; simp at this; omega
      have HTW := Lib.hid (HTB.out.below b1)
      clear b1
      go_wp2
      go_loopw [6] (fun i wr => ∃ k : Nat, k ≤ 100 ∧ i = .int .i64 k ∧ Hid (Below w1.heap.size w1 wr) ∧ Hid (∀ j, 0 < j → j ≤ k → ssF L S l y j = true)) (fun i _ => 100 - (intOf i).toNat)
      case atStart => exact ⟨0, by omega, rfl, Lib.hid (Below.refl _ _), Lib.hid (fun j a b => by omega)⟩
      case round =>
        obtain ⟨k, hk, rfl, hbel, hno⟩ := hrel
        by_cases hlt : k < 100
        · obtain ⟨d0, d1, d2⟩ := blk_cell3 (blk_keep HK1.out hbel.out hw1)
          have q1 : IntKind.i64.wrap ((k : Int) + 1) = (k : Int) + 1 := IntWalk.i64_in _ (by omega)
          have EB := Lib.hid (fun W h h2 => implBrakeWay_c L S (.slice a l.length ca) l ((k + 1 : Nat) : Int) W h hn h2)
          have hck : ((k + 1 : Nat) : Int) = (k : Int) + 1 := by omega
          have HST : Hid (ssF L S l y (k + 1) = false → k = runC (ssF L S l y) 100) := Lib.hid (fun h => by
            have := runC_stop hno.out h (100 - k)
            rw [show k + (100 - k) = 100 by omega] at this
            exact this.symm)
          have HNX : Hid (ssF L S l y (k + 1) = true → ∀ j, 0 < j → j ≤ k + 1 → ssF L S l y j = true) := Lib.hid (fun h j hj hj2 => by
            by_cases e : j = k + 1
            · subst e; exact h
            · exact hno.out j hj (by omega))
          cases hst : stp10 L S l ((k + 1 : Nat) : Int) (full10 l.length) with
          | false =>
            obtain ⟨g1, _, g3⟩ := sw10_stay hst
            rw [g1, g3] at EB
            have HKX := Lib.hid (HST.out (ss_bad1 hst))
            rw [hck] at EB
            clear hst g1 g3 hck
            go_wp2_with fail
            refine (EB.out _ (HR.out.below (HT.out.trans (hbel.out.mono HT.out.size)) rfl) (HTW.out.below hbel.out)).mono ?_
            rintro e w2 ⟨rfl, b2⟩
            have HB2 := Lib.hid ((HT.out.trans (hbel.out.mono HT.out.size)).trans (b2.mono (by have := HT.out.size; have := hbel.out.size; omega)))
            clear b2
            go_wp2
            go_ret2
            exact ⟨ret_ib10 (by rw [HX.out, ← HKX.out]) HD.out.symm, HB2.out⟩
          | true =>
            obtain ⟨g1, _, g3⟩ := sw10_yes (HAK.out (k + 1) (by omega)) hst
            rw [g1, g3] at EB
            by_cases hy : y < way10 L S l ((k + 1 : Nat) : Int) (full10 l.length)
            · have HKX := Lib.hid (HST.out (ss_bad2 hy))
              have t1 : decide (y < way10 L S l ((k + 1 : Nat) : Int) (full10 l.length)) = true := by simpa using hy
              generalize way10 L S l ((k + 1 : Nat) : Int) (full10 l.length) = wy at *
              rw [hck] at EB
              clear hst g1 g3 hck hy
              go_wp2_with fail
              refine (EB.out _ (HR.out.below (HT.out.trans (hbel.out.mono HT.out.size)) rfl) (HTW.out.below hbel.out)).mono ?_
              rintro e w2 ⟨rfl, b2⟩
              have HB2 := Lib.hid ((HT.out.trans (hbel.out.mono HT.out.size)).trans (b2.mono (by have := HT.out.size; have := hbel.out.size; omega)))
              clear b2
              go_wp2
              go_ret2
              exact ⟨ret_ib10 (by rw [HX.out, ← HKX.out]) HD.out.symm, HB2.out⟩
            · have HN2 := Lib.hid (HNX.out (ss_good hst hy))
              have t1 : decide (y < way10 L S l ((k + 1 : Nat) : Int) (full10 l.length)) = false := by simpa using hy
              generalize way10 L S l ((k + 1 : Nat) : Int) (full10 l.length) = wy at *
              rw [hck] at EB
              clear hst g1 g3 hck hy
              go_wp2_with fail
              refine (EB.out _ (HR.out.below (HT.out.trans (hbel.out.mono HT.out.size)) rfl) (HTW.out.below hbel.out)).mono ?_
              rintro e w2 ⟨rfl, b2⟩
              have HB2 := Lib.hid (hbel.out.trans (b2.mono hbel.out.size))
              clear b2
              go_wp2
              go_roundw
              case rel => exact ⟨k + 1, by omega, by go_num, HB2, HN2⟩
              case measure => simp [intOf]; omega
        · obtain rfl : k = 100 := by omega
          have HKX : Hid (100 = runC (ssF L S l y) 100) := Lib.hid (runC_all hno.out).symm
          go_wp2
          go_ret2
          exact ⟨ret_ib10 (by rw [HX.out, ← HKX.out]) HD.out.symm, HT.out.trans (hbel.out.mono HT.out.size)⟩
    · rw [hk, decide_eq_false h0] at hd
      rw [hk] at E0
      have HD : Hid (ssOk L S l y = false) := Lib.hid hd
      have HX := Lib.hid (ss_no hd)
      have t0 : decide (y < 0) = true := by simp; omega
      clear hk hd
      go_enter Tryd.func29, Tryd.ntmps29
      go_wp2_with fail
      refine (E0.out _ (HR.out.below HB.out rfl)).mono ?_
      rintro e w1 ⟨rfl, b1⟩
      have HT := Lib.hid (HB.out.trans (b1.mono HB.out.size))
      clear b1
      go_wp2
      go_ret2
      exact ⟨ret_ib10 HX.out.symm HD.out.symm, HT.out⟩
set_option maxRecDepth 100000 in
set_option maxHeartbeats 4000000 in
theorem specSafeSpeed_c (L S : Int) (v : Value) (l : List Brk) (y : Int) (w : World) (hr : Rs w v l.length (brks l)) (hn : l.length ≤ 1048576) :
    Calls Tryd.prog 30 #[.agg #[.int .i64 L, .int .i64 S, v], .int .i64 y] w fun e w' => e = .returned (.tuple #[.int .i64 (ssV L S l y), .bool (ssOk L S l y)]) ∧ Below w.heap.size w w' := by
  have HR := Lib.hid hr
  obtain ⟨a, ca, rfl⟩ := hr.shape
  clear hr
  have HB := Lib.hid ((Below.refl w.heap.size w).alloc (Nat.le_refl _) (.cells #[.int .i64 L, .int .i64 S, .slice a l.length ca] 26))
  have HB0 := Lib.hid (blk_new3 w (.int .i64 L) (.int .i64 S) (.slice a l.length ca) 26)
  have E0 := Lib.hid (fun W h => l10Good_c L S (.slice a l.length ca) l W h hn)
  have hd : ssOk L S l y = (drvOk L S l && decide (0 ≤ y)) := rfl
  cases hk : drvOk L S l with
  | false =>
    rw [hk] at E0 hd
    have HX := Lib.hid (ss_no hd)
    have HD : Hid (ssOk L S l y = false) := Lib.hid (by rw [hd]; rfl)
    clear hk hd
    go_enter Tryd.func30, Tryd.ntmps30
    go_wp2_with fail
    refine (E0.out _ (HR.out.below HB.out rfl)).mono ?_
    rintro e w1 ⟨rfl, b1⟩
    have HT := Lib.hid (HB.out.trans (b1.mono HB.out.size))
    clear b1
    go_wp2
    go_ret2
    exact ⟨ret_ib10 HX.out.symm HD.out.symm, HT.out⟩
  | true =>
    by_cases h0 : 0 ≤ y
    · rw [hk, decide_eq_true h0] at hd
      rw [hk] at E0
      have HD : Hid (ssOk L S l y = true) := Lib.hid hd
      have HX := Lib.hid (ss_yes hd)
      obtain ⟨hL, hS, hg⟩ := (drvOk_iff L S l).1 hk
      have hl4 := hg.1
      have HAK := Lib.hid (fun (k : Nat) (h : k ≤ 100) => ask_of hk h)
      have t0 : decide (y < 0) = false := by simp; omega
      clear hk hd hg
      go_enter Tryd.func30, Tryd.ntmps30
      go_wp2_with fail
      refine (E0.out _ (HR.out.below HB.out rfl)).mono ?_
      rintro e w1 ⟨rfl, b1⟩
      have HT := Lib.hid (HB.out.trans (b1.mono HB.out.size))
      have HK1 := Lib.hid (blk_keep HB0.out b1 (by simp))
      have hw1 : w.heap.size < w1.heap.size := by have := b1.size; simp at this; omega
      clear b1
      go_wp2
      go_loopw [6, 7] (fun m i wr => ∃ k : Nat, k ≤ 100 ∧ i = .int .i64 ((k + 1 : Nat) : Int) ∧ m = .int .i64 k ∧ Hid (Below w1.heap.size w1 wr) ∧ Hid (∀ j, 0 < j → j ≤ k → ssF L S l y j = true)) (fun _ i _ => 101 - (intOf i).toNat)
      case atStart => exact ⟨0, by omega, rfl, rfl, Lib.hid (Below.refl _ _), Lib.hid (fun j a b => by omega)⟩
      case round =>
        obtain ⟨k, hk, rfl, rfl, hbel, hno⟩ := hrel
        have hbs := hbel.out.size
        by_cases hlt : k < 100
        · have HWR := Lib.hid (HT.out.trans (hbel.out.mono HT.out.size))
          have hak := HAK.out (k + 1) (by omega)
          have HLT := Lib.hid (wyS_lt (s := full10 l.length) hak)
          have HWE : Hid (stp10 L S l ((k + 1 : Nat) : Int) (full10 l.length) = true → wyS L S l ((k + 1 : Nat) : Int) (full10 l.length) = way10 L S l ((k + 1 : Nat) : Int) (full10 l.length)) := Lib.hid (fun g => by unfold wyS; rw [g]; rfl)
          have HST : Hid (ssF L S l y (k + 1) = false → k = runC (ssF L S l y) 100) := Lib.hid (fun h => by
            have := runC_stop hno.out h (100 - k)
            rw [show k + (100 - k) = 100 by omega] at this
            exact this.symm)
          have HNX : Hid (ssF L S l y (k + 1) = true → ∀ j, 0 < j → j ≤ k + 1 → ssF L S l y j = true) := Lib.hid (fun h j hj hj2 => by
            by_cases e : j = k + 1
            · subst e; exact h
            · exact hno.out j hj (by omega))
          have HB1S := Lib.hid (fun g => ss_bad1 (L := L) (S := S) (l := l) (y := y) (k := k + 1) g)
          have HB2S := Lib.hid (fun g => ss_bad2 (L := L) (S := S) (l := l) (y := y) (k := k + 1) g)
          have HG2S := Lib.hid (fun g h => ss_good (L := L) (S := S) (l := l) (y := y) (k := k + 1) g h)
          have t2 : decide (((k + 1 : Nat) : Int) ≤ 100) = true := by simp; omega
          have HAL := Lib.hid (fun (z : Aft wr) => l10All_c L S (.slice a l.length ca) l z.w (HR.out.below (HWR.out.trans (z.below.mono HWR.out.size)) rfl) hl4)
          have HWY := Lib.hid (fun (z : Aft wr) => l10Way_c L S (.slice a l.length ca) l ((k + 1 : Nat) : Int) (full10 l.length) z.w (HR.out.below (HWR.out.trans (z.below.mono HWR.out.size)) rfl) hak (full_lt _))
          obtain ⟨d0, d1, d2⟩ := blk_cell3 (blk_keep HK1.out hbel.out hw1)
          have D0 : ∀ z : Aft wr, z.w.cell? ⟨w.heap.size, 0, none⟩ = some (.int .i64 L) := fun z => z.cell d0
          have D1 : ∀ z : Aft wr, z.w.cell? ⟨w.heap.size, 1, none⟩ = some (.int .i64 S) := fun z => z.cell d1
          have D2 : ∀ z : Aft wr, z.w.cell? ⟨w.heap.size, 2, none⟩ = some (.slice a l.length ca) := fun z => z.cell d2
          clear d0 d1 d2
          generalize hf1 : full10 l.length = fl at *
          clear hf1 hak
          generalize hK1 : ((k + 1 : Nat) : Int) = K1 at *
          go_wp2_with fail
          refine wp_region_aft (w0 := wr) (by kernel_rfl) (by kernel_rfl) (Below.refl _ _) ?_
          repeat (go_big_quiet_step (first | (go_at_call 55; exact aft_of (HAL.out _)) | (go_at_call 56; exact aft_of (HWY.out _)) | fail))
          refine wpQuiet_nil ?_
          rintro Y3 ⟨⟨_, b3⟩, rfl⟩
          try simp only []
          clear D0 D1 D2
          have HB3 := Lib.hid (hbel.out.trans (b3.mono hbs))
          have HT3 := Lib.hid (HT.out.trans (HB3.out.mono HT.out.size))
          clear b3 HAL HWY
          cases hst : stp10 L S l K1 fl with
          | false =>
            have HKX := Lib.hid (HST.out (HB1S.out hst))
            have t1 := HLT.out
            rw [hst] at t1
            simp only [Bool.not_false] at t1
            clear hst
            generalize wyS L S l K1 fl = wy at *
            go_wp2
            go_ret2
            exact ⟨ret_ib10 (by rw [HX.out, ← HKX.out]) HD.out.symm, HT3.out⟩
          | true =>
            have t1 := HLT.out
            rw [hst] at t1
            simp only [Bool.not_true] at t1
            rw [HWE.out hst] at *
            by_cases hy : y < way10 L S l K1 fl
            · have HKX := Lib.hid (HST.out (HB2S.out hy))
              have t3 : decide (y < way10 L S l K1 fl) = true := by simpa using hy
              clear hst hy
              generalize way10 L S l K1 fl = wy at *
              go_wp2
              go_ret2
              exact ⟨ret_ib10 (by rw [HX.out, ← HKX.out]) HD.out.symm, HT3.out⟩
            · have HN2 := Lib.hid (HNX.out (HG2S.out hst (by omega)))
              have t3 : decide (y < way10 L S l K1 fl) = false := by simpa using hy
              clear hst hy
              generalize way10 L S l K1 fl = wy at *
              have q1 : IntKind.i64.wrap (K1 + 1) = K1 + 1 := IntWalk.i64_in _ (by omega)
              go_wp2
              go_roundw
              case rel => exact ⟨k + 1, by omega, by subst hK1; go_num, by rw [← hK1], HB3, HN2⟩
              case measure => simp [intOf]; omega
        · obtain rfl : k = 100 := by omega
          have HKX : Hid (100 = runC (ssF L S l y) 100) := Lib.hid (runC_all hno.out).symm
          go_wp2
          go_ret2
          exact ⟨ret_ib10 (by rw [HX.out, ← HKX.out]) HD.out.symm, HT.out.trans (hbel.out.mono HT.out.size)⟩
    · rw [hk, decide_eq_false h0] at hd
      rw [hk] at E0
      have HD : Hid (ssOk L S l y = false) := Lib.hid hd
      have HX := Lib.hid (ss_no hd)
      have t0 : decide (y < 0) = true := by simp; omega
      clear hk hd
      go_enter Tryd.func30, Tryd.ntmps30
      go_wp2_with fail
      refine (E0.out _ (HR.out.below HB.out rfl)).mono ?_
      rintro e w1 ⟨rfl, b1⟩
      have HT := Lib.hid (HB.out.trans (b1.mono HB.out.size))
      clear b1
      go_wp2
      go_ret2
      exact ⟨ret_ib10 HX.out.symm HD.out.symm, HT.out⟩
end Go.Proofs.YthmoogkllpcebaaDoor
