/- The ways with all brakes and without one, holding still and the safe speed: the program's and the specification's answer as one function. Condition: sizes; the library's table is as laid. -/
import Derived.Test.YthmoogkllpcebaaDoorBrkH
namespace Go.Proofs.YthmoogkllpcebaaDoor
open Go.RowKit
set_option linter.unusedVariables false
/-- The set of all of n, as the program reckons it. -/
def allV (n : Nat) : Int := IntKind.u64.wrap (IntKind.u64.wrap (2 ^ min n 64) - 1)
theorem allV_of (n : Nat) (h : n ≤ 4) : allV n = ((full10 n : Nat) : Int) := by
  have := allW n h
  unfold allV
  rw [← this]
  simp
theorem full_lt (n : Nat) : full10 n < 2 ^ n := by
  unfold full10
  have := Nat.pow_pos (n := n) (show 0 < 2 by decide)
  omega
theorem ask_len {L S : Int} {l : List Brk} {x : Int} (h : ask10 L S l x = true) : l.length ≤ 4 := ((drvOk_iff _ _ _).1 ((ask10_iff _ _ _ _).1 h).1).2.2.1
theorem all_use {L S : Int} {l : List Brk} {x : Int} (h : ask10 L S l x = true) : allV l.length = ((full10 l.length : Nat) : Int) ∧ full10 l.length < 2 ^ l.length := ⟨allV_of _ (ask_len h), full_lt _⟩
theorem wyS_lt {L S : Int} {l : List Brk} {x : Int} {s : Nat} (h : ask10 L S l x = true) : decide (wyS L S l x s < 0) = !stp10 L S l x s := by
  have hb := way10_bd h s
  cases g : stp10 L S l x s with
  | true => simp [wyS, g]; omega
  | false => simp [wyS, g]
theorem bw_no {L S : Int} {l : List Brk} {x : Int} {s : Nat} (h : sw10 L S l x s = false) : wy10 L S l x s = 0 := by simp [wy10, h]
set_option maxRecDepth 100000 in
set_option maxHeartbeats 2000000 in
theorem implBrakeWay_c (L S : Int) (v : Value) (l : List Brk) (x : Int) (w : World) (hr : Rs w v l.length (brks l)) (hn : l.length ≤ 1048576) (hT : BruP w) :
    Calls Tryd.prog 20 #[.agg #[.int .i64 L, .int .i64 S, v], .int .i64 x] w fun e w' => e = .returned (.tuple #[.int .i64 (wy10 L S l x (full10 l.length)), .bool (sw10 L S l x (full10 l.length))]) ∧ Below w.heap.size w w' := by
  have HR := Lib.hid hr
  obtain ⟨a, ca, rfl⟩ := hr.shape
  clear hr
  have HB := Lib.hid ((Below.refl w.heap.size w).alloc (Nat.le_refl _) (.cells #[.int .i64 L, .int .i64 S, .slice a l.length ca] 26))
  have HB0 := Lib.hid (blk_new3 w (.int .i64 L) (.int .i64 S) (.slice a l.length ca) 26)
  have HTB := Lib.hid (hT.below HB.out)
  clear hT
  go_enter Tryd.func20, Tryd.ntmps20
  go_wp2_with fail
  generalize hW0 : w.alloc (.cells #[.int .i64 L, .int .i64 S, .slice a l.length ca] 26) = W0 at *
  clear hW0
  obtain ⟨d0, d1, d2⟩ := blk_cell3 HB0.out
  have D0 : ∀ y : Aft W0, y.w.cell? ⟨w.heap.size, 0, none⟩ = some (.int .i64 L) := fun y => y.cell d0
  have D1 : ∀ y : Aft W0, y.w.cell? ⟨w.heap.size, 1, none⟩ = some (.int .i64 S) := fun y => y.cell d1
  have D2 : ∀ y : Aft W0, y.w.cell? ⟨w.heap.size, 2, none⟩ = some (.slice a l.length ca) := fun y => y.cell d2
  have HAB := Lib.hid (fun (y : Aft W0) => allBrakes_c L S (.slice a l.length ca) l y.w (HR.out.below (HB.out.trans (y.below.mono HB.out.size)) rfl) hn)
  have HWW := Lib.hid (fun (y : Aft W0) => wayWith_c L S (.slice a l.length ca) l x (allV l.length) (full10 l.length) y.w (HR.out.below (HB.out.trans (y.below.mono HB.out.size)) rfl) hn all_use (HTB.out.below y.below))
  change Hid (∀ y : Aft W0, Calls Tryd.prog 50 #[.agg #[.int .i64 L, .int .i64 S, .slice a l.length ca]] y.w fun e w' => e = .returned (.int .u64 (allV l.length)) ∧ Below y.w.heap.size y.w w') at HAB
  generalize allV l.length = AV at *
  clear d0 d1 d2
  refine wp_region_aft (w0 := W0) (by kernel_rfl) (by kernel_rfl) (Below.refl _ _) ?_
  repeat (go_big_quiet_step (first | (go_at_call 50; exact aft_of (HAB.out _)) | (go_at_call 51; exact aft_of (HWW.out _)) | fail))
  refine wpQuiet_nil ?_
  rintro Y3 ⟨⟨_, b3⟩, rfl⟩
  try simp only []
  have HT := Lib.hid (HB.out.trans (b3.mono HB.out.size))
  clear b3
  go_wp2
  go_ret2
  exact ⟨rfl, HT.out⟩
set_option maxRecDepth 100000 in
set_option maxHeartbeats 4000000 in
theorem specBrakeWay_c (L S : Int) (v : Value) (l : List Brk) (x : Int) (w : World) (hr : Rs w v l.length (brks l)) (hn : l.length ≤ 1048576) :
    Calls Tryd.prog 27 #[.agg #[.int .i64 L, .int .i64 S, v], .int .i64 x] w fun e w' => e = .returned (.tuple #[.int .i64 (wy10 L S l x (full10 l.length)), .bool (sw10 L S l x (full10 l.length))]) ∧ Below w.heap.size w w' := by
  have HR := Lib.hid hr
  obtain ⟨a, ca, rfl⟩ := hr.shape
  clear hr
  have HB := Lib.hid ((Below.refl w.heap.size w).alloc (Nat.le_refl _) (.cells #[.int .i64 L, .int .i64 S, .slice a l.length ca] 26))
  have HB0 := Lib.hid (blk_new3 w (.int .i64 L) (.int .i64 S) (.slice a l.length ca) 26)
  cases hk : ask10 L S l x with
  | false =>
    have HX := Lib.hid (sw10_no hk (full10 l.length))
    go_enter Tryd.func27, Tryd.ntmps27
    go_wp2_with fail
    generalize hW0 : w.alloc (.cells #[.int .i64 L, .int .i64 S, .slice a l.length ca] 26) = W0 at *
    clear hW0
    obtain ⟨d0, d1, d2⟩ := blk_cell3 HB0.out
    have D0 : ∀ y : Aft W0, y.w.cell? ⟨w.heap.size, 0, none⟩ = some (.int .i64 L) := fun y => y.cell d0
    have D1 : ∀ y : Aft W0, y.w.cell? ⟨w.heap.size, 1, none⟩ = some (.int .i64 S) := fun y => y.cell d1
    have D2 : ∀ y : Aft W0, y.w.cell? ⟨w.heap.size, 2, none⟩ = some (.slice a l.length ca) := fun y => y.cell d2
    have HAS := Lib.hid (fun (y : Aft W0) => l10Asked_c L S (.slice a l.length ca) l x y.w (HR.out.below (HB.out.trans (y.below.mono HB.out.size)) rfl) hn)
    rw [hk] at HAS
    clear d0 d1 d2 hk
    refine wp_region_aft (w0 := W0) (by kernel_rfl) (by kernel_rfl) (Below.refl _ _) ?_
    repeat (go_big_quiet_step (first | (go_at_call 54; exact aft_of (HAS.out _)) | fail))
    refine wpQuiet_nil ?_
    rintro Y3 ⟨⟨_, b3⟩, rfl⟩
    try simp only []
    have HT := Lib.hid (HB.out.trans (b3.mono HB.out.size))
    clear b3 D0 D1 D2
    go_wp2
    go_ret2
    exact ⟨ret_ib10 HX.out.2.2.symm HX.out.1.symm, HT.out⟩
  | true =>
    have hl4 := ask_len hk
    have HLT := Lib.hid (wyS_lt (s := full10 l.length) hk)
    have HS1 := Lib.hid (fun g => sw10_yes (s := full10 l.length) hk g)
    have HS2 := Lib.hid (fun g => sw10_stay (L := L) (S := S) (l := l) (x := x) (s := full10 l.length) g)
    go_enter Tryd.func27, Tryd.ntmps27
    go_wp2_with fail
    generalize hW0 : w.alloc (.cells #[.int .i64 L, .int .i64 S, .slice a l.length ca] 26) = W0 at *
    clear hW0
    obtain ⟨d0, d1, d2⟩ := blk_cell3 HB0.out
    have D0 : ∀ y : Aft W0, y.w.cell? ⟨w.heap.size, 0, none⟩ = some (.int .i64 L) := fun y => y.cell d0
    have D1 : ∀ y : Aft W0, y.w.cell? ⟨w.heap.size, 1, none⟩ = some (.int .i64 S) := fun y => y.cell d1
    have D2 : ∀ y : Aft W0, y.w.cell? ⟨w.heap.size, 2, none⟩ = some (.slice a l.length ca) := fun y => y.cell d2
    have HAS := Lib.hid (fun (y : Aft W0) => l10Asked_c L S (.slice a l.length ca) l x y.w (HR.out.below (HB.out.trans (y.below.mono HB.out.size)) rfl) hn)
    have HAL := Lib.hid (fun (y : Aft W0) => l10All_c L S (.slice a l.length ca) l y.w (HR.out.below (HB.out.trans (y.below.mono HB.out.size)) rfl) hl4)
    have HWY := Lib.hid (fun (y : Aft W0) => l10Way_c L S (.slice a l.length ca) l x (full10 l.length) y.w (HR.out.below (HB.out.trans (y.below.mono HB.out.size)) rfl) hk (full_lt _))
    rw [hk] at HAS
    clear d0 d1 d2
    cases hst : stp10 L S l x (full10 l.length) with
    | false =>
      have HX := Lib.hid (HS2.out hst)
      have t1 := HLT.out
      rw [hst] at t1
      simp only [Bool.not_false] at t1
      clear hk hst
      generalize wyS L S l x (full10 l.length) = wy at *
      generalize ((full10 l.length : Nat) : Int) = fl at *
      refine wp_region_aft (w0 := W0) (by kernel_rfl) (by kernel_rfl) (Below.refl _ _) ?_
      repeat (go_big_quiet_step (first | (go_at_call 54; exact aft_of (HAS.out _)) | (go_at_call 55; exact aft_of (HAL.out _)) | (go_at_call 56; exact aft_of (HWY.out _)) | fail))
      refine wpQuiet_nil ?_
      rintro Y3 ⟨⟨_, b3⟩, rfl⟩
      try simp only []
      have HT := Lib.hid (HB.out.trans (b3.mono HB.out.size))
      clear b3 D0 D1 D2
      go_wp2
      go_ret2
      exact ⟨ret_ib10 HX.out.2.2.symm HX.out.1.symm, HT.out⟩
    | true =>
      have HX := Lib.hid (HS1.out hst)
      have HWE : Hid (wyS L S l x (full10 l.length) = way10 L S l x (full10 l.length)) := Lib.hid (by simp [wyS, hst])
      have t1 := HLT.out
      rw [hst] at t1
      simp only [Bool.not_true] at t1
      clear hk hst
      generalize wyS L S l x (full10 l.length) = wy at *
      generalize ((full10 l.length : Nat) : Int) = fl at *
      refine wp_region_aft (w0 := W0) (by kernel_rfl) (by kernel_rfl) (Below.refl _ _) ?_
      repeat (go_big_quiet_step (first | (go_at_call 54; exact aft_of (HAS.out _)) | (go_at_call 55; exact aft_of (HAL.out _)) | (go_at_call 56; exact aft_of (HWY.out _)) | fail))
      refine wpQuiet_nil ?_
      rintro Y3 ⟨⟨_, b3⟩, rfl⟩
      try simp only []
      clear D0 D1 D2
      have hb3 := b3.size
      have HB3 := Lib.hid (HB.out.trans (b3.mono HB.out.size))
      obtain ⟨d0, d1, d2⟩ := blk_cell3 (blk_keep HB0.out b3 (blk_lt HB0.out))
      have D0 : ∀ y : Aft Y3, y.w.cell? ⟨w.heap.size, 0, none⟩ = some (.int .i64 L) := fun y => y.cell d0
      have D1 : ∀ y : Aft Y3, y.w.cell? ⟨w.heap.size, 1, none⟩ = some (.int .i64 S) := fun y => y.cell d1
      have D2 : ∀ y : Aft Y3, y.w.cell? ⟨w.heap.size, 2, none⟩ = some (.slice a l.length ca) := fun y => y.cell d2
      have HAL2 := Lib.hid (fun (y : Aft Y3) => HAL.out ⟨y.w, b3.trans (y.below.mono hb3)⟩)
      have HWY2 := Lib.hid (fun (y : Aft Y3) => HWY.out ⟨y.w, b3.trans (y.below.mono hb3)⟩)
      have hbb := Lib.hid b3
      clear d0 d1 d2 HAL HWY HAS
      go_wp2_with fail
      refine wp_region_aft (w0 := Y3) (by kernel_rfl) (by kernel_rfl) (Below.refl _ _) ?_
      repeat (go_big_quiet_step (first | (go_at_call 55; exact aft_of (HAL2.out _)) | (go_at_call 56; exact aft_of (HWY2.out _)) | fail))
      refine wpQuiet_nil ?_
      rintro Y4 ⟨⟨_, b4⟩, rfl⟩
      try simp only []
      have HT := Lib.hid (HB3.out.trans (b4.mono HB3.out.size))
      clear b4 D0 D1 D2
      go_wp2
      go_ret2
      exact ⟨ret_ib10 (by rw [HWE.out, HX.out.2.2]) HX.out.1.symm, HT.out⟩
end Go.Proofs.YthmoogkllpcebaaDoor
