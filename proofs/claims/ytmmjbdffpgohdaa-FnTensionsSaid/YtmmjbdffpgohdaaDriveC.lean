/- DriveForce: the program's and the specification's answer as one function. Condition: sizes. -/
import Derived.Test.YtmmjbdffpgohdaaTenC
import Derived.Test.YtmmjbdffpgohdaaTenS
namespace Go.Proofs.Ytmmjbdffpgohdaa
open Go.RowKit
set_option linter.unusedVariables false
noncomputable def dfOk (l : List Sup) (x : LC) : Bool := tenOk l x x.r && tenOk l x (-x.r)
noncomputable def dfV (l : List Sup) (x : LC) : Int := if dfOk l x then ten l x x.r (l.length - 1) - ten l x (-x.r) (l.length - 1) else 0
theorem lcBox (w : World) (x : LC) (W : World) (h : Below (w.heap.size + 1) (w.alloc (.cells #[.int .i64 x.w, .int .i64 x.c, .int .i64 x.r] 44)) W) :
    W.cell? ⟨w.heap.size, 0, none⟩ = some (.int .i64 x.w) ∧ W.cell? ⟨w.heap.size, 1, none⟩ = some (.int .i64 x.c) ∧ W.cell? ⟨w.heap.size, 2, none⟩ = some (.int .i64 x.r) := box_LC w x 44 _ rfl W h
set_option maxRecDepth 100000 in
set_option maxHeartbeats 2000000 in
theorem implDriveForce_c (v : Value) (l : List Sup) (x : LC) (w : World) (hr : Rs w v l.length (sups l)) (hn : l.length ≤ 1048576) :
    Calls Try.prog 22 #[v, .agg #[.int .i64 x.w, .int .i64 x.c, .int .i64 x.r]] w fun e w' => e = .returned (.tuple #[.int .i64 (dfV l x), .bool (dfOk l x)]) ∧ Below w.heap.size w w' := by
  have HX := Lib.hid (fun W h => lcBox w x W h)
  have HR := Lib.hid (hr.below ((Below.refl _ _).alloc (Nat.le_refl _) (.cells #[.int .i64 x.w, .int .i64 x.c, .int .i64 x.r] 44)) rfl)
  have HB0 : Hid (Below w.heap.size w (w.alloc (.cells #[.int .i64 x.w, .int .i64 x.c, .int .i64 x.r] 44))) := Lib.hid ((Below.refl _ _).alloc (Nat.le_refl _) _)
  have hs0 : (w.alloc (.cells #[.int .i64 x.w, .int .i64 x.c, .int .i64 x.r] 44)).heap.size = w.heap.size + 1 := by simp
  have EU := Lib.hid (fun W hW => implUpTensions_c v l x W hW hn)
  have ED := Lib.hid (fun W hW => implDownTensions_c v l x W hW hn)
  have HSH : Hid (tenOk l x x.r = true → ∃ a oa ca, v = .slice (some ⟨a, oa, none⟩) l.length ca) := Lib.hid (fun h => by
    have hl := (tenOk_yes h).1
    have := hl.two
    obtain ⟨a, oa, ca, hv, _⟩ := hr.sup (by omega)
    exact ⟨a, oa, ca, hv⟩)
  clear hr
  have hD : dfOk l x = (tenOk l x x.r && tenOk l x (-x.r)) := rfl
  have HV : Hid (dfV l x = if dfOk l x then ten l x x.r (l.length - 1) - ten l x (-x.r) (l.length - 1) else 0) := Lib.hid rfl
  cases hu : tenOk l x x.r with
  | false =>
    rw [HV.out, hD, hu]
    rw [hu] at EU
    clear hu hD
    go_enter Try.func22, Try.ntmps22
    go_wp2_with fail
    refine (EU.out _ HR.out).mono ?_
    rintro e w1 ⟨g, rfl, o1, b1⟩
    obtain ⟨k0, k1, k2⟩ := HX.out w1 (by simpa using b1)
    have B1 := Lib.hid (HB0.out.trans (b1.mono HB0.out.size))
    have HR1 := Lib.hid (HR.out.below b1 rfl)
    clear b1 o1
    go_wp2_with fail
    refine (ED.out _ HR1.out).mono ?_
    rintro e w2 ⟨g2, rfl, o2, b2⟩
    have B2 := B1.out.trans (b2.mono B1.out.size)
    clear k0 k1 k2 b2 o2
    go_wp2
    go_ret2
    exact ⟨by simp, B2⟩
  | true =>
  cases hd : tenOk l x (-x.r) with
  | false =>
    rw [HV.out, hD, hu, hd]
    rw [hu] at EU
    rw [hd] at ED
    clear hu hd hD
    go_enter Try.func22, Try.ntmps22
    go_wp2_with fail
    refine (EU.out _ HR.out).mono ?_
    rintro e w1 ⟨g, rfl, o1, b1⟩
    obtain ⟨k0, k1, k2⟩ := HX.out w1 (by simpa using b1)
    have B1 := Lib.hid (HB0.out.trans (b1.mono HB0.out.size))
    have HR1 := Lib.hid (HR.out.below b1 rfl)
    clear b1 o1
    go_wp2_with fail
    refine (ED.out _ HR1.out).mono ?_
    rintro e w2 ⟨g2, rfl, o2, b2⟩
    have B2 := B1.out.trans (b2.mono B1.out.size)
    clear k0 k1 k2 b2 o2
    go_wp2
    go_ret2
    exact ⟨by simp, B2⟩
  | true =>
    obtain ⟨hl, hxx, _⟩ := tenOk_yes hu
    have h2 := hl.two
    have h8 := hl.eight
    obtain ⟨a, oa, ca, rfl⟩ := HSH.out hu
    have tu := ten_in hl hxx (f := x.r) (by omega) (k := l.length - 1) (by omega)
    have td := ten_in hl hxx (f := -x.r) (by omega) (k := l.length - 1) (by omega)
    rw [HV.out, hD, hu, hd]
    rw [hu, tenL_yes hu, tenK_len] at EU
    rw [hd, tenL_yes hd, tenK_len] at ED
    have cU : (intVs (tenK l x x.r l.length))[l.length - 1]? = some (.int .i64 (ten l x x.r (l.length - 1))) := tenV_at (by omega)
    have cD : (intVs (tenK l x (-x.r) l.length))[l.length - 1]? = some (.int .i64 (ten l x (-x.r) (l.length - 1))) := tenV_at (by omega)
    clear hu hd hD hl hxx HSH HV
    generalize ten l x x.r (l.length - 1) = U at *
    generalize ten l x (-x.r) (l.length - 1) = D at *
    generalize intVs (tenK l x x.r l.length) = LU at *
    generalize intVs (tenK l x (-x.r) l.length) = LD at *
    have HCU := Lib.hid cU
    have HCD := Lib.hid cD
    clear cU cD
    obtain ⟨p1, p2, p3⟩ := pred_in l.length (by omega) (by omega)
    have hz1 : l.length - 1 < l.length := by omega
    have hz2 : (l.length : Int) - 1 < (l.length : Int) := by omega
    have q1 : IntKind.i64.wrap (U - D) = U - D := IntWalk.i64_in _ (by omega)
    go_enter Try.func22, Try.ntmps22
    go_wp2_with fail
    refine (EU.out _ HR.out).mono ?_
    rintro e w1 ⟨g, rfl, o1, b1⟩
    obtain ⟨k0, k1, k2⟩ := HX.out w1 (by simpa using b1)
    have B1 := Lib.hid (HB0.out.trans (b1.mono HB0.out.size))
    have HR1 := Lib.hid (HR.out.below b1 rfl)
    have O1 := Lib.hid o1
    clear b1 o1
    go_wp2_with fail
    refine (ED.out _ HR1.out).mono ?_
    rintro e w2 ⟨g2, rfl, o2, b2⟩
    have O2 := Lib.hid (owns_below O1.out b2)
    have B2 := Lib.hid (B1.out.trans (b2.mono B1.out.size))
    have P2 := Lib.hid o2
    clear k0 k1 k2 b2 o2
    obtain ⟨ga, cpa, rfl, hga, hca, hma⟩ := own_shapeT O2.out (by omega)
    obtain ⟨gb, cpb, rfl, hgb, hcb, hmb⟩ := own_shapeT P2.out (by omega)
    have c0 := (O2.out.cellAt (l.length - 1) (by omega)).trans HCU.out
    have d0 := (P2.out.cellAt (l.length - 1) (by omega)).trans HCD.out
    clear O1
    go_wp2_with fail
    go_quiet (fail)
    have B3 := Lib.hid (Drew.below_trans B2.out (c := w2.drewN nq) ⟨nq, rfl⟩)
    clear c0 d0
    generalize w2.drewN nq = wq at *
    go_wp2
    go_ret2
    exact ⟨by simp, B3.out⟩
set_option maxRecDepth 100000 in
set_option maxHeartbeats 2000000 in
theorem specDriveForce_c (v : Value) (l : List Sup) (x : LC) (w : World) (hr : Rs w v l.length (sups l)) (hn : l.length ≤ 1048576) :
    Calls Try.prog 23 #[v, .agg #[.int .i64 x.w, .int .i64 x.c, .int .i64 x.r]] w fun e w' => e = .returned (.tuple #[.int .i64 (dfV l x), .bool (dfOk l x)]) ∧ Below w.heap.size w w' := by
  have HX := Lib.hid (fun W h => lcBox w x W h)
  have HR := Lib.hid (hr.below ((Below.refl _ _).alloc (Nat.le_refl _) (.cells #[.int .i64 x.w, .int .i64 x.c, .int .i64 x.r] 44)) rfl)
  have HB0 : Hid (Below w.heap.size w (w.alloc (.cells #[.int .i64 x.w, .int .i64 x.c, .int .i64 x.r] 44))) := Lib.hid ((Below.refl _ _).alloc (Nat.le_refl _) _)
  have hs0 : (w.alloc (.cells #[.int .i64 x.w, .int .i64 x.c, .int .i64 x.r] 44)).heap.size = w.heap.size + 1 := by simp
  have EU := Lib.hid (fun W hW => specUpTensions_c v l x W hW hn)
  have ED := Lib.hid (fun W hW => specDownTensions_c v l x W hW hn)
  have HSH : Hid (tenOk l x x.r = true → ∃ a oa ca, v = .slice (some ⟨a, oa, none⟩) l.length ca) := Lib.hid (fun h => by
    have hl := (tenOk_yes h).1
    have := hl.two
    obtain ⟨a, oa, ca, hv, _⟩ := hr.sup (by omega)
    exact ⟨a, oa, ca, hv⟩)
  clear hr
  have hD : dfOk l x = (tenOk l x x.r && tenOk l x (-x.r)) := rfl
  have HV : Hid (dfV l x = if dfOk l x then ten l x x.r (l.length - 1) - ten l x (-x.r) (l.length - 1) else 0) := Lib.hid rfl
  cases hu : tenOk l x x.r with
  | false =>
    rw [HV.out, hD, hu]
    rw [hu] at EU
    clear hu hD
    go_enter Try.func23, Try.ntmps23
    go_wp2_with fail
    refine (EU.out _ HR.out).mono ?_
    rintro e w1 ⟨g, rfl, o1, b1⟩
    obtain ⟨k0, k1, k2⟩ := HX.out w1 (by simpa using b1)
    have B1 := Lib.hid (HB0.out.trans (b1.mono HB0.out.size))
    have HR1 := Lib.hid (HR.out.below b1 rfl)
    clear b1 o1
    go_wp2_with fail
    refine (ED.out _ HR1.out).mono ?_
    rintro e w2 ⟨g2, rfl, o2, b2⟩
    have B2 := B1.out.trans (b2.mono B1.out.size)
    clear k0 k1 k2 b2 o2
    go_wp2
    go_ret2
    exact ⟨by simp, B2⟩
  | true =>
  cases hd : tenOk l x (-x.r) with
  | false =>
    rw [HV.out, hD, hu, hd]
    rw [hu] at EU
    rw [hd] at ED
    clear hu hd hD
    go_enter Try.func23, Try.ntmps23
    go_wp2_with fail
    refine (EU.out _ HR.out).mono ?_
    rintro e w1 ⟨g, rfl, o1, b1⟩
    obtain ⟨k0, k1, k2⟩ := HX.out w1 (by simpa using b1)
    have B1 := Lib.hid (HB0.out.trans (b1.mono HB0.out.size))
    have HR1 := Lib.hid (HR.out.below b1 rfl)
    clear b1 o1
    go_wp2_with fail
    refine (ED.out _ HR1.out).mono ?_
    rintro e w2 ⟨g2, rfl, o2, b2⟩
    have B2 := B1.out.trans (b2.mono B1.out.size)
    clear k0 k1 k2 b2 o2
    go_wp2
    go_ret2
    exact ⟨by simp, B2⟩
  | true =>
    obtain ⟨hl, hxx, _⟩ := tenOk_yes hu
    have h2 := hl.two
    have h8 := hl.eight
    obtain ⟨a, oa, ca, rfl⟩ := HSH.out hu
    have tu := ten_in hl hxx (f := x.r) (by omega) (k := l.length - 1) (by omega)
    have td := ten_in hl hxx (f := -x.r) (by omega) (k := l.length - 1) (by omega)
    rw [HV.out, hD, hu, hd]
    rw [hu, tenL_yes hu, tenK_len] at EU
    rw [hd, tenL_yes hd, tenK_len] at ED
    have cU : (intVs (tenK l x x.r l.length))[l.length - 1]? = some (.int .i64 (ten l x x.r (l.length - 1))) := tenV_at (by omega)
    have cD : (intVs (tenK l x (-x.r) l.length))[l.length - 1]? = some (.int .i64 (ten l x (-x.r) (l.length - 1))) := tenV_at (by omega)
    clear hu hd hD hl hxx HSH HV
    generalize ten l x x.r (l.length - 1) = U at *
    generalize ten l x (-x.r) (l.length - 1) = D at *
    generalize intVs (tenK l x x.r l.length) = LU at *
    generalize intVs (tenK l x (-x.r) l.length) = LD at *
    have HCU := Lib.hid cU
    have HCD := Lib.hid cD
    clear cU cD
    obtain ⟨p1, p2, p3⟩ := pred_in l.length (by omega) (by omega)
    have hz1 : l.length - 1 < l.length := by omega
    have hz2 : (l.length : Int) - 1 < (l.length : Int) := by omega
    have q1 : IntKind.i64.wrap (U - D) = U - D := IntWalk.i64_in _ (by omega)
    go_enter Try.func23, Try.ntmps23
    go_wp2_with fail
    refine (EU.out _ HR.out).mono ?_
    rintro e w1 ⟨g, rfl, o1, b1⟩
    obtain ⟨k0, k1, k2⟩ := HX.out w1 (by simpa using b1)
    have B1 := Lib.hid (HB0.out.trans (b1.mono HB0.out.size))
    have HR1 := Lib.hid (HR.out.below b1 rfl)
    have O1 := Lib.hid o1
    clear b1 o1
    go_wp2_with fail
    refine (ED.out _ HR1.out).mono ?_
    rintro e w2 ⟨g2, rfl, o2, b2⟩
    have O2 := Lib.hid (owns_below O1.out b2)
    have B2 := Lib.hid (B1.out.trans (b2.mono B1.out.size))
    have P2 := Lib.hid o2
    clear k0 k1 k2 b2 o2
    obtain ⟨ga, cpa, rfl, hga, hca, hma⟩ := own_shapeT O2.out (by omega)
    obtain ⟨gb, cpb, rfl, hgb, hcb, hmb⟩ := own_shapeT P2.out (by omega)
    have c0 := (O2.out.cellAt (l.length - 1) (by omega)).trans HCU.out
    have d0 := (P2.out.cellAt (l.length - 1) (by omega)).trans HCD.out
    clear O1
    go_wp2_with fail
    go_quiet (fail)
    have B3 := Lib.hid (Drew.below_trans B2.out (c := w2.drewN nq) ⟨nq, rfl⟩)
    clear c0 d0
    generalize w2.drewN nq = wq at *
    go_wp2
    go_ret2
    exact ⟨by simp, B3.out⟩
end Go.Proofs.Ytmmjbdffpgohdaa
