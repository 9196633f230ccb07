/- SafetyAt: the program's and the specification's answer as one function. Condition: sizes. -/
import Derived.Test.YtdnmmafnjhgeiaaDriveC
import Derived.Test.YtdnmmafnjhgeiaaFracC
namespace Go.Proofs.Ytdnmmafnjhgeiaa
open Go.RowKit
set_option linter.unusedVariables false
noncomputable def saIn (l : List Sup) (x : LC) (s q : Int) : Bool := tenOk l x x.r && inR s 0 ((l.length : Int) - 1) && inR q 1 1000000
noncomputable def saOk (l : List Sup) (x : LC) (s q : Int) : Bool := saIn l x s q && decide (ten l x x.r s.toNat ≠ 0)
noncomputable def saN (l : List Sup) (x : LC) (s q : Int) : Int := if saOk l x s q then rN q (ten l x x.r s.toNat) else 0
noncomputable def saD (l : List Sup) (x : LC) (s q : Int) : Int := if saOk l x s q then rD q (ten l x x.r s.toNat) else 0
theorem sa_no {l : List Sup} {x : LC} {s q : Int} (h : saOk l x s q = false) : saN l x s q = 0 ∧ saD l x s q = 0 ∧ saOk l x s q = false := by simp [saN, saD, h]
theorem sa_no1 {l : List Sup} {x : LC} {s q : Int} (h : tenOk l x x.r = false) : saOk l x s q = false := by simp [saOk, saIn, h]
theorem sa_no2 {l : List Sup} {x : LC} {s q : Int} (h : inR s 0 ((l.length : Int) - 1) = false) : saOk l x s q = false := by simp [saOk, saIn, h]
theorem sa_no3 {l : List Sup} {x : LC} {s q : Int} (h : inR q 1 1000000 = false) : saOk l x s q = false := by simp [saOk, saIn, h]
theorem sa_no4 {l : List Sup} {x : LC} {s q : Int} (h : ten l x x.r s.toNat = 0) : saOk l x s q = false := by simp [saOk, h]
theorem sa_yes {l : List Sup} {x : LC} {s q : Int} (h1 : tenOk l x x.r = true) (h2 : inR s 0 ((l.length : Int) - 1) = true) (h3 : inR q 1 1000000 = true) (h4 : ten l x x.r s.toNat ≠ 0) :
    saN l x s q = rN q (ten l x x.r s.toNat) ∧ saD l x s q = rD q (ten l x x.r s.toNat) ∧ saOk l x s q = true := by
  have : saOk l x s q = true := by simp [saOk, saIn, h1, h2, h3, h4]
  simp [saN, saD, this]
set_option maxRecDepth 100000 in
set_option maxHeartbeats 2000000 in
theorem implSafetyAt_c (v : Value) (l : List Sup) (x : LC) (s q : Int) (w : World) (hr : Rs w v l.length (sups l)) (hn : l.length ≤ 1048576) (hs : (Lit.int .i64 s).wf = true) (hq : (Lit.int .i64 q).wf = true) :
    Calls Try.prog 23 #[v, .agg #[.int .i64 x.w, .int .i64 x.c, .int .i64 x.r], .int .i64 s, .int .i64 q] w fun e w' => e = .returned (.tuple #[.int .i64 (saN l x s q), .int .i64 (saD l x s q), .bool (saOk l x s q)]) ∧ Below w.heap.size w w' := by
  clear hs hq
  have HX := Lib.hid (fun W h => lcBox w x W h)
  have HR := Lib.hid (hr.below ((Below.refl _ _).alloc (Nat.le_refl _) (.cells #[.int .i64 x.w, .int .i64 x.c, .int .i64 x.r] 26)) rfl)
  have HB0 : Hid (Below w.heap.size w (w.alloc (.cells #[.int .i64 x.w, .int .i64 x.c, .int .i64 x.r] 26))) := Lib.hid ((Below.refl _ _).alloc (Nat.le_refl _) _)
  have EU := Lib.hid (fun W hW => implUpTensions_c v l x W hW hn)
  cases hu : tenOk l x x.r with
  | false =>
    have HV := Lib.hid (sa_no (sa_no1 (s := s) (q := q) hu))
    rw [HV.out.1, HV.out.2.1, HV.out.2.2]
    rw [hu] at EU
    clear hu HV hr
    go_enter Try.func23, Try.ntmps23
    go_wp2_with fail
    refine (EU.out _ HR.out).mono ?_
    rintro e w1 ⟨g, rfl, o1, b1⟩
    have B1 := Lib.hid (HB0.out.trans (b1.mono HB0.out.size))
    have HR1 := Lib.hid (HR.out.below b1 rfl)
    have O1 := Lib.hid o1
    clear b1 o1
    go_wp2
    go_ret3
    exact ⟨rfl, B1.out⟩
  | true =>
    obtain ⟨hl, hxx, hpos⟩ := tenOk_yes hu
    have h2 := hl.two
    have h8 := hl.eight
    obtain ⟨a, oa, ca, rfl, hla, hm, hsc⟩ := hr.sup (by omega)
    clear hsc hr
    rw [hu, tenL_yes hu, tenK_len] at EU
    obtain ⟨p1, p2, p3⟩ := pred_in l.length (by omega) (by omega)
    have E1 := Lib.hid (fun W => within_c s 0 ((l.length : Int) - 1) W)
    have E2 := Lib.hid (fun W => within_c q 1 1000000 W)
    cases h1 : inR s 0 ((l.length : Int) - 1) with
    | false =>
      have HV := Lib.hid (sa_no (sa_no2 (x := x) (q := q) h1))
      rw [HV.out.1, HV.out.2.1, HV.out.2.2]
      rw [h1] at E1
      clear hu HV h1 hl hxx hpos
      go_enter Try.func23, Try.ntmps23
      go_wp2_with fail
      refine (EU.out _ HR.out).mono ?_
      rintro e w1 ⟨g, rfl, o1, b1⟩
      have B1 := Lib.hid (HB0.out.trans (b1.mono HB0.out.size))
      have HR1 := Lib.hid (HR.out.below b1 rfl)
      have O1 := Lib.hid o1
      clear b1 o1
      obtain ⟨ga, cpa, rfl, hga, hca, hma⟩ := own_shapeT O1.out (by omega)
      go_wp2_with fail
      refine (E1.out _).mono ?_
      rintro e w2 ⟨rfl, rfl⟩
      go_wp2
      go_ret3
      exact ⟨rfl, B1.out⟩
    | true =>
    cases h3 : inR q 1 1000000 with
    | false =>
      have HV := Lib.hid (sa_no (sa_no3 (l := l) (x := x) (s := s) h3))
      rw [HV.out.1, HV.out.2.1, HV.out.2.2]
      rw [h1] at E1
      rw [h3] at E2
      clear hu HV h1 h3 hl hxx hpos
      go_enter Try.func23, Try.ntmps23
      go_wp2_with fail
      refine (EU.out _ HR.out).mono ?_
      rintro e w1 ⟨g, rfl, o1, b1⟩
      have B1 := Lib.hid (HB0.out.trans (b1.mono HB0.out.size))
      have HR1 := Lib.hid (HR.out.below b1 rfl)
      have O1 := Lib.hid o1
      clear b1 o1
      obtain ⟨ga, cpa, rfl, hga, hca, hma⟩ := own_shapeT O1.out (by omega)
      go_wp2_with fail
      refine (E1.out _).mono ?_
      rintro e w2 ⟨rfl, rfl⟩
      go_wp2_with fail
      refine (E2.out _).mono ?_
      rintro e w2 ⟨rfl, rfl⟩
      go_wp2
      go_ret3
      exact ⟨rfl, B1.out⟩
    | true =>
      have h1b := (inR_iff _ _ _).1 h1
      have h3b := (inR_iff _ _ _).1 h3
      obtain ⟨z, rfl⟩ := Int.eq_ofNat_of_zero_le h1b.1
      have hz : z < l.length := by omega
      have hzi : (z : Int) < (l.length : Int) := by omega
      have ht := ten_in hl hxx (f := x.r) (by omega) hz
      have ht0 := hpos z hz
      have HTV : Hid ((intVs (tenK l x x.r l.length))[z]? = some (.int .i64 (ten l x x.r z))) := Lib.hid (tenV_at hz)
      have hty := fun h4 => sa_yes (s := (z : Int)) (q := q) hu h1 h3 h4
      have htn := fun h4 => sa_no (sa_no4 (s := (z : Int)) (q := q) (x := x) (l := l) h4)
      rw [Int.toNat_natCast] at hty htn
      rw [h1] at E1
      rw [h3] at E2
      clear hu h1 h3 hl hxx hpos h1b
      generalize intVs (tenK l x x.r l.length) = LV at *
      generalize ten l x x.r z = T at *
      by_cases h4 : T = 0
      · have HV := Lib.hid (htn h4)
        rw [HV.out.1, HV.out.2.1, HV.out.2.2]
        subst h4
        clear htn hty HV
        go_enter Try.func23, Try.ntmps23
        go_wp2_with fail
        refine (EU.out _ HR.out).mono ?_
        rintro e w1 ⟨g, rfl, o1, b1⟩
        have B1 := Lib.hid (HB0.out.trans (b1.mono HB0.out.size))
        have HR1 := Lib.hid (HR.out.below b1 rfl)
        have O1 := Lib.hid o1
        clear b1 o1
        obtain ⟨ga, cpa, rfl, hga, hca, hma⟩ := own_shapeT O1.out (by omega)
        have c0 := (O1.out.cellAt z (by omega)).trans HTV.out
        go_wp2_with fail
        refine (E1.out _).mono ?_
        rintro e w2 ⟨rfl, rfl⟩
        go_wp2_with fail
        refine (E2.out _).mono ?_
        rintro e w2 ⟨rfl, rfl⟩
        go_wp2
        go_ret3
        exact ⟨rfl, B1.out⟩
      · have HV := Lib.hid (hty h4)
        rw [HV.out.1, HV.out.2.1, HV.out.2.2]
        have h4b : (T == 0) = false := by simpa using h4
        have hT1 : 0 < T := by omega
        clear htn hty HV
        go_enter Try.func23, Try.ntmps23
        go_wp2_with fail
        refine (EU.out _ HR.out).mono ?_
        rintro e w1 ⟨g, rfl, o1, b1⟩
        have B1 := Lib.hid (HB0.out.trans (b1.mono HB0.out.size))
        have HR1 := Lib.hid (HR.out.below b1 rfl)
        have O1 := Lib.hid o1
        clear b1 o1
        obtain ⟨ga, cpa, rfl, hga, hca, hma⟩ := own_shapeT O1.out (by omega)
        have c0 := (O1.out.cellAt z (by omega)).trans HTV.out
        go_wp2_with fail
        refine (E1.out _).mono ?_
        rintro e w2 ⟨rfl, rfl⟩
        go_wp2_with fail
        refine (E2.out _).mono ?_
        rintro e w2 ⟨rfl, rfl⟩
        have B2 := B1
        go_wp2_with fail
        refine (fraction_g q T _ (by omega) (by omega) (by omega) (by omega)).mono ?_
        rintro e w3 ⟨rfl, d3⟩
        have B3 := Lib.hid (Drew.below_trans B1.out d3)
        clear d3 c0
        go_wp2
        go_ret3
        exact ⟨rfl, B3.out⟩
set_option maxRecDepth 100000 in
set_option maxHeartbeats 2000000 in
theorem specSafetyAt_c (v : Value) (l : List Sup) (x : LC) (s q : Int) (w : World) (hr : Rs w v l.length (sups l)) (hn : l.length ≤ 1048576) (hs : (Lit.int .i64 s).wf = true) (hq : (Lit.int .i64 q).wf = true) :
    Calls Try.prog 24 #[v, .agg #[.int .i64 x.w, .int .i64 x.c, .int .i64 x.r], .int .i64 s, .int .i64 q] w fun e w' => e = .returned (.tuple #[.int .i64 (saN l x s q), .int .i64 (saD l x s q), .bool (saOk l x s q)]) ∧ Below w.heap.size w w' := by
  clear hs hq
  have HX := Lib.hid (fun W h => lcBox w x W h)
  have HR := Lib.hid (hr.below ((Below.refl _ _).alloc (Nat.le_refl _) (.cells #[.int .i64 x.w, .int .i64 x.c, .int .i64 x.r] 26)) rfl)
  have HB0 : Hid (Below w.heap.size w (w.alloc (.cells #[.int .i64 x.w, .int .i64 x.c, .int .i64 x.r] 26))) := Lib.hid ((Below.refl _ _).alloc (Nat.le_refl _) _)
  have EU := Lib.hid (fun W hW => specUpTensions_c v l x W hW hn)
  cases hu : tenOk l x x.r with
  | false =>
    have HV := Lib.hid (sa_no (sa_no1 (s := s) (q := q) hu))
    rw [HV.out.1, HV.out.2.1, HV.out.2.2]
    rw [hu] at EU
    clear hu HV hr
    go_enter Try.func24, Try.ntmps24
    go_wp2_with fail
    refine (EU.out _ HR.out).mono ?_
    rintro e w1 ⟨g, rfl, o1, b1⟩
    have B1 := Lib.hid (HB0.out.trans (b1.mono HB0.out.size))
    have HR1 := Lib.hid (HR.out.below b1 rfl)
    have O1 := Lib.hid o1
    clear b1 o1
    go_wp2
    go_ret3
    exact ⟨rfl, B1.out⟩
  | true =>
    obtain ⟨hl, hxx, hpos⟩ := tenOk_yes hu
    have h2 := hl.two
    have h8 := hl.eight
    obtain ⟨a, oa, ca, rfl, hla, hm, hsc⟩ := hr.sup (by omega)
    clear hsc hr
    rw [hu, tenL_yes hu, tenK_len] at EU
    obtain ⟨p1, p2, p3⟩ := pred_in l.length (by omega) (by omega)
    have E1 := Lib.hid (fun W => l1In_c s 0 ((l.length : Int) - 1) W)
    have E2 := Lib.hid (fun W => l1In_c q 1 1000000 W)
    cases h1 : inR s 0 ((l.length : Int) - 1) with
    | false =>
      have HV := Lib.hid (sa_no (sa_no2 (x := x) (q := q) h1))
      rw [HV.out.1, HV.out.2.1, HV.out.2.2]
      rw [h1] at E1
      clear hu HV h1 hl hxx hpos
      go_enter Try.func24, Try.ntmps24
      go_wp2_with fail
      refine (EU.out _ HR.out).mono ?_
      rintro e w1 ⟨g, rfl, o1, b1⟩
      have B1 := Lib.hid (HB0.out.trans (b1.mono HB0.out.size))
      have HR1 := Lib.hid (HR.out.below b1 rfl)
      have O1 := Lib.hid o1
      clear b1 o1
      obtain ⟨ga, cpa, rfl, hga, hca, hma⟩ := own_shapeT O1.out (by omega)
      go_wp2_with fail
      refine (E1.out _).mono ?_
      rintro e w2 ⟨rfl, rfl⟩
      go_wp2
      go_ret3
      exact ⟨rfl, B1.out⟩
    | true =>
    cases h3 : inR q 1 1000000 with
    | false =>
      have HV := Lib.hid (sa_no (sa_no3 (l := l) (x := x) (s := s) h3))
      rw [HV.out.1, HV.out.2.1, HV.out.2.2]
      rw [h1] at E1
      rw [h3] at E2
      clear hu HV h1 h3 hl hxx hpos
      go_enter Try.func24, Try.ntmps24
      go_wp2_with fail
      refine (EU.out _ HR.out).mono ?_
      rintro e w1 ⟨g, rfl, o1, b1⟩
      have B1 := Lib.hid (HB0.out.trans (b1.mono HB0.out.size))
      have HR1 := Lib.hid (HR.out.below b1 rfl)
      have O1 := Lib.hid o1
      clear b1 o1
      obtain ⟨ga, cpa, rfl, hga, hca, hma⟩ := own_shapeT O1.out (by omega)
      go_wp2_with fail
      refine (E1.out _).mono ?_
      rintro e w2 ⟨rfl, rfl⟩
      go_wp2_with fail
      refine (E2.out _).mono ?_
      rintro e w2 ⟨rfl, rfl⟩
      go_wp2
      go_ret3
      exact ⟨rfl, B1.out⟩
    | true =>
      have h1b := (inR_iff _ _ _).1 h1
      have h3b := (inR_iff _ _ _).1 h3
      obtain ⟨z, rfl⟩ := Int.eq_ofNat_of_zero_le h1b.1
      have hz : z < l.length := by omega
      have hzi : (z : Int) < (l.length : Int) := by omega
      have ht := ten_in hl hxx (f := x.r) (by omega) hz
      have ht0 := hpos z hz
      have HTV : Hid ((intVs (tenK l x x.r l.length))[z]? = some (.int .i64 (ten l x x.r z))) := Lib.hid (tenV_at hz)
      have hty := fun h4 => sa_yes (s := (z : Int)) (q := q) hu h1 h3 h4
      have htn := fun h4 => sa_no (sa_no4 (s := (z : Int)) (q := q) (x := x) (l := l) h4)
      rw [Int.toNat_natCast] at hty htn
      rw [h1] at E1
      rw [h3] at E2
      clear hu h1 h3 hl hxx hpos h1b
      generalize intVs (tenK l x x.r l.length) = LV at *
      generalize ten l x x.r z = T at *
      by_cases h4 : T = 0
      · have HV := Lib.hid (htn h4)
        rw [HV.out.1, HV.out.2.1, HV.out.2.2]
        subst h4
        clear htn hty HV
        go_enter Try.func24, Try.ntmps24
        go_wp2_with fail
        refine (EU.out _ HR.out).mono ?_
        rintro e w1 ⟨g, rfl, o1, b1⟩
        have B1 := Lib.hid (HB0.out.trans (b1.mono HB0.out.size))
        have HR1 := Lib.hid (HR.out.below b1 rfl)
        have O1 := Lib.hid o1
        clear b1 o1
        obtain ⟨ga, cpa, rfl, hga, hca, hma⟩ := own_shapeT O1.out (by omega)
        have c0 := (O1.out.cellAt z (by omega)).trans HTV.out
        go_wp2_with fail
        refine (E1.out _).mono ?_
        rintro e w2 ⟨rfl, rfl⟩
        go_wp2_with fail
        refine (E2.out _).mono ?_
        rintro e w2 ⟨rfl, rfl⟩
        go_wp2
        go_ret3
        exact ⟨rfl, B1.out⟩
      · have HV := Lib.hid (hty h4)
        rw [HV.out.1, HV.out.2.1, HV.out.2.2]
        have h4b : (T == 0) = false := by simpa using h4
        have hT1 : 0 < T := by omega
        clear htn hty HV
        go_enter Try.func24, Try.ntmps24
        go_wp2_with fail
        refine (EU.out _ HR.out).mono ?_
        rintro e w1 ⟨g, rfl, o1, b1⟩
        have B1 := Lib.hid (HB0.out.trans (b1.mono HB0.out.size))
        have HR1 := Lib.hid (HR.out.below b1 rfl)
        have O1 := Lib.hid o1
        clear b1 o1
        obtain ⟨ga, cpa, rfl, hga, hca, hma⟩ := own_shapeT O1.out (by omega)
        have c0 := (O1.out.cellAt z (by omega)).trans HTV.out
        go_wp2_with fail
        refine (E1.out _).mono ?_
        rintro e w2 ⟨rfl, rfl⟩
        go_wp2_with fail
        refine (E2.out _).mono ?_
        rintro e w2 ⟨rfl, rfl⟩
        have B2 := B1
        go_wp2_with fail
        refine (l2Reduce_g q T _ (by omega) (by omega) (by omega) (by omega)).mono ?_
        rintro e w3 ⟨rfl, d3⟩
        have B3 := Lib.hid (Drew.below_trans B1.out d3)
        clear d3 c0
        go_wp2
        go_ret3
        exact ⟨rfl, B3.out⟩
end Go.Proofs.Ytdnmmafnjhgeiaa
