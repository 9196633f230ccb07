/- The angle at a support: the program's answer. Condition: sizes. -/
import Derived.Test.YteglekfiannncaaSagC
namespace Go.Proofs.Yteglekfiannncaa
open Go.RowKit
set_option linter.unusedVariables false
noncomputable def taOk (l : List Sup) (r : Rp) (s : Int) : Bool := isL l && isR r && inR s 1 ((l.length : Int) - 2)
/-- The angle as the sum of three fractions: the two chords' slopes and the rope's. -/
def taA (l : List Sup) (r : Rp) (z : Nat) : Int := (srise l (z - 1) * slen l z + -srise l z * slen l (z - 1)) * (2 * r.p) + r.w * (slen l (z - 1) + slen l z) * (slen l (z - 1) * slen l z)
def taB (l : List Sup) (r : Rp) (z : Nat) : Int := slen l (z - 1) * slen l z * (2 * r.p)
noncomputable def taN (l : List Sup) (r : Rp) (s : Int) : Int := if taOk l r s then rN (taA l r s.toNat) (taB l r s.toNat) else 0
noncomputable def taD (l : List Sup) (r : Rp) (s : Int) : Int := if taOk l r s then rD (taA l r s.toNat) (taB l r s.toNat) else 0
theorem ta_no {l : List Sup} {r : Rp} {s : Int} (h : taOk l r s = false) : taN l r s = 0 ∧ taD l r s = 0 := by simp [taN, taD, h]
theorem nal0 {W : World} {o : Obj} : (W.alloc o).heap[W.heap.size]? = some o := new_alloc rfl
theorem nal0d {W : World} {n : Nat} {o : Obj} : ((W.drewN n).alloc o).heap[W.heap.size]? = some o := new_alloc rfl
theorem nal1 {W : World} {o o' : Obj} : ((W.alloc o').alloc o).heap[W.heap.size + 1]? = some o := new_alloc (asz _ _)
theorem nal1d {W : World} {n : Nat} {o o' : Obj} : (((W.drewN n).alloc o').alloc o).heap[W.heap.size + 1]? = some o := new_alloc (asz' _ _ _)
set_option maxRecDepth 100000 in
set_option maxHeartbeats 8000000 in
theorem implTowerAngle_c (v : Value) (l : List Sup) (r : Rp) (s : Int) (w : World) (hr : Rs w v l.length (sups l)) (hn : l.length ≤ 1048576) (hsw : (Lit.int .i64 s).wf = true) :
    Calls Try.prog 26 #[v, .agg #[.int .i64 r.w, .int .i64 r.p], .int .i64 s] w fun e w' => e = .returned (.tuple #[.int .i64 (taN l r s), .int .i64 (taD l r s), .bool (taOk l r s)]) ∧ Below w.heap.size w w' := by
  clear hsw
  obtain ⟨a1, ca1, rfl⟩ := hr.shape
  have hD : taOk l r s = (isL l && isR r && inR s 1 ((l.length : Int) - 2)) := rfl
  have E1 := Lib.hid (fun W => implIsRope_c r W)
  have E2 := Lib.hid (fun W => within_c s 1 ((l.length : Int) - 2) W)
  have HX := Lib.hid (fun W h => box_Rp w r 26 _ rfl W h)
  have HR := Lib.hid (hr.below ((Below.refl _ _).alloc (Nat.le_refl _) (.cells #[.int .i64 r.w, .int .i64 r.p] 26)) rfl)
  have HB0 : Hid (Below w.heap.size w (w.alloc (.cells #[.int .i64 r.w, .int .i64 r.p] 26))) := Lib.hid ((Below.refl _ _).alloc (Nat.le_refl _) _)
  have HBE := Lib.hid (fun W hW => implIsLine_c (.slice a1 l.length ca1) l W hW hn)
  clear hr
  by_cases hok : taOk l r s = true
  · have hok' := hok
    rw [hD, Bool.and_eq_true, Bool.and_eq_true] at hok'
    obtain ⟨⟨hl, hR⟩, hq⟩ := hok'
    have hL := isL_yes hl
    rw [hl] at HBE
    rw [hR] at E1
    rw [hq] at E2
    have hRb := (isR_iff r).1 hR
    have hsb := (inR_iff _ _ _).1 hq
    have h8 := hL.eight
    obtain ⟨z, rfl⟩ : ∃ z : Nat, s = (z : Int) := ⟨s.toNat, (Int.toNat_of_nonneg (by omega)).symm⟩
    have hzt : ((z : Int)).toNat = z := by omega
    have hz1 : z - 1 + 1 < l.length := by omega
    have hz2 : z + 1 < l.length := by omega
    have HV : Hid (taN l r z = rN (taA l r z) (taB l r z) ∧ taD l r z = rD (taA l r z) (taB l r z)) := Lib.hid ⟨by simp [taN, hok], by simp [taD, hok]⟩
    have HOK := Lib.hid hok
    have HSL1 := Lib.hid (fun W hW => spanLength_c (.slice a1 l.length ca1) l (z - 1) W hW hL hz1)
    have HSL2 := Lib.hid (fun W hW => spanLength_c (.slice a1 l.length ca1) l z W hW hL hz2)
    have HSR1 := Lib.hid (fun W hW => spanRise_c (.slice a1 l.length ca1) l (z - 1) W hW hL hz1)
    have HSR2 := Lib.hid (fun W hW => spanRise_c (.slice a1 l.length ca1) l z W hW hL hz2)
    have b1 := slen_bd hL hz1
    have b2 := slen_bd hL hz2
    have b3 := srise_bd hL hz1
    have b4 := srise_bd hL hz2
    have HA : Hid (taA l r z = (srise l (z - 1) * slen l z + -srise l z * slen l (z - 1)) * (2 * r.p) + r.w * (slen l (z - 1) + slen l z) * (slen l (z - 1) * slen l z) ∧ taB l r z = slen l (z - 1) * slen l z * (2 * r.p)) := Lib.hid ⟨rfl, rfl⟩
    obtain ⟨p1, p2, p3⟩ := pred_in z (by omega) (by omega)
    have pz : (z : Int) - 1 = ((z - 1 : Nat) : Int) := by omega
    rw [pz] at p1
    have hlen2 : IntKind.i64.wrap ((l.length : Int) - 2) = (l.length : Int) - 2 := IntWalk.i64_in _ (by omega)
    have hp1 : IntKind.i64.wrap ((z : Int) - 1) = ((z - 1 : Nat) : Int) := by rw [pz]; exact p1
    have HL := Lib.hid hL
    clear hok hD hl hR hq hL p1 p2 p3 pz
    generalize z - 1 = z0 at *
    have m1 := mulBd (A := 200) (B := 6000) (by omega : 0 ≤ r.w) hRb.1.2 (by omega : 0 ≤ (slen l z0) + (slen l z)) (by omega)
    have HFI := Lib.hid (fine3 (a := (srise l z0)) (b := (slen l z0)) (c := -(srise l z)) (d := (slen l z)) (e := r.w * ((slen l z0) + (slen l z))) (f := 2 * r.p) 2000 3000 2000 3000 1200000 200000 (by omega) (by omega) (by omega) (by omega) (by omega) (by omega) (by omega) (by omega) (by omega) (by omega) (by omega) (by omega) (by omega) (by omega))
    have HSU := Lib.hid (sum3 (srise l z0) (slen l z0) (-(srise l z)) (slen l z) (r.w * ((slen l z0) + (slen l z))) (2 * r.p) (by omega) (by omega) (by omega))
    have HSum : Hid (∀ W v', Rs W v' 3 (rats [⟨(srise l z0), (slen l z0)⟩, ⟨-(srise l z), (slen l z)⟩, ⟨r.w * ((slen l z0) + (slen l z)), 2 * r.p⟩]) → Calls Try.prog 86 #[v'] W fun e w' => e = .returned (.agg #[.int .i64 (taN l r z), .int .i64 (taD l r z)]) ∧ Below W.heap.size W w') := Lib.hid (fun W v' h => by
      have := sumOf_c v' [⟨(srise l z0), (slen l z0)⟩, ⟨-(srise l z), (slen l z)⟩, ⟨r.w * ((slen l z0) + (slen l z)), 2 * r.p⟩] W h (by simp) HFI.out
      rw [HSU.out] at this
      rw [HV.out.1, HV.out.2, HA.out.1, HA.out.2]
      exact this)
    clear HFI HSU HV HA
    have s1 : IntKind.i64.wrap ((slen l z0) + (slen l z)) = (slen l z0) + (slen l z) := IntWalk.i64_in _ (by omega)
    have s2 : IntKind.i64.wrap (r.w * ((slen l z0) + (slen l z))) = r.w * ((slen l z0) + (slen l z)) := IntWalk.i64_in _ (by omega)
    have s3 : IntKind.i64.wrap (2 * r.p) = 2 * r.p := IntWalk.i64_in _ (by omega)
    have s4 : IntKind.i64.wrap (-(srise l z)) = -(srise l z) := IntWalk.i64_in _ (by omega)
    go_enter Try.func26, Try.ntmps26
    go_wp2_with fail
    refine (HBE.out _ HR.out).mono ?_
    rintro e w1 ⟨rfl, b1'⟩
    have HR1 := Lib.hid (HR.out.below b1' rfl)
    have B1 := Lib.hid (HB0.out.trans (b1'.mono HB0.out.size))
    have HX1 := Lib.hid (fun W (h : Below w1.heap.size w1 W) => HX.out W ((show Below (w.heap.size + 1) _ w1 by simpa using b1').trans (h.mono (by have := b1'.size; simpa using this))))
    have hzz1 : w.heap.size < w1.heap.size := by have := b1'.size; simp at this; omega
    clear b1' HR HX HB0
    obtain ⟨k0, k1⟩ := HX1.out w1 (Below.refl _ _)
    go_wp2_with fail
    refine (E1.out _).mono ?_
    rintro e w2 ⟨rfl, b2'⟩
    go_wp2_with fail
    refine (E2.out _).mono ?_
    rintro e w3 ⟨rfl, rfl⟩
    have HR2 := Lib.hid (HR1.out.below b2' rfl)
    have B2 := Lib.hid (B1.out.trans (b2'.mono B1.out.size))
    have HX2 := Lib.hid (fun W (h : Below w3.heap.size w3 W) => HX1.out W (b2'.trans (h.mono b2'.size)))
    have hzz2 : w.heap.size < w3.heap.size := by have := b2'.size; omega
    clear b2' HR1 HX1 B1 k0 k1 hzz1 hlen2
    go_wp2_with fail
    refine (HSL1.out _ HR2.out).mono ?_
    rintro e w5 ⟨rfl, ⟨n5, rfl⟩⟩
    go_wp2_with fail
    refine (HSL2.out (w3.drewN n5) (HR2.out.drewN _)).mono ?_
    rintro e w6 ⟨rfl, d6⟩
    have d4 : Drew w3 w6 := by obtain ⟨m, rfl⟩ := d6; exact ⟨n5 + m, World.drewN_drewN _ _ _⟩
    have HR4 := Lib.hid (d4.rs HR2.out)
    have B4 := Lib.hid (Drew.below_trans B2.out d4)
    have HX4 := Lib.hid (fun W (h : Below w6.heap.size w6 W) => HX2.out W ((d4.below _).trans (h.mono (by rw [d4.size]; exact Nat.le_refl _))))
    have hzz4 : w.heap.size < w6.heap.size := by rw [d4.size]; exact hzz2
    have hzz5 : w.heap.size ≠ w6.heap.size + 1 := by omega
    clear d4 d6 HR2 HX2 B2 hzz2
    obtain ⟨k0, k1⟩ := HX4.out w6 (Below.refl _ _)
    clear hRb hsb b1 b2 b3 b4 m1 hzt h8 hn
    go_wp2_with fail
    go_region_held3 (fun w' => w'.cell? ⟨w.heap.size, 0, none⟩ = some (.int .i64 r.w) ∧ w'.cell? ⟨w.heap.size, 1, none⟩ = some (.int .i64 r.p)) (first | with_reducible exact ⟨k5, k6⟩ | with_reducible exact HX4.out _ (t6.alloc t6.size _) | with_reducible exact HX4.out _ ((t6.setCell (Nat.le_succ _) _).setCell (Nat.le_succ _) _) | with_reducible exact HX4.out _ ((t6.setCell (Nat.le_refl _) _).setCell (Nat.le_refl _) _) | exact HX4.out _ (by repeat (first | with_reducible exact Below.refl _ _ | with_reducible exact below_drewN (Below.refl _ _) _ | with_reducible refine Below.alloc ?_ (by simp) _ | with_reducible refine below_drewN ?_ _ | with_reducible refine Below.drew ?_)))
      (first
        | (go_at_call 90; refine (spanRise_c (.slice a1 l.length ca1) l _ _ (HR4.out.below (by repeat (first | with_reducible exact Below.refl _ _ | with_reducible exact below_drewN (Below.refl _ _) _ | with_reducible refine Below.alloc ?_ (by simp) _ | with_reducible refine below_drewN ?_ _ | with_reducible refine Below.drew ?_)) rfl) HL.out (by assumption)).mono ?_; rintro e wa ⟨rfl, ⟨na, rfl⟩⟩)
        | (go_at_call 89; refine (spanLength_c (.slice a1 l.length ca1) l _ _ (HR4.out.below (by repeat (first | with_reducible exact Below.refl _ _ | with_reducible exact below_drewN (Below.refl _ _) _ | with_reducible refine Below.alloc ?_ (by simp) _ | with_reducible refine below_drewN ?_ _ | with_reducible refine Below.drew ?_)) rfl) HL.out (by assumption)).mono ?_; rintro e wc ⟨rfl, ⟨nc, rfl⟩⟩)
        | (go_at_call 86; refine (HSum.out _ _ ?_).mono ?_; (first | with_reducible exact rats_lit3 (by simp) | with_reducible exact rats_lit3a (by simp)); rintro e w7 ⟨rfl, b7⟩; have t6 : Below w6.heap.size w6 w7 := Below.trans (by repeat (first | with_reducible exact Below.refl _ _ | with_reducible exact below_drewN (Below.refl _ _) _ | with_reducible refine Below.alloc ?_ (by simp) _ | with_reducible refine below_drewN ?_ _ | with_reducible refine Below.drew ?_)) (b7.mono (by simp; try omega)); obtain ⟨k5, k6⟩ := HX4.out w7 t6; (first | (have ub : w7.cell? ⟨w6.heap.size + 1, 0, none⟩ = some (.int .i64 0) ∧ w7.cell? ⟨w6.heap.size + 1, 1, none⟩ = some (.int .i64 0) ∧ w7.frozen? ⟨w6.heap.size + 1, 0, none⟩ = false ∧ w7.frozen? ⟨w6.heap.size + 1, 1, none⟩ = false := (by first | with_reducible exact box_after nal1 b7 | with_reducible exact box_after nal1d b7 | fail); obtain ⟨u0, u1, u2, u3⟩ := ub) | (have ub : w7.cell? ⟨w6.heap.size, 0, none⟩ = some (.int .i64 0) ∧ w7.cell? ⟨w6.heap.size, 1, none⟩ = some (.int .i64 0) ∧ w7.frozen? ⟨w6.heap.size, 0, none⟩ = false ∧ w7.frozen? ⟨w6.heap.size, 1, none⟩ = false := (by first | with_reducible exact box_after (old_alloc nal0) b7 | with_reducible exact box_after (old_alloc nal0d) b7 | with_reducible exact box_after (old_alloc (old_drewN nal0)) b7 | with_reducible exact box_after (old_alloc (old_drewN nal0d)) b7 | fail); obtain ⟨u0, u1, u2, u3⟩ := ub) | skip))
        | fail)
    all_goals have T6 := Lib.hid (B4.out.trans (t6.mono B4.out.size))
    all_goals have hz6 : w.heap.size ≤ w6.heap.size + 1 := by omega
    all_goals have hz7 : w.heap.size ≤ w6.heap.size := by omega
    all_goals clear b7 t6 k0 k1 k5 k6 s1 s2 s3 s4 HX4 HR4 B4 HSum HSL1 HSL2 HSR1 HSR2
    all_goals (go_wp2_with fail; go_quiet (fail); go_wp2; go_ret3)
    all_goals refine ⟨by rw [HOK.out]; rfl, ?_⟩
    all_goals first | exact below_drewN (T6.out.alloc T6.out.size _) _ | exact below_drewN ((T6.out.setCell hz6 _).setCell hz6 _) _ | exact below_drewN ((T6.out.setCell hz7 _).setCell hz7 _) _
  · have hf : taOk l r s = false := by simpa using hok
    obtain ⟨e1, e2⟩ := ta_no hf
    rw [e1, e2, hf]
    rw [hf] at hD
    have HD := Lib.hid hD.symm
    clear hok e1 e2 hf hD
    cases ho : isL l with
    | false =>
      rw [ho] at HBE
      clear E1 E2 HX HD
      go_enter Try.func26, Try.ntmps26
      go_wp2_with fail
      refine (HBE.out _ HR.out).mono ?_
      rintro e w1 ⟨rfl, b1⟩
      go_wp2
      go_ret3
      exact ⟨rfl, HB0.out.trans (b1.mono HB0.out.size)⟩
    | true =>
      have h8 := (isL_yes ho).eight
      have h2 := (isL_yes ho).two
      rw [ho] at HBE HD
      cases hi : isR r with
      | false =>
        rw [hi] at E1
        clear E2 HD
        go_enter Try.func26, Try.ntmps26
        go_wp2_with fail
        refine (HBE.out _ HR.out).mono ?_
        rintro e w1 ⟨rfl, b1⟩
        obtain ⟨k0, k1⟩ := HX.out w1 (by simpa using b1)
        go_wp2_with fail
        refine (E1.out _).mono ?_
        rintro e w2 ⟨rfl, b2⟩
        go_wp2
        go_ret3
        have h1 := HB0.out.trans (b1.mono HB0.out.size)
        exact ⟨rfl, h1.trans (b2.mono h1.size)⟩
      | true =>
        rw [hi] at E1 HD
        have hq : inR s 1 ((l.length : Int) - 2) = false := by simpa using HD.out
        rw [hq] at E2
        have hlen2 : IntKind.i64.wrap ((l.length : Int) - 2) = (l.length : Int) - 2 := IntWalk.i64_in _ (by omega)
        clear HD
        go_enter Try.func26, Try.ntmps26
        go_wp2_with fail
        refine (HBE.out _ HR.out).mono ?_
        rintro e w1 ⟨rfl, b1⟩
        obtain ⟨k0, k1⟩ := HX.out w1 (by simpa using b1)
        go_wp2_with fail
        refine (E1.out _).mono ?_
        rintro e w2 ⟨rfl, b2⟩
        go_wp2_with fail
        refine (E2.out _).mono ?_
        rintro e w3 ⟨rfl, rfl⟩
        go_wp2
        go_ret3
        have h1 := HB0.out.trans (b1.mono HB0.out.size)
        exact ⟨rfl, h1.trans (b2.mono h1.size)⟩
end Go.Proofs.Yteglekfiannncaa
