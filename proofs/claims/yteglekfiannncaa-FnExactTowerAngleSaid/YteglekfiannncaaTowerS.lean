/- The angle at a support: the specification's answer. Condition: sizes. -/
import Derived.Test.YteglekfiannncaaTowerC
import Derived.Test.YteglekfiannncaaClearS
import Derived.Test.YteglekfiannncaaLowC
namespace Go.Proofs.Yteglekfiannncaa
open Go.RowKit
set_option linter.unusedVariables false
theorem sg_zero (l : List Sup) (r : Rp) : sgOk l r 0 = (isL l && isR r) := by
  unfold sgOk
  cases hl : isL l with
  | false => simp [onL, hl]
  | true => have := on_of (isL_yes hl) (k := 0) (Nat.zero_le _); simp at this; rw [this]
set_option maxRecDepth 100000 in
set_option maxHeartbeats 8000000 in
theorem specTowerAngle_c (v : Value) (l : List Sup) (r : Rp) (s : Int) (w : World) (hr : Rs w v l.length (sups l)) (hn : l.length ≤ 1048576) (hsw : (Lit.int .i64 s).wf = true) :
    Calls Try.prog 27 #[v, .agg #[.int .i64 r.w, .int .i64 r.p], .int .i64 s] w fun e w' => e = .returned (.tuple #[.int .i64 (taN l r s), .int .i64 (taD l r s), .bool (taOk l r s)]) ∧ Below w.heap.size w w' := by
  clear hsw
  have E2 := Lib.hid (fun W => l1In_c s 1 ((l.length : Int) - 2) W)
  have HX := Lib.hid (fun W h => box_Rp w r 26 _ rfl W h)
  have HR := Lib.hid (hr.below ((Below.refl _ _).alloc (Nat.le_refl _) (.cells #[.int .i64 r.w, .int .i64 r.p] 26)) rfl)
  have HB0 : Hid (Below w.heap.size w (w.alloc (.cells #[.int .i64 r.w, .int .i64 r.p] 26))) := Lib.hid ((Below.refl _ _).alloc (Nat.le_refl _) _)
  have E0 := Lib.hid (fun W hW => l4Asked_c v l r 0 W hW hn)
  have hD : taOk l r s = (sgOk l r 0 && inR s 1 ((l.length : Int) - 2)) := by rw [sg_zero]; rfl
  cases hok : taOk l r s with
  | false =>
    obtain ⟨e1, e2⟩ := ta_no hok
    rw [e1, e2]
    rw [hok] at hD
    have HD := Lib.hid hD.symm
    clear hok e1 e2 hD
    cases ho : sgOk l r 0 with
    | false =>
      rw [ho] at E0
      clear E2 HX HD hr ho
      go_enter Try.func27, Try.ntmps27
      go_wp2_with fail
      refine (E0.out _ HR.out).mono ?_
      rintro e w1 ⟨rfl, b1⟩
      go_wp2
      go_ret3
      exact ⟨rfl, HB0.out.trans (b1.mono HB0.out.size)⟩
    | true =>
      have hz := ho
      rw [sg_zero, Bool.and_eq_true] at hz
      have h8 := (isL_yes hz.1).eight
      have h2 := (isL_yes hz.1).two
      rw [ho] at E0 HD
      have hq : inR s 1 ((l.length : Int) - 2) = false := by simpa using HD.out
      rw [hq] at E2
      obtain ⟨a1, ca1, rfl⟩ := hr.shape
      have hlen2 : IntKind.i64.wrap ((l.length : Int) - 2) = (l.length : Int) - 2 := IntWalk.i64_in _ (by omega)
      clear HD hr HX ho hz hq
      go_enter Try.func27, Try.ntmps27
      go_wp2_with fail
      refine (E0.out _ HR.out).mono ?_
      rintro e w1 ⟨rfl, b1⟩
      go_wp2_with fail
      refine (E2.out _).mono ?_
      rintro e w3 ⟨rfl, rfl⟩
      go_wp2
      go_ret3
      exact ⟨rfl, HB0.out.trans (b1.mono HB0.out.size)⟩
  | true =>
    have hok' := hok
    rw [hD, Bool.and_eq_true] at hok'
    obtain ⟨ho, hq⟩ := hok'
    have hz := ho
    rw [sg_zero, Bool.and_eq_true] at hz
    have hL := isL_yes hz.1
    have hRb := (isR_iff r).1 hz.2
    rw [ho] at E0
    rw [hq] at E2
    have hsb := (inR_iff _ _ _).1 hq
    have h8 := hL.eight
    obtain ⟨z, hzs⟩ : ∃ z : Nat, s = ((z + 1 : Nat) : Int) := ⟨(s - 1).toNat, by omega⟩
    subst hzs
    have hzt : (((z + 1 : Nat) : Int)).toNat = z + 1 := by omega
    have hz1 : z + 1 < l.length := by omega
    have hz2 : z + 2 < l.length := by omega
    have b1 := slen_bd hL hz1
    have b2 := slen_bd (i := z + 1) hL hz2
    have b3 := srise_bd hL hz1
    have b4 := srise_bd (i := z + 1) hL hz2
    have a0 := hL.bd (i := z) (by omega)
    have a1 := hL.bd hz1
    have a2 := hL.bd hz2
    have q1 : (nth l (z + 1)).a - (nth l z).a = slen l z := rfl
    have q2 : (nth l (z + 2)).a - (nth l (z + 1)).a = slen l (z + 1) := rfl
    have q3 : (nth l (z + 1)).h - (nth l z).h = srise l z := rfl
    have q4 : (nth l (z + 2)).h - (nth l (z + 1)).h = srise l (z + 1) := rfl
    have HA : taA l r (z + 1) = (srise l z * slen l (z + 1) + -srise l (z + 1) * slen l z) * (2 * r.p) + r.w * (slen l z + slen l (z + 1)) * (slen l z * slen l (z + 1)) := rfl
    have HBb : taB l r (z + 1) = slen l z * slen l (z + 1) * (2 * r.p) := rfl
    have HV : taN l r ((z + 1 : Nat) : Int) = rN (taA l r (z + 1)) (taB l r (z + 1)) ∧ taD l r ((z + 1 : Nat) : Int) = rD (taA l r (z + 1)) (taB l r (z + 1)) := ⟨by simp only [taN, hok, hzt]; rfl, by simp only [taD, hok, hzt]; rfl⟩
    obtain ⟨a, oa, ca, rfl, hla, hm, hs⟩ := hr.sup (by omega)
    have HS := Lib.hid hs
    rw [HV.1, HV.2]
    rw [HA, HBb]
    clear HA HBb HV hok hD ho hz hL hq hr hs hzt
    generalize slen l z = B at *
    generalize slen l (z + 1) = D at *
    generalize srise l z = A at *
    generalize srise l (z + 1) = C at *
    have m1 := mulBd (A := 200) (B := 6000) (by omega : 0 ≤ r.w) hRb.1.2 (by omega : 0 ≤ B + D) (by omega)
    have m2 := absMul (A := 2000) (B := 3000) b3.1 b3.2 (by omega : 0 ≤ D) b2.2
    have m3 := absMul (A := 2000) (B := 3000) b4.1 b4.2 (by omega : 0 ≤ B) b1.2
    have m4 := mulBd (A := 3000) (B := 3000) (by omega : 0 ≤ B) b1.2 (by omega : 0 ≤ D) b2.2
    have m5 := Int.mul_pos b1.1 b2.1
    have eC : A * D - C * B = A * D + -C * B := by rw [Int.neg_mul]; omega
    obtain ⟨k1, k2⟩ := r_add (a := A * D + -C * B) (b := B * D) (c := r.w * (B + D)) (d := 2 * r.p) m5 (by omega)
    rw [← k1, ← k2]
    have HRed := Lib.hid (fun W => l2Reduce_g (A * D + -C * B) (B * D) W (by rw [← eC]; omega) (by rw [← eC]; omega) m5 (by omega))
    have n1 := rN_bd (n := A * D + -C * B) (d := B * D) (B := 12000000) m5 (by rw [← eC]; omega) (by rw [← eC]; omega)
    have n2 := rD_pos (n := A * D + -C * B) m5
    have n3 := rD_le (n := A * D + -C * B) m5
    have s1 : IntKind.i64.wrap (A * D) = A * D := IntWalk.i64_in _ (by omega)
    have s2 : IntKind.i64.wrap (C * B) = C * B := IntWalk.i64_in _ (by omega)
    have s3 : IntKind.i64.wrap (A * D - C * B) = A * D + -C * B := by rw [eC, ← eC]; exact IntWalk.i64_in _ (by omega)
    clear eC k1 k2 m2 m3
    generalize A * D + -C * B = CN at *
    generalize hCD : B * D = CD at *
    have s4 : IntKind.i64.wrap (B * D) = CD := by rw [hCD]; exact IntWalk.i64_in _ (by omega)
    clear hCD
    generalize rN CN CD = N1 at *
    generalize rD CN CD = D1 at *
    have m6 := absMul (A := 12000000) (B := 200000) n1.1 n1.2 (by omega : 0 ≤ 2 * r.p) (by omega)
    have m7 := mulBd (A := 1200000) (B := 9000000) m1.1 (by omega) (by omega : 0 ≤ D1) (by omega)
    have m8 := mulBd (A := 9000000) (B := 200000) (by omega : 0 ≤ D1) (by omega) (by omega : 0 ≤ 2 * r.p) (by omega)
    have m9 := Int.mul_pos n2 (by omega : 0 < 2 * r.p)
    have c1 : N1 * 2 * r.p = N1 * (2 * r.p) := Int.mul_assoc _ _ _
    have c2 : D1 * 2 * r.p = D1 * (2 * r.p) := Int.mul_assoc _ _ _
    have s5 : IntKind.i64.wrap (N1 * 2) = N1 * 2 := IntWalk.i64_in _ (by omega)
    have s6 : IntKind.i64.wrap (N1 * 2 * r.p) = N1 * (2 * r.p) := by rw [c1]; exact IntWalk.i64_in _ (by omega)
    have s7 : IntKind.i64.wrap (B + D) = B + D := IntWalk.i64_in _ (by omega)
    have s8 : IntKind.i64.wrap (r.w * (B + D)) = r.w * (B + D) := IntWalk.i64_in _ (by omega)
    have s9 : IntKind.i64.wrap (r.w * (B + D) * D1) = r.w * (B + D) * D1 := IntWalk.i64_in _ (by omega)
    have s10 : IntKind.i64.wrap (N1 * (2 * r.p) + r.w * (B + D) * D1) = N1 * (2 * r.p) + r.w * (B + D) * D1 := IntWalk.i64_in _ (by omega)
    have s11 : IntKind.i64.wrap (D1 * 2) = D1 * 2 := IntWalk.i64_in _ (by omega)
    have s12 : IntKind.i64.wrap (D1 * 2 * r.p) = D1 * (2 * r.p) := by rw [c2]; exact IntWalk.i64_in _ (by omega)
    have HRed2 := Lib.hid (fun W => l2Reduce_g (N1 * (2 * r.p) + r.w * (B + D) * D1) (D1 * (2 * r.p)) W (by omega) (by omega) m9 (by omega))
    have t1 : IntKind.i64.wrap ((nth l (z + 1)).a - (nth l z).a) = B := by rw [q1]; exact IntWalk.i64_in _ (by omega)
    have t2 : IntKind.i64.wrap ((nth l (z + 2)).a - (nth l (z + 1)).a) = D := by rw [q2]; exact IntWalk.i64_in _ (by omega)
    have t3 : IntKind.i64.wrap ((nth l (z + 1)).h - (nth l z).h) = A := by rw [q3]; exact IntWalk.i64_in _ (by omega)
    have t4 : IntKind.i64.wrap ((nth l (z + 2)).h - (nth l (z + 1)).h) = C := by rw [q4]; exact IntWalk.i64_in _ (by omega)
    clear c1 c2 q1 q2 q3 q4 m1 m4 m5 m6 m7 m8 m9 n1 n2 n3 a0 a1 a2
    obtain ⟨p1, p2, p3⟩ := succ_in z (by omega)
    have p4 : IntKind.i64.wrap ((z : Int) + 1 - 1) = (z : Int) := by rw [show (z : Int) + 1 - 1 = (z : Int) by omega]; exact IntWalk.i64_in _ (by omega)
    have p5 : IntKind.i64.wrap (z : Int) = (z : Int) := IntWalk.i64_in _ (by omega)
    have p6 : (z : Int) < (l.length : Int) := by omega
    have p7 : (z : Int) + 1 < (l.length : Int) := by omega
    have p8 : IntKind.i64.wrap ((z : Int) + 1 + 1) = (z : Int) + 2 := by rw [show (z : Int) + 1 + 1 = (z : Int) + 2 by omega]; exact IntWalk.i64_in _ (by omega)
    have p9 : (z : Int) + 2 < (l.length : Int) := by omega
    have p10 : ((z : Int) + 2).toNat = z + 2 := by omega
    have p11 : 0 ≤ (z : Int) + 2 := by omega
    have i0 : z < l.length := by omega
    have hlen2 : IntKind.i64.wrap ((l.length : Int) - 2) = (l.length : Int) - 2 := IntWalk.i64_in _ (by omega)
    go_enter Try.func27, Try.ntmps27
    go_wp2_with fail
    refine (E0.out _ HR.out).mono ?_
    rintro e w1 ⟨rfl, b1'⟩
    have B1 := Lib.hid (HB0.out.trans (b1'.mono HB0.out.size))
    obtain ⟨k0, k1⟩ := HX.out w1 (by simpa using b1')
    have hz1' : w.heap.size < w1.heap.size := by have := b1'.size; simp at this; omega
    obtain ⟨x0, x1, x2⟩ := (HS.out.below B1.out hla) z (by omega)
    obtain ⟨y0, y1, y2⟩ := (HS.out.below B1.out hla) (z + 1) (by omega)
    obtain ⟨v0, v1, v2⟩ := (HS.out.below B1.out hla) (z + 2) (by omega)
    have hla1 : a < w1.heap.size := by omega
    have hd0 : a ≠ w1.heap.size := by omega
    have hd1 : a ≠ w1.heap.size + 1 := by omega
    have hd2 : a ≠ w1.heap.size + 1 + 1 := by omega
    have hd3 : w.heap.size ≠ w1.heap.size := by omega
    have hd6 : w.heap.size < w1.heap.size + 1 := by omega
    have hd7 : w.heap.size < w1.heap.size + 1 + 1 := by omega
    have hd4 : w.heap.size ≠ w1.heap.size + 1 := by omega
    have hd5 : w.heap.size ≠ w1.heap.size + 1 + 1 := by omega
    have HS3 : Hid (∀ W, Below w1.heap.size w1 W → W.cell? ⟨a, oa + z * 3, none⟩ = some (.int .i64 (nth l z).a) ∧ W.cell? ⟨a, oa + z * 3 + 1, none⟩ = some (.int .i64 (nth l z).h) ∧ W.cell? ⟨a, oa + z * 3 + 2, none⟩ = some (.bool (nth l z).s) ∧ W.cell? ⟨a, oa + (z + 1) * 3, none⟩ = some (.int .i64 (nth l (z + 1)).a) ∧ W.cell? ⟨a, oa + (z + 1) * 3 + 1, none⟩ = some (.int .i64 (nth l (z + 1)).h) ∧ W.cell? ⟨a, oa + (z + 1) * 3 + 2, none⟩ = some (.bool (nth l (z + 1)).s) ∧ W.cell? ⟨a, oa + (z + 2) * 3, none⟩ = some (.int .i64 (nth l (z + 2)).a) ∧ W.cell? ⟨a, oa + (z + 2) * 3 + 1, none⟩ = some (.int .i64 (nth l (z + 2)).h) ∧ W.cell? ⟨a, oa + (z + 2) * 3 + 2, none⟩ = some (.bool (nth l (z + 2)).s)) := Lib.hid (fun W hW => by
      have hs3 := (HS.out.below B1.out hla).below hW hla1
      obtain ⟨x0, x1, x2⟩ := hs3 z (by omega)
      obtain ⟨y0, y1, y2⟩ := hs3 (z + 1) (by omega)
      obtain ⟨v0, v1, v2⟩ := hs3 (z + 2) (by omega)
      exact ⟨x0, x1, x2, y0, y1, y2, v0, v1, v2⟩)
    clear b1' HX HB0 HR HS
    generalize nth l z = U0 at *
    generalize nth l (z + 1) = U1 at *
    generalize nth l (z + 2) = U2 at *
    go_wp2_with fail
    refine (E2.out _).mono ?_
    rintro e w3 ⟨rfl, rfl⟩
    go_wp2_with fail
    go_region_held3 (fun w' => w'.cell? ⟨a, oa + z * 3, none⟩ = some (.int .i64 U0.a) ∧ w'.cell? ⟨a, oa + z * 3 + 1, none⟩ = some (.int .i64 U0.h) ∧ w'.cell? ⟨a, oa + z * 3 + 2, none⟩ = some (.bool U0.s) ∧
      w'.cell? ⟨a, oa + (z + 1) * 3, none⟩ = some (.int .i64 U1.a) ∧ w'.cell? ⟨a, oa + (z + 1) * 3 + 1, none⟩ = some (.int .i64 U1.h) ∧ w'.cell? ⟨a, oa + (z + 1) * 3 + 2, none⟩ = some (.bool U1.s) ∧
      w'.cell? ⟨a, oa + (z + 2) * 3, none⟩ = some (.int .i64 U2.a) ∧ w'.cell? ⟨a, oa + (z + 2) * 3 + 1, none⟩ = some (.int .i64 U2.h) ∧ w'.cell? ⟨a, oa + (z + 2) * 3 + 2, none⟩ = some (.bool U2.s)) (exact HS3.out _ (by repeat (first | with_reducible exact Below.refl _ _ | with_reducible exact below_drewN (Below.refl _ _) _ | with_reducible refine Below.alloc ?_ (by simp; try omega) _ | with_reducible refine below_drewN ?_ _ | with_reducible refine Below.drew ?_))) (fail)
    all_goals clear p1 p2 p3 p4 p5 p8 p10 p11
    all_goals (go_wp2_with fail)
    all_goals (go_quiet (fail))
    all_goals (go_wp2_with fail)
    all_goals refine (HRed.out _).mono ?_
    all_goals rintro e w9 ⟨rfl, ⟨n9, rfl⟩⟩
    all_goals (go_wp2_with fail)
    all_goals refine (HRed2.out _).mono ?_
    all_goals rintro e w10 ⟨rfl, ⟨n10, rfl⟩⟩
    all_goals (go_wp2; go_ret3)
    all_goals refine ⟨rfl, ?_⟩
    all_goals refine Below.trans B1.out (Below.mono (B := w3.heap.size) ?_ B1.out.size)
    all_goals repeat (first | with_reducible exact Below.refl _ _ | with_reducible refine Below.alloc ?_ (by simp; try omega) _ | with_reducible refine below_drewN ?_ _ | with_reducible refine Below.drew ?_)
end Go.Proofs.Yteglekfiannncaa
