/- The specification's sags. Condition: sizes. -/
import Derived.Test.YtmmjbdffpgohdaaPartsC
namespace Go.Proofs.Ytmmjbdffpgohdaa
open Go.RowKit
set_option linter.unusedVariables false
theorem sgOk_yes {l : List Sup} {r : Rp} {p : Int} (h : sgOk l r p = true) : onL l p = true ∧ (1 ≤ r.w ∧ r.w ≤ 200) ∧ (1 ≤ r.p ∧ r.p ≤ 100000) := by
  unfold sgOk at h
  rw [Bool.and_eq_true, isR_iff] at h
  exact h
set_option maxRecDepth 100000 in
set_option maxHeartbeats 2000000 in
theorem specSagAt_c (v : Value) (l : List Sup) (r : Rp) (p : Int) (w : World) (hr : Rs w v l.length (sups l)) (hn : l.length ≤ 1048576) (hp : (Lit.int .i64 p).wf = true) :
    Calls Try.prog 18 #[v, .agg #[.int .i64 r.w, .int .i64 r.p], .int .i64 p] w fun e w' => e = .returned (.tuple #[.int .i64 (sgN l r p), .int .i64 (sgD l r p), .bool (sgOk l r p)]) ∧ Below w.heap.size w w' := by
  clear hp
  have HX := Lib.hid (fun W h => box_Rp w r 26 _ rfl W h)
  have HR := Lib.hid (hr.below ((Below.refl _ _).alloc (Nat.le_refl _) (.cells #[.int .i64 r.w, .int .i64 r.p] 26)) rfl)
  have HB0 : Hid (Below w.heap.size w (w.alloc (.cells #[.int .i64 r.w, .int .i64 r.p] 26))) := Lib.hid ((Below.refl _ _).alloc (Nat.le_refl _) _)
  have E0 := Lib.hid (fun W hW => l4Asked_c v l r p W hW hn)
  clear hr
  cases ho : sgOk l r p with
  | false =>
    rw [ho] at E0
    have HV : Hid (sgN l r p = 0 ∧ sgD l r p = 0) := Lib.hid (by simp [sgN, sgD, ho])
    rw [HV.out.1, HV.out.2]
    clear ho HV
    go_enter Try.func18, Try.ntmps18
    go_wp2_with fail
    refine (E0.out _ HR.out).mono ?_
    rintro e w1 ⟨rfl, b1⟩
    go_wp2
    go_ret3
    exact ⟨rfl, HB0.out.trans (b1.mono HB0.out.size)⟩
  | true =>
    rw [ho] at E0
    obtain ⟨hon, hw, hp⟩ := sgOk_yes ho
    have HPa := Lib.hid (fun W hW => l4Parts_c v l p W hW hon)
    have hxy := xyOk (onAt hon)
    have hx0 := hxy.x0
    have hy0 := hxy.y0
    have hsm := hxy.sum
    have hs1 := hxy.s1
    have hE := hxy.bd
    have HV : Hid (sgN l r p = rN (r.w * (pX l p * pY l p)) (2 * r.p) ∧ sgD l r p = rD (r.w * (pX l p * pY l p)) (2 * r.p)) := Lib.hid (by simp [sgN, sgD, ho])
    rw [HV.out.1, HV.out.2]
    clear ho HV hon hxy
    generalize slen l (spanN l p) = S at *
    generalize pX l p = X at *
    generalize pY l p = Y at *
    have m0 := mulBd (A := 200) (B := 3000) (by omega : 0 ≤ r.w) hw.2 hx0 (by omega)
    have m1 := mulBd (A := 200) (B := 9000000) (by omega : 0 ≤ r.w) hw.2 hE.1 hE.2
    have q2 : r.w * X * Y = r.w * (X * Y) := Int.mul_assoc _ _ _
    generalize r.w * (X * Y) = Q at *
    have s1 : IntKind.i64.wrap (r.w * X) = r.w * X := IntWalk.i64_in _ (by omega)
    have s2 : IntKind.i64.wrap (r.w * X * Y) = Q := by rw [q2]; exact IntWalk.i64_in _ (by omega)
    have s3 : IntKind.i64.wrap (2 * r.p) = 2 * r.p := IntWalk.i64_in _ (by omega)
    go_enter Try.func18, Try.ntmps18
    go_wp2_with fail
    refine (E0.out _ HR.out).mono ?_
    rintro e w1 ⟨rfl, b1⟩
    have HR1 := Lib.hid (HR.out.below b1 rfl)
    go_wp2_with fail
    refine (HPa.out _ HR1.out).mono ?_
    rintro e w2 ⟨rfl, d2⟩
    have hb2 := Drew.below_trans b1 d2
    obtain ⟨k0, k1⟩ := HX.out w2 (by simpa using hb2)
    have B2 := Lib.hid (HB0.out.trans (hb2.mono HB0.out.size))
    clear d2 b1 hb2 q2
    go_wp2_with fail
    refine (l2Reduce_g _ _ _ (by omega) (by omega) (by omega) (by omega)).mono ?_
    rintro e w3 ⟨rfl, d3⟩
    go_wp2
    go_ret3
    exact ⟨rfl, Drew.below_trans B2.out d3⟩
set_option maxRecDepth 100000 in
set_option maxHeartbeats 2000000 in
theorem specLoadedSag_c (v : Value) (l : List Sup) (r : Rp) (p q : Int) (w : World) (hr : Rs w v l.length (sups l)) (hn : l.length ≤ 1048576) (hp : (Lit.int .i64 p).wf = true) (hq0 : (Lit.int .i64 q).wf = true) :
    Calls Try.prog 9 #[v, .agg #[.int .i64 r.w, .int .i64 r.p], .int .i64 p, .int .i64 q] w fun e w' => e = .returned (.tuple #[.int .i64 (ldN l r p q), .int .i64 (ldD l r p q), .bool (ldOk l r p q)]) ∧ Below w.heap.size w w' := by
  clear hp
  have HX := Lib.hid (fun W h => box_Rp w r 26 _ rfl W h)
  have HR := Lib.hid (hr.below ((Below.refl _ _).alloc (Nat.le_refl _) (.cells #[.int .i64 r.w, .int .i64 r.p] 26)) rfl)
  have HB0 : Hid (Below w.heap.size w (w.alloc (.cells #[.int .i64 r.w, .int .i64 r.p] 26))) := Lib.hid ((Below.refl _ _).alloc (Nat.le_refl _) _)
  have E0 := Lib.hid (fun W hW => l4Asked_c v l r p W hW hn)
  have E2 := Lib.hid (fun W => l1In_c q 0 20000 W)
  have hD : ldOk l r p q = (sgOk l r p && inR q 0 20000) := rfl
  clear hr
  cases hok : ldOk l r p q with
  | false =>
    have HV : Hid (ldN l r p q = 0 ∧ ldD l r p q = 0) := Lib.hid (by simp [ldN, ldD, hok])
    rw [HV.out.1, HV.out.2]
    rw [hok] at hD
    have HD := Lib.hid hD.symm
    clear hok HV hD
    cases ho : sgOk l r p with
    | false =>
      rw [ho] at E0
      clear HD E2 ho
      go_enter Try.func9, Try.ntmps9
      go_wp2_with fail
      refine (E0.out _ HR.out).mono ?_
      rintro e w1 ⟨rfl, b1⟩
      go_wp2
      go_ret3
      exact ⟨rfl, HB0.out.trans (b1.mono HB0.out.size)⟩
    | true =>
      rw [ho] at E0 HD
      have hq : inR q 0 20000 = false := by simpa using HD.out
      rw [hq] at E2
      clear HD ho
      go_enter Try.func9, Try.ntmps9
      go_wp2_with fail
      refine (E0.out _ HR.out).mono ?_
      rintro e w1 ⟨rfl, b1⟩
      go_wp2_with fail
      refine (E2.out _).mono ?_
      rintro e w2 ⟨rfl, rfl⟩
      go_wp2
      go_ret3
      exact ⟨rfl, HB0.out.trans (b1.mono HB0.out.size)⟩
  | true =>
    have hok' := hok
    rw [hD, Bool.and_eq_true] at hok'
    obtain ⟨ho, hq⟩ := hok'
    rw [ho] at E0
    rw [hq] at E2
    have hqb := (inR_iff q 0 20000).1 hq
    obtain ⟨hon, hw, hp⟩ := sgOk_yes ho
    have HPa := Lib.hid (fun W hW => l4Parts_c v l p W hW hon)
    have hxy := xyOk (onAt hon)
    have hx0 := hxy.x0
    have hy0 := hxy.y0
    have hsm := hxy.sum
    have hs0 := hxy.s0
    have hs1 := hxy.s1
    have hE := hxy.bd
    have HV : Hid (ldN l r p q = rN (r.w * (pX l p * pY l p) * slen l (spanN l p) + 2 * q * (pX l p * pY l p)) (2 * r.p * slen l (spanN l p)) ∧ ldD l r p q = rD (r.w * (pX l p * pY l p) * slen l (spanN l p) + 2 * q * (pX l p * pY l p)) (2 * r.p * slen l (spanN l p))) := Lib.hid ⟨by simp [ldN, hok, ldRaw], by simp [ldD, hok, ldRaw]⟩
    rw [HV.out.1, HV.out.2]
    clear ho HV hon hxy hD hok hq
    generalize slen l (spanN l p) = S at *
    generalize pX l p = X at *
    generalize pY l p = Y at *
    have m0 := mulBd (A := 200) (B := 3000) (by omega : 0 ≤ r.w) hw.2 hx0 (by omega)
    have m1 := mulBd (A := 200) (B := 9000000) (by omega : 0 ≤ r.w) hw.2 hE.1 hE.2
    have m2 := mulBd (A := 1800000000) (B := 3000) m1.1 (by omega) (by omega : 0 ≤ S) hs1
    have m3 := mulBd (A := 40000) (B := 9000000) (by omega : 0 ≤ 2 * q) (by omega) hE.1 hE.2
    have m4 := mulBd (A := 40000) (B := 3000) (by omega : 0 ≤ 2 * q) (by omega) hx0 (by omega)
    have m5 := mulBd (A := 200000) (B := 3000) (by omega : 0 ≤ 2 * r.p) (by omega) (by omega : 0 ≤ S) hs1
    have m6 := Int.mul_pos (by omega : 0 < 2 * r.p) hs0
    have q2 : r.w * X * Y = r.w * (X * Y) := Int.mul_assoc _ _ _
    have q3 : 2 * q * X * Y = 2 * q * (X * Y) := Int.mul_assoc _ _ _
    have s1 : IntKind.i64.wrap (r.w * X) = r.w * X := IntWalk.i64_in _ (by omega)
    have s2 : IntKind.i64.wrap (r.w * X * Y) = r.w * (X * Y) := by rw [q2]; exact IntWalk.i64_in _ (by omega)
    have s3 : IntKind.i64.wrap (2 * r.p) = 2 * r.p := IntWalk.i64_in _ (by omega)
    have s4 : IntKind.i64.wrap (X + Y) = S := by rw [hsm]; exact IntWalk.i64_in _ (by omega)
    have s5 : IntKind.i64.wrap (r.w * (X * Y) * S) = r.w * (X * Y) * S := IntWalk.i64_in _ (by omega)
    have s6 : IntKind.i64.wrap (2 * q) = 2 * q := IntWalk.i64_in _ (by omega)
    have s7 : IntKind.i64.wrap (2 * q * X) = 2 * q * X := IntWalk.i64_in _ (by omega)
    have s8 : IntKind.i64.wrap (2 * q * X * Y) = 2 * q * (X * Y) := by rw [q3]; exact IntWalk.i64_in _ (by omega)
    have s9 : IntKind.i64.wrap (r.w * (X * Y) * S + 2 * q * (X * Y)) = r.w * (X * Y) * S + 2 * q * (X * Y) := IntWalk.i64_in _ (by omega)
    have s10 : IntKind.i64.wrap (2 * r.p * S) = 2 * r.p * S := IntWalk.i64_in _ (by omega)
    clear q2 q3 hsm
    go_enter Try.func9, Try.ntmps9
    go_wp2_with fail
    refine (E0.out _ HR.out).mono ?_
    rintro e w1 ⟨rfl, b1⟩
    go_wp2_with fail
    refine (E2.out _).mono ?_
    rintro e w2 ⟨rfl, rfl⟩
    have HR1 := Lib.hid (HR.out.below b1 rfl)
    go_wp2_with fail
    refine (HPa.out _ HR1.out).mono ?_
    rintro e w3 ⟨rfl, d2⟩
    have hb2 := Drew.below_trans b1 d2
    obtain ⟨k0, k1⟩ := HX.out w3 (by simpa using hb2)
    have B2 := Lib.hid (HB0.out.trans (hb2.mono HB0.out.size))
    clear d2 b1 hb2
    go_wp2_with fail
    refine (l2Reduce_g _ _ _ (by omega) (by omega) (by omega) (by omega)).mono ?_
    rintro e w4 ⟨rfl, d3⟩
    go_wp2
    go_ret3
    exact ⟨rfl, Drew.below_trans B2.out d3⟩
end Go.Proofs.Ytmmjbdffpgohdaa
