/- Clearances at a place: the program's and the specification's answer as one function. Condition: sizes. -/
import Derived.Test.YteglekfiannncaaClearS
import Derived.Test.YteglekfiannncaaGroundAtC
namespace Go.Proofs.Yteglekfiannncaa
open Go.RowKit
set_option linter.unusedVariables false
theorem cl_no {l : List Sup} {r : Rp} {g : List GP} {p : Int} (h : clOk l r g p = false) : clN l r g p = 0 ∧ clD l r g p = 0 := by simp [clN, clD, h]
theorem cl_yes {l : List Sup} {r : Rp} {g : List GP} {p : Int} (h : clOk l r g p = true) : clN l r g p = rN (cRn l r g p) (cRd l r g p) ∧ clD l r g p = rD (cRn l r g p) (cRd l r g p) := by simp [clN, clD, h]
set_option maxRecDepth 100000 in
set_option maxHeartbeats 4000000 in
theorem specClearanceAt_c (v0 : Value) (l : List Sup) (r : Rp) (v1 : Value) (g : List GP) (p : Int) (w : World) (hr0 : Rs w v0 l.length (sups l)) (hn : l.length ≤ 1048576) (hr1 : Rs w v1 g.length (gps g)) (hng : g.length ≤ 1048576) (hp : (Lit.int .i64 p).wf = true) :
    Calls Try.prog 22 #[v0, .agg #[.int .i64 r.w, .int .i64 r.p], v1, .int .i64 p] w fun e w' => e = .returned (.tuple #[.int .i64 (clN l r g p), .int .i64 (clD l r g p), .bool (clOk l r g p)]) ∧ Below w.heap.size w w' := by
  clear hp
  have HX := Lib.hid (fun W h => box_Rp w r 26 _ rfl W h)
  have HR0 := Lib.hid (hr0.below ((Below.refl _ _).alloc (Nat.le_refl _) (.cells #[.int .i64 r.w, .int .i64 r.p] 26)) rfl)
  have HR1 := Lib.hid (hr1.below ((Below.refl _ _).alloc (Nat.le_refl _) (.cells #[.int .i64 r.w, .int .i64 r.p] 26)) rfl)
  have HB0 : Hid (Below w.heap.size w (w.alloc (.cells #[.int .i64 r.w, .int .i64 r.p] 26))) := Lib.hid ((Below.refl _ _).alloc (Nat.le_refl _) _)
  have E0 := Lib.hid (fun W hW => l4Asked_c v0 l r p W hW hn)
  have E1 := Lib.hid (fun W hW hW1 => l4Ground_c v0 l v1 g W hW hn hW1 hng)
  have hD : clOk l r g p = (sgOk l r p && isG l g) := rfl
  clear hr0 hr1
  cases hok : clOk l r g p with
  | false =>
    have HV := Lib.hid (cl_no hok)
    rw [HV.out.1, HV.out.2]
    rw [hok] at hD
    have HD := Lib.hid hD.symm
    clear hok HV hD
    cases ho : sgOk l r p with
    | false =>
      rw [ho] at E0
      clear HD E1 ho
      go_enter Try.func22, Try.ntmps22
      go_wp2_with fail
      refine (E0.out _ HR0.out).mono ?_
      rintro e w1 ⟨rfl, b1⟩
      go_wp2
      go_ret3
      exact ⟨rfl, HB0.out.trans (b1.mono HB0.out.size)⟩
    | true =>
      rw [ho] at E0 HD
      have hq : isG l g = false := by simpa using HD.out
      rw [hq] at E1
      clear HD ho
      go_enter Try.func22, Try.ntmps22
      go_wp2_with fail
      refine (E0.out _ HR0.out).mono ?_
      rintro e w1 ⟨rfl, b1⟩
      go_wp2_with fail
      refine (E1.out _ (HR0.out.below b1 rfl) (HR1.out.below b1 rfl)).mono ?_
      rintro e w2 ⟨rfl, d2⟩
      go_wp2
      go_ret3
      exact ⟨rfl, Drew.below_trans (HB0.out.trans (b1.mono HB0.out.size)) d2⟩
  | true =>
    have HV := Lib.hid (cl_yes hok)
    rw [HV.out.1, HV.out.2]
    rw [hok, eq_comm, Bool.and_eq_true] at hD
    obtain ⟨ho, hg⟩ := hD
    have hG := (isG_iff l g).1 hg
    rw [ho] at E0
    rw [hg] at E1
    have HCl := Lib.hid (fun W hW hW1 => l4Clear_c v0 l r v1 g p W hW hn hW1 hng ho hG)
    obtain ⟨⟨q1, q2⟩, q3, q4⟩ := cR_ok ho hG
    clear ho hg hG HV hok
    generalize cRn l r g p = N at *
    generalize cRd l r g p = D at *
    go_enter Try.func22, Try.ntmps22
    go_wp2_with fail
    refine (E0.out _ HR0.out).mono ?_
    rintro e w1 ⟨rfl, b1⟩
    have HR01 := Lib.hid (HR0.out.below b1 rfl)
    have HR11 := Lib.hid (HR1.out.below b1 rfl)
    go_wp2_with fail
    refine (E1.out _ HR01.out HR11.out).mono ?_
    rintro e w2 ⟨rfl, d2⟩
    have HR02 := Lib.hid (d2.rs HR01.out)
    have HR12 := Lib.hid (d2.rs HR11.out)
    have hb2 := Drew.below_trans b1 d2
    obtain ⟨k0, k1⟩ := HX.out w2 (by simpa using hb2)
    have B2 := Lib.hid (HB0.out.trans (hb2.mono HB0.out.size))
    clear d2 b1 hb2 HR01 HR11
    go_wp2_with fail
    refine (HCl.out _ HR02.out HR12.out).mono ?_
    rintro e w3 ⟨rfl, b3⟩
    have B3 := Lib.hid (B2.out.trans (b3.mono B2.out.size))
    clear b3 k0 k1
    go_wp2_with fail
    refine (l2Reduce_g N D _ (by omega) (by omega) (by omega) (by omega)).mono ?_
    rintro e w4 ⟨rfl, d4⟩
    go_wp2
    go_ret3
    exact ⟨rfl, Drew.below_trans B3.out d4⟩
set_option maxRecDepth 100000 in
set_option maxHeartbeats 4000000 in
theorem implClearanceAt_c (v0 : Value) (l : List Sup) (r : Rp) (v1 : Value) (g : List GP) (p : Int) (w : World) (hr0 : Rs w v0 l.length (sups l)) (hn : l.length ≤ 1048576) (hr1 : Rs w v1 g.length (gps g)) (hng : g.length ≤ 1048576) (hp : (Lit.int .i64 p).wf = true) :
    Calls Try.prog 20 #[v0, .agg #[.int .i64 r.w, .int .i64 r.p], v1, .int .i64 p] w fun e w' => e = .returned (.tuple #[.int .i64 (clN l r g p), .int .i64 (clD l r g p), .bool (clOk l r g p)]) ∧ Below w.heap.size w w' := by
  have HR0 := Lib.hid (hr0.below ((Below.refl _ _).alloc (Nat.le_refl _) (.cells #[.int .i64 r.w, .int .i64 r.p] 26)) rfl)
  have HR1 := Lib.hid (hr1.below ((Below.refl _ _).alloc (Nat.le_refl _) (.cells #[.int .i64 r.w, .int .i64 r.p] 26)) rfl)
  have HB0 : Hid (Below w.heap.size w (w.alloc (.cells #[.int .i64 r.w, .int .i64 r.p] 26))) := Lib.hid ((Below.refl _ _).alloc (Nat.le_refl _) _)
  have E0 := Lib.hid (fun W hW => implSagAt_c v0 l r p W hW hn hp)
  have E1 := Lib.hid (fun W hW hW1 => implIsGround_c v0 l v1 g W hW hn hW1 hng)
  have hD : clOk l r g p = (sgOk l r p && isG l g) := rfl
  clear hr0 hr1
  cases hok : clOk l r g p with
  | false =>
    have HV := Lib.hid (cl_no hok)
    rw [HV.out.1, HV.out.2]
    rw [hok] at hD
    have HD := Lib.hid hD.symm
    clear hok HV hD
    cases ho : sgOk l r p with
    | false =>
      rw [ho] at E0
      clear HD E1
      generalize sgN l r p = sN at *
      generalize sgD l r p = sD at *
      go_enter Try.func20, Try.ntmps20
      go_wp2_with fail
      refine (E0.out _ HR0.out).mono ?_
      rintro e w1 ⟨rfl, b1⟩
      go_wp2
      go_ret3
      exact ⟨rfl, HB0.out.trans (b1.mono HB0.out.size)⟩
    | true =>
      rw [ho] at E0 HD
      have hq : isG l g = false := by simpa using HD.out
      rw [hq] at E1
      clear HD ho
      generalize sgN l r p = sN at *
      generalize sgD l r p = sD at *
      go_enter Try.func20, Try.ntmps20
      go_wp2_with fail
      refine (E0.out _ HR0.out).mono ?_
      rintro e w1 ⟨rfl, b1⟩
      have B1 := Lib.hid (HB0.out.trans (b1.mono HB0.out.size))
      go_wp2_with fail
      refine (E1.out _ (HR0.out.below b1 rfl) (HR1.out.below b1 rfl)).mono ?_
      rintro e w2 ⟨rfl, b2⟩
      go_wp2
      go_ret3
      exact ⟨rfl, B1.out.trans (b2.mono B1.out.size)⟩
  | true =>
    have hok' := hok
    rw [hD, Bool.and_eq_true] at hok'
    obtain ⟨ho, hg⟩ := hok'
    have hG := (isG_iff l g).1 hg
    obtain ⟨hon, hw, hpp⟩ := sgOk_yes ho
    have h := onAt hon
    have HCh := Lib.hid (fun W hW => implChordAt_c v0 l p W hW hn hp)
    have ga := gAt hG hon
    have HGr := Lib.hid (fun W hW => groundAt_c v1 g p W hW ga)
    have hC := chRaw_bd h.line h.lt h.lo h.hi
    have hL := slen_bd h.line h.lt
    have hGb := gRaw_bd ga
    have hW := gLen_bd ga
    have hE := (xyOk h).bd
    have m := mulBd (A := 200) (B := 9000000) (by omega : 0 ≤ r.w) hw.2 hE.1 hE.2
    obtain ⟨e1, e2⟩ := ch_eq hon
    have e3 : sgN l r p = rN (r.w * (pX l p * pY l p)) (2 * r.p) := by simp [sgN, ho]
    have e4 : sgD l r p = rD (r.w * (pX l p * pY l p)) (2 * r.p) := by simp [sgD, ho]
    obtain ⟨v1', v2'⟩ := cl_yes hok
    have HSame := cl_sum (C := chRaw l (spanN l p) p) (L := slen l (spanN l p)) (S := r.w * (pX l p * pY l p)) (T := 2 * r.p) (G := gRaw g (grN g p) p) (wd := gLen g (grN g p)) hL.1 (by omega) hW.1
    rw [ho, e3, e4] at E0
    rw [hon, e1, e2] at HCh
    rw [hg] at E1
    have HV : Hid (clN l r g p = rN ((rN (chRaw l (spanN l p) p) (slen l (spanN l p)) * rD (r.w * (pX l p * pY l p)) (2 * r.p) + -rN (r.w * (pX l p * pY l p)) (2 * r.p) * rD (chRaw l (spanN l p) p) (slen l (spanN l p))) * gLen g (grN g p) + -gRaw g (grN g p) p * (rD (chRaw l (spanN l p) p) (slen l (spanN l p)) * rD (r.w * (pX l p * pY l p)) (2 * r.p))) (rD (chRaw l (spanN l p) p) (slen l (spanN l p)) * rD (r.w * (pX l p * pY l p)) (2 * r.p) * gLen g (grN g p)) ∧
      clD l r g p = rD ((rN (chRaw l (spanN l p) p) (slen l (spanN l p)) * rD (r.w * (pX l p * pY l p)) (2 * r.p) + -rN (r.w * (pX l p * pY l p)) (2 * r.p) * rD (chRaw l (spanN l p) p) (slen l (spanN l p))) * gLen g (grN g p) + -gRaw g (grN g p) p * (rD (chRaw l (spanN l p) p) (slen l (spanN l p)) * rD (r.w * (pX l p * pY l p)) (2 * r.p))) (rD (chRaw l (spanN l p) p) (slen l (spanN l p)) * rD (r.w * (pX l p * pY l p)) (2 * r.p) * gLen g (grN g p))) :=
      Lib.hid ⟨v1'.trans HSame.1.symm, v2'.trans HSame.2.symm⟩
    clear HSame v1' v2' e1 e2 e3 e4 ho hg hG hon h ga hp hD
    clear hok
    have n1 := rN_bd (n := chRaw l (spanN l p) p) (d := slen l (spanN l p)) (B := 12000000) hL.1 (by omega) (by omega)
    have n2 := rD_pos (n := chRaw l (spanN l p) p) hL.1
    have n3 := rD_le (n := chRaw l (spanN l p) p) hL.1
    have n4 := rN_bd (n := r.w * (pX l p * pY l p)) (d := 2 * r.p) (B := 1800000000) (by omega) (by omega) (by omega)
    have n5 := rD_pos (n := r.w * (pX l p * pY l p)) (d := 2 * r.p) (by omega)
    have n6 := rD_le (n := r.w * (pX l p * pY l p)) (d := 2 * r.p) (by omega)
    generalize slen l (spanN l p) = L at *
    generalize rN (chRaw l (spanN l p) p) L = A at *
    generalize rD (chRaw l (spanN l p) p) L = B at *
    generalize rN (r.w * (pX l p * pY l p)) (2 * r.p) = C at *
    generalize rD (r.w * (pX l p * pY l p)) (2 * r.p) = D at *
    generalize gRaw g (grN g p) p = E at *
    generalize gLen g (grN g p) = F at *
    have HFI := Lib.hid (fine3 (a := A) (b := B) (c := -C) (d := D) (e := -E) (f := F) 12000000 3000 1800000000 200000 12000000 3000 (by omega) (by omega) (by omega) (by omega) (by omega) (by omega) (by omega) (by omega) (by omega) (by omega) (by omega) (by omega) (by omega) (by omega))
    have HSU := Lib.hid (sum3 A B (-C) D (-E) F (by omega) (by omega) (by omega))
    have HSum : Hid (∀ W v', Rs W v' 3 (rats [⟨A, B⟩, ⟨-C, D⟩, ⟨-E, F⟩]) → Calls Try.prog 86 #[v'] W fun e w' => e = .returned (.agg #[.int .i64 (clN l r g p), .int .i64 (clD l r g p)]) ∧ Below W.heap.size W w') := Lib.hid (fun W v' h => by
      have := sumOf_c v' [⟨A, B⟩, ⟨-C, D⟩, ⟨-E, F⟩] W h (by simp) HFI.out
      rw [HSU.out] at this
      rw [HV.out.1, HV.out.2]
      exact this)
    clear HFI HSU HV
    have s1 : IntKind.i64.wrap (-C) = -C := IntWalk.i64_in _ (by omega)
    have s2 : IntKind.i64.wrap (-E) = -E := IntWalk.i64_in _ (by omega)
    go_enter Try.func20, Try.ntmps20
    go_wp2_with fail
    refine (E0.out _ HR0.out).mono ?_
    rintro e w1 ⟨rfl, b1⟩
    have HR01 := Lib.hid (HR0.out.below b1 rfl)
    have HR11 := Lib.hid (HR1.out.below b1 rfl)
    have B1 := Lib.hid (HB0.out.trans (b1.mono HB0.out.size))
    clear b1 HR0 HR1 HB0
    go_wp2_with fail
    refine (E1.out _ HR01.out HR11.out).mono ?_
    rintro e w2 ⟨rfl, b2⟩
    have HR02 := Lib.hid (HR01.out.below b2 rfl)
    have HR12 := Lib.hid (HR11.out.below b2 rfl)
    have B2 := Lib.hid (B1.out.trans (b2.mono B1.out.size))
    clear b2 HR01 HR11 B1
    go_wp2_with fail
    refine (HCh.out _ HR02.out).mono ?_
    rintro e w3 ⟨rfl, b3⟩
    have HR13 := Lib.hid (HR12.out.below b3 rfl)
    have B3 := Lib.hid (B2.out.trans (b3.mono B2.out.size))
    clear b3 HR02 HR12 B2
    go_wp2_with fail
    refine (HGr.out _ HR13.out).mono ?_
    rintro e w4 ⟨rfl, b4⟩
    have B4 := Lib.hid (B3.out.trans (b4.mono B3.out.size))
    clear b4 HR13 B3
    go_wp2_with fail
    refine (HSum.out _ _ (rats_lit3 (by simp))).mono ?_
    rintro e w5 ⟨rfl, b5⟩
    have hz := B4.out.size
    have hz5 := b5.size
    have B5 := Lib.hid (B4.out.trans (((((Below.refl w4.heap.size w4).alloc (Nat.le_refl _) _).alloc (by simp) _).trans (b5.mono (by simp; omega))).mono hz))
    clear b5
    go_wp2
    go_quiet (fail)
    go_wp2
    go_ret3
    refine ⟨rfl, ?_⟩
    exact below_drewN (B5.out.alloc B5.out.size _) _
end Go.Proofs.Yteglekfiannncaa
