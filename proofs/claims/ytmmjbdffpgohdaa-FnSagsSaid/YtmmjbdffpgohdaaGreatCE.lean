/- The greatest sag: the program's and the specification's answer as one function. Condition: sizes. -/
import Derived.Test.YtmmjbdffpgohdaaGreatMathE

namespace Go.Proofs.Ytmmjbdffpgohdaa
open Go.RowKit
set_option linter.unusedVariables false
noncomputable def gsOk (l : List Sup) (r : Rp) : Bool := isL l && isR r
noncomputable def gsP (l : List Sup) (r : Rp) : Int := if gsOk l r then gsQ l else 0
noncomputable def gsN (l : List Sup) (r : Rp) : Int := if gsOk l r then sgN l r (gsQ l) else 0
noncomputable def gsD (l : List Sup) (r : Rp) : Int := if gsOk l r then sgD l r (gsQ l) else 0
theorem gs_no {l : List Sup} {r : Rp} (h : gsOk l r = false) : gsP l r = 0 ∧ gsN l r = 0 ∧ gsD l r = 0 := by simp [gsP, gsN, gsD, h]
theorem gs_yes {l : List Sup} {r : Rp} (h : gsOk l r = true) : gsP l r = gsQ l ∧ gsN l r = sgN l r (gsQ l) ∧ gsD l r = sgD l r (gsQ l) := by simp [gsP, gsN, gsD, h]
set_option maxRecDepth 100000 in
set_option maxHeartbeats 4000000 in
theorem implGreatestSag_c (v : Value) (l : List Sup) (r : Rp) (w : World) (hr : Rs w v l.length (sups l)) (hn : l.length ≤ 1048576) :
    Calls Try.prog 13 #[v, .agg #[.int .i64 r.w, .int .i64 r.p]] w fun e w' => e = .returned (.tuple #[.int .i64 (gsP l r), .int .i64 (gsN l r), .int .i64 (gsD l r), .bool (gsOk l r)]) ∧ Below w.heap.size w w' := by
  have E1 := Lib.hid (fun W => implIsRope_c r W)
  have HX := Lib.hid (fun W h => box_Rp w r 26 _ rfl W h)
  have HR := Lib.hid (hr.below ((Below.refl _ _).alloc (Nat.le_refl _) (.cells #[.int .i64 r.w, .int .i64 r.p] 26)) rfl)
  have HB0 : Hid (Below w.heap.size w (w.alloc (.cells #[.int .i64 r.w, .int .i64 r.p] 26))) := Lib.hid ((Below.refl _ _).alloc (Nat.le_refl _) _)
  have HBE := Lib.hid (fun W hW => implIsLine_c v l W hW hn)
  have hD : gsOk l r = (isL l && isR r) := rfl
  cases hok : gsOk l r with
  | false =>
    have HV := Lib.hid (gs_no hok)
    rw [HV.out.1, HV.out.2.1, HV.out.2.2]
    rw [hok] at hD
    have HD := Lib.hid hD.symm
    clear hok HV hD hr
    cases ho : isL l with
    | false =>
      rw [ho] at HBE
      clear HD E1 ho HX
      go_enter Try.func13, Try.ntmps13
      go_wp2_with fail
      refine (HBE.out _ HR.out).mono ?_
      rintro e w1 ⟨rfl, b1⟩
      go_wp2
      (try simp only [Exit.inBlock, Exit.then])
      refine bodyPost_ret (results_tmp4 rfl _ _ _) rfl ?_
      exact ⟨rfl, HB0.out.trans (b1.mono HB0.out.size)⟩
    | true =>
      rw [ho] at HBE HD
      have hq : isR r = false := by simpa using HD.out
      rw [hq] at E1
      clear HD ho hq
      go_enter Try.func13, Try.ntmps13
      go_wp2_with fail
      refine (HBE.out _ HR.out).mono ?_
      rintro e w1 ⟨rfl, b1⟩
      obtain ⟨k0, k1⟩ := HX.out w1 (by simpa using b1)
      go_wp2_with fail
      refine (E1.out _).mono ?_
      rintro e w2 ⟨rfl, b2⟩
      go_wp2
      (try simp only [Exit.inBlock, Exit.then])
      refine bodyPost_ret (results_tmp4 rfl _ _ _) rfl ?_
      have h1 := HB0.out.trans (b1.mono HB0.out.size)
      exact ⟨rfl, h1.trans (b2.mono h1.size)⟩
  | true =>
    have HV := Lib.hid (gs_yes hok)
    rw [HV.out.1, HV.out.2.1, HV.out.2.2]
    rw [hok, eq_comm, Bool.and_eq_true] at hD
    obtain ⟨hl, hR⟩ := hD
    have hL := isL_yes hl
    rw [hl] at HBE
    rw [hR] at E1
    have h2 := hL.two
    have h8 := hL.eight
    have hM := mid_ok hL
    have hlo := hM.lo
    have hhi := hM.hi
    have he2 := (endN_eq hL).2
    have hsg : sgOk l r (gsQ l) = true := by
      have := sg_of (r := r) hL hR (k := (gsQ l).toNat) (by omega)
      rwa [Int.toNat_of_nonneg hlo] at this
    have HSag := Lib.hid (fun W hW => implSagAt_c v l r (gsQ l) W hW hn (by simp [Lit.wf, IntKind.min, IntKind.max, IntKind.bits, IntKind.signed]; omega))
    rw [hsg] at HSag
    have HLn := Lib.hid hL
    have hlg := lgN_le l (l.length - 2)
    obtain ⟨a, oa, ca, rfl, hla, hm, hs⟩ := hr.sup (by omega)
    have HA := Lib.hid hs
    have HSL := Lib.hid (fun (i : Nat) (hi : i + 1 < l.length) W hW => spanLength_c (.slice (some ⟨a, oa, none⟩) l.length ca) l i W hW hL hi)
    have HN : Hid (∀ k, lgN l k ≤ k) := Lib.hid (lgN_le l)
    have HYes : Hid (∀ k, slen l (lgN l k) < slen l (k + 1) → lgN l (k + 1) = k + 1) := Lib.hid (fun k h => by rw [lgN, if_pos h])
    have HNo : Hid (∀ k, ¬ slen l (lgN l k) < slen l (k + 1) → lgN l (k + 1) = lgN l k) := Lib.hid (fun k h => by rw [lgN, if_neg h])
    have HQ : Hid ((nth l (lgN l (l.length - 2))).a + slen l (lgN l (l.length - 2)) / 2 = gsQ l) := Lib.hid rfl
    have hb := slen_bd hL (i := lgN l (l.length - 2)) (by omega)
    have ha := (hL.bd (i := lgN l (l.length - 2)) (by omega)).1
    obtain ⟨p1, p2, p3⟩ := pred_in l.length (by omega) (by omega)
    clear hr hs HV hok hl hR hL hM hsg
    go_enter Try.func13, Try.ntmps13
    go_wp2_with fail
    refine (HBE.out _ HR.out).mono ?_
    rintro e w1 ⟨rfl, b1⟩
    obtain ⟨k0, k1⟩ := HX.out w1 (by simpa using b1)
    go_wp2_with fail
    refine (E1.out _).mono ?_
    rintro e w2 ⟨rfl, b2⟩
    have hb2 := b1.trans (b2.mono b1.size)
    have HX2 := Lib.hid (fun W (h : Below w2.heap.size w2 W) => HX.out W ((show Below (w.heap.size + 1) _ w2 by simpa using hb2).trans (h.mono (by have := hb2.size; simpa using this))))
    have B2 := Lib.hid (HB0.out.trans (hb2.mono HB0.out.size))
    have HR2 := Lib.hid (HR.out.below hb2 rfl)
    clear b1 b2 hb2 HX HB0 HR k0 k1 E1 HBE
    go_wp2_with fail
    clear p1 p2 p3
    go_loopw [8, 25] (fun bst i wr => ∃ k : Nat, k ≤ l.length - 1 ∧ i = .int .i64 (k : Int) ∧ Drew w2 wr ∧ ((k = 0 ∧ bst = .int .i64 0) ∨ ∃ j, k = j + 1 ∧ bst = .int .i64 (lgN l j : Int))) (fun _ i _ => l.length - (intOf i).toNat)
    case atStart => exact ⟨0, Nat.zero_le _, rfl, Drew.refl _, .inl ⟨rfl, rfl⟩⟩
    case round =>
      obtain ⟨k, hk, rfl, hd, hc⟩ := hrel
      have HRa := Lib.hid (hd.rs HR2.out)
      by_cases hle : k < l.length - 1
      · have hki : (k : Int) < (l.length : Int) - 1 := by omega
        obtain ⟨p4, p5, p6⟩ := succ_in k (by omega)
        rcases hc with ⟨hk0, rfl⟩ | ⟨j, hkj, rfl⟩
        · have HL0 : Hid (lgN l k = 0) := Lib.hid (by rw [hk0]; rfl)
          subst hk0
          have H0 := Lib.hid (HSL.out 0 (by omega))
          go_wp2_with fail
          refine (H0.out _ HRa.out).mono ?_
          rintro e w4 ⟨rfl, d4⟩
          go_wp2_with fail
          refine (H0.out _ (d4.rs HRa.out)).mono ?_
          rintro e w5 ⟨rfl, d5⟩
          have hlt0 : ¬ slen l 0 < slen l 0 := by omega
          go_wp2
          go_roundw
          case rel => exact ⟨0 + 1, by omega, by go_num, (hd.trans d4).trans d5, .inr ⟨0, rfl, by rw [HL0.out]; rfl⟩⟩
          case measure => simp [intOf]; omega
        · have hjl := HN.out j
          have HA1 := Lib.hid (HSL.out k (by omega))
          have HA2 := Lib.hid (HSL.out (lgN l j) (by omega))
          have HY := HYes.out j
          have HNN := HNo.out j
          rw [← hkj] at HY HNN
          by_cases hf : slen l (lgN l j) < slen l k
          · have HYY := Lib.hid (HY hf)
            clear HY HNN hkj
            go_wp2_with fail
            refine (HA1.out _ HRa.out).mono ?_
            rintro e w4 ⟨rfl, d4⟩
            go_wp2_with fail
            refine (HA2.out _ (d4.rs HRa.out)).mono ?_
            rintro e w5 ⟨rfl, d5⟩
            go_wp2
            go_roundw
            case rel => exact ⟨k + 1, by omega, by go_num, (hd.trans d4).trans d5, .inr ⟨k, rfl, by rw [HYY.out]⟩⟩
            case measure => simp [intOf]; omega
          · have HYY := Lib.hid (HNN (by omega))
            clear HY HNN hkj
            go_wp2_with fail
            refine (HA1.out _ HRa.out).mono ?_
            rintro e w4 ⟨rfl, d4⟩
            go_wp2_with fail
            refine (HA2.out _ (d4.rs HRa.out)).mono ?_
            rintro e w5 ⟨rfl, d5⟩
            go_wp2
            go_roundw
            case rel => exact ⟨k + 1, by omega, by go_num, (hd.trans d4).trans d5, .inr ⟨k, rfl, by rw [HYY.out]⟩⟩
            case measure => simp [intOf]; omega
      · rcases hc with ⟨h, _⟩ | ⟨j, hj, rfl⟩
        · omega
        · obtain rfl : j = l.length - 2 := by omega
          have hkk : ¬ (k : Int) < (l.length : Int) - 1 := by omega
          have HA2 := Lib.hid (HSL.out (lgN l (l.length - 2)) (by omega))
          have hBr : Below w2.heap.size w2 wr := hd.below _
          obtain ⟨c0, _, _⟩ := (HA.out.below (B2.out.trans (hBr.mono B2.out.size)) hla) (lgN l (l.length - 2)) (by omega)
          obtain ⟨x0, x1⟩ := HX2.out wr hBr
          have BR := Lib.hid (B2.out.trans (hBr.mono B2.out.size))
          have hq := HQ.out
          generalize hz : lgN l (l.length - 2) = z at *
          clear hz hj
          generalize slen l z = S at *
          have t1 : Int.tdiv S 2 = S / 2 := Int.tdiv_eq_ediv_of_nonneg (by omega)
          have t2 : IntKind.i64.wrap (S / 2) = S / 2 := IntWalk.i64_in _ (by omega)
          have t3 : IntKind.i64.wrap ((nth l z).a + S / 2) = gsQ l := by rw [hq]; exact IntWalk.i64_in _ (by omega)
          have hzl : z < l.length := by omega
          have hzi : (z : Int) < (l.length : Int) := by omega
          clear hq HQ ha hb
          go_wp2_with fail
          go_quiet ((go_at_call 63; exact quiet_drew (HA2.out _ (HRa.out.drewN _))))
          go_wp2_with fail
          refine (HSag.out _ (HRa.out.drewN _)).mono ?_
          rintro e w6 ⟨rfl, b6⟩
          go_wp2
          (try simp only [Exit.inBlock, Exit.then])
          refine bodyPost_ret (results_tmp4 rfl _ _ _) rfl ?_
          have h1 := below_drewN BR.out nq
          exact ⟨rfl, h1.trans (b6.mono h1.size)⟩
end Go.Proofs.Ytmmjbdffpgohdaa
