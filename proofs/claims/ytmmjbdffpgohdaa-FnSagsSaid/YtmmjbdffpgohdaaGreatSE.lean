/- The greatest sag: the specification's answer. Condition: sizes. -/
import Derived.Test.YtmmjbdffpgohdaaGreatCE
namespace Go.Proofs.Ytmmjbdffpgohdaa
open Go.RowKit
set_option linter.unusedVariables false
theorem sg_zero' (l : List Sup) (r : Rp) : sgOk l r 0 = gsOk l r := by
  unfold sgOk gsOk
  cases hl : isL l with
  | false => simp [onL, hl]
  | true => have := on_of (isL_yes hl) (k := 0) (Nat.zero_le _); simp at this; rw [this]
set_option maxRecDepth 100000 in
set_option maxHeartbeats 4000000 in
theorem specGreatestSag_c (v : Value) (l : List Sup) (r : Rp) (w : World) (hr : Rs w v l.length (sups l)) (hn : l.length ≤ 1048576) :
    Calls Try.prog 20 #[v, .agg #[.int .i64 r.w, .int .i64 r.p]] w fun e w' => e = .returned (.tuple #[.int .i64 (gsP l r), .int .i64 (gsN l r), .int .i64 (gsD l r), .bool (gsOk l r)]) ∧ Below w.heap.size w w' := by
  have HX := Lib.hid (fun W h => box_Rp w r 26 _ rfl W h)
  have HR := Lib.hid (hr.below ((Below.refl _ _).alloc (Nat.le_refl _) (.cells #[.int .i64 r.w, .int .i64 r.p] 26)) rfl)
  have HB0 : Hid (Below w.heap.size w (w.alloc (.cells #[.int .i64 r.w, .int .i64 r.p] 26))) := Lib.hid ((Below.refl _ _).alloc (Nat.le_refl _) _)
  have E0 := Lib.hid (fun W hW => l4Asked_c v l r 0 W hW hn)
  rw [sg_zero'] at E0
  cases hok : gsOk l r with
  | false =>
    have HV := Lib.hid (gs_no hok)
    rw [HV.out.1, HV.out.2.1, HV.out.2.2]
    rw [hok] at E0
    clear hok HV hr HX
    go_enter Try.func20, Try.ntmps20
    go_wp2_with fail
    refine (E0.out _ HR.out).mono ?_
    rintro e w1 ⟨rfl, b1⟩
    go_wp2
    (try simp only [Exit.inBlock, Exit.then])
    refine bodyPost_ret (results_tmp4 rfl _ _ _) rfl ?_
    exact ⟨rfl, HB0.out.trans (b1.mono HB0.out.size)⟩
  | true =>
    have HV := Lib.hid (gs_yes hok)
    rw [HV.out.1, HV.out.2.1, HV.out.2.2]
    have hD : (isL l && isR r) = true := hok
    rw [Bool.and_eq_true] at hD
    obtain ⟨hl, hR⟩ := hD
    have hL := isL_yes hl
    have hRb := (isR_iff r).1 hR
    rw [hok] at E0
    have h2 := hL.two
    have h8 := hL.eight
    have hM := mid_ok hL
    have hmq := hM.eq
    obtain ⟨he1, he2⟩ := endN_eq hL
    have hml := mxN_le l (endN l)
    have hsg := sg_of (r := r) hL hR (k := mxN l (endN l)) hml
    have HFin : Hid ((mxN l (endN l) : Int) = gsQ l ∧ rN (r.w * sE l (mxN l (endN l))) (2 * r.p) = sgN l r (gsQ l) ∧ rD (r.w * sE l (mxN l (endN l))) (2 * r.p) = sgD l r (gsQ l)) := Lib.hid ⟨hmq, by rw [← hmq]; simp only [sgN, hsg]; rfl, by rw [← hmq]; simp only [sgD, hsg]; rfl⟩
    have HPa := Lib.hid (fun (k : Nat) (hk : k ≤ endN l) W hW => l4Parts_c v l (k : Int) W hW (on_of hL hk))
    have HBd : Hid (∀ k, k ≤ endN l → 0 ≤ sE l k ∧ sE l k ≤ 9000000) := Lib.hid (fun k hk => (xyOk (onAt (on_of hL hk))).bd)
    have HXY : Hid (∀ k, sE l k = pX l (k : Int) * pY l (k : Int)) := Lib.hid (fun k => rfl)
    have HN : Hid (∀ k, mxN l k ≤ k) := Lib.hid (mxN_le l)
    have HYes : Hid (∀ k, sE l (mxN l k) < sE l (k + 1) → mxN l (k + 1) = k + 1) := Lib.hid (fun k h => by rw [mxN, if_pos h])
    have HNo : Hid (∀ k, ¬ sE l (mxN l k) < sE l (k + 1) → mxN l (k + 1) = mxN l k) := Lib.hid (fun k h => by rw [mxN, if_neg h])
    obtain ⟨a, oa, ca, rfl, hla, hm, hs⟩ := hr.sup (by omega)
    have HA := Lib.hid hs
    obtain ⟨p1, p2, p3⟩ := pred_in l.length (by omega) (by omega)
    have hi1 : l.length - 1 < l.length := by omega
    have hi2 : (l.length : Int) - 1 < (l.length : Int) := by omega
    clear hr hs HV hok hl hR hL hM hsg hmq hml
    generalize hE : endN l = E at *
    generalize hZ : (nth l (l.length - 1)).a = Z at *
    subst he1
    have HZ := Lib.hid hZ
    clear hZ hE
    go_enter Try.func20, Try.ntmps20
    go_wp2_with fail
    refine (E0.out _ HR.out).mono ?_
    rintro e w2 ⟨rfl, b2⟩
    have HX2 := Lib.hid (fun W (h : Below w2.heap.size w2 W) => HX.out W ((show Below (w.heap.size + 1) _ w2 by simpa using b2).trans (h.mono (by have := b2.size; simpa using this))))
    have B2 := Lib.hid (HB0.out.trans (b2.mono HB0.out.size))
    have HR2 := Lib.hid (HR.out.below b2 rfl)
    clear b2 HX HB0 HR E0
    go_wp2_with fail
    go_loopw [8, 9, 10] (fun bst mst i wr => ∃ k : Nat, k ≤ E + 1 ∧ i = .int .i64 (k : Int) ∧ Drew w2 wr ∧ ((k = 0 ∧ bst = .int .i64 0 ∧ mst = .int .i64 (-1)) ∨ ∃ j, k = j + 1 ∧ bst = .int .i64 (mxN l j : Int) ∧ mst = .int .i64 (sE l (mxN l j)))) (fun _ _ i _ => E + 1 - (intOf i).toNat)
    case atStart => exact ⟨0, Nat.zero_le _, rfl, Drew.refl _, .inl ⟨rfl, rfl, rfl⟩⟩
    case round =>
      obtain ⟨k, hk, rfl, hd, hc⟩ := hrel
      have HRa := Lib.hid (hd.rs HR2.out)
      have hBr : Below w2.heap.size w2 wr := hd.below _
      obtain ⟨c0, _, _⟩ := (HA.out.below (B2.out.trans (hBr.mono B2.out.size)) hla) (l.length - 1) (by omega)
      rw [HZ.out] at c0
      by_cases hle : k ≤ E
      · have hki : (k : Int) ≤ (E : Int) := by omega
        obtain ⟨p4, p5, p6⟩ := succ_in k (by omega)
        have HPk := Lib.hid (HPa.out k hle)
        obtain ⟨q1, q2⟩ := HBd.out k hle
        have t1 : IntKind.i64.wrap (pX l (k : Int) * pY l (k : Int)) = sE l k := by rw [← HXY.out]; exact IntWalk.i64_in _ (by omega)
        rcases hc with ⟨hk0, rfl, rfl⟩ | ⟨j, hkj, rfl, rfl⟩
        · have HL0 : Hid (mxN l k = k) := Lib.hid (by rw [hk0]; rfl)
          have hgt : (-1 : Int) < sE l k := by omega
          clear hk0
          go_wp2_with fail
          refine (HPk.out _ HRa.out).mono ?_
          rintro e w4 ⟨rfl, d4⟩
          go_wp2
          go_roundw
          case rel => exact ⟨k + 1, by omega, by go_num, hd.trans d4, .inr ⟨k, rfl, by rw [HL0.out], by rw [HL0.out]⟩⟩
          case measure => simp [intOf]; omega
        · have HY := HYes.out j
          have HNN := HNo.out j
          rw [← hkj] at HY HNN
          by_cases hf : sE l (mxN l j) < sE l k
          · have HYY := Lib.hid (HY hf)
            clear HY HNN hkj
            go_wp2_with fail
            refine (HPk.out _ HRa.out).mono ?_
            rintro e w4 ⟨rfl, d4⟩
            go_wp2
            go_roundw
            case rel => exact ⟨k + 1, by omega, by go_num, hd.trans d4, .inr ⟨k, rfl, by rw [HYY.out], by rw [HYY.out]⟩⟩
            case measure => simp [intOf]; omega
          · have HYY := Lib.hid (HNN (by omega))
            clear HY HNN hkj
            go_wp2_with fail
            refine (HPk.out _ HRa.out).mono ?_
            rintro e w4 ⟨rfl, d4⟩
            go_wp2
            go_roundw
            case rel => exact ⟨k + 1, by omega, by go_num, hd.trans d4, .inr ⟨k, rfl, by rw [HYY.out], by rw [HYY.out]⟩⟩
            case measure => simp [intOf]; omega
      · obtain rfl : k = E + 1 := by omega
        rcases hc with ⟨h, _⟩ | ⟨j, hj, rfl, rfl⟩
        · omega
        · obtain rfl : E = j := by omega
          have hki : ¬ ((E : Int) + 1 ≤ (E : Int)) := by omega
          obtain ⟨q1, q2⟩ := HBd.out (mxN l E) (HN.out E)
          have m := mulBd (A := 200) (B := 9000000) (by omega : 0 ≤ r.w) hRb.1.2 q1 q2
          have t1 : IntKind.i64.wrap (r.w * sE l (mxN l E)) = r.w * sE l (mxN l E) := IntWalk.i64_in _ (by omega)
          have t2 : IntKind.i64.wrap (2 * r.p) = 2 * r.p := IntWalk.i64_in _ (by omega)
          obtain ⟨x0, x1⟩ := HX2.out wr hBr
          go_wp2_with fail
          refine (l2Reduce_g (r.w * sE l (mxN l E)) (2 * r.p) _ (by omega) (by omega) (by omega) (by omega)).mono ?_
          rintro e w4 ⟨rfl, d4⟩
          go_wp2
          (try simp only [Exit.inBlock, Exit.then])
          refine bodyPost_ret (results_tmp4 rfl _ _ _) rfl ?_
          exact ⟨ret4 HFin.out.1 HFin.out.2.1 HFin.out.2.2 rfl, Drew.below_trans (B2.out.trans (hBr.mono B2.out.size)) d4⟩
end Go.Proofs.Ytmmjbdffpgohdaa
