/- The lowest clearance: the program's answer. Condition: sizes. -/
import Derived.Test.YteglekfiannncaaLowC
namespace Go.Proofs.Yteglekfiannncaa
open Go.RowKit
set_option linter.unusedVariables false
theorem here_cells {W : World} {x y u v : Value} {t : TypeId} {b : Nat} :
    (((W.setCell ⟨b, 0, none⟩ u).setCell ⟨b, 1, none⟩ v).alloc (.cells #[x, y] t)).cell? ⟨W.heap.size, 0, none⟩ = some x ∧ (((W.setCell ⟨b, 0, none⟩ u).setCell ⟨b, 1, none⟩ v).alloc (.cells #[x, y] t)).cell? ⟨W.heap.size, 1, none⟩ = some y := by
  have K : (((W.setCell ⟨b, 0, none⟩ u).setCell ⟨b, 1, none⟩ v).alloc (.cells #[x, y] t)).heap[W.heap.size]? = some (.cells #[x, y] t (0, 0)) := new_alloc (by rw [Go.Deep.nblk_setCell, Go.Deep.nblk_setCell])
  have p0 := cell_of_row _ W.heap.size 0 _ _ _ K
  have p1 := cell_of_row _ W.heap.size 1 _ _ _ K
  simp at p0 p1
  exact ⟨p0, p1⟩
theorem here_cellsD {W : World} {x y u v : Value} {t : TypeId} {b : Nat} :
    (((W.setCell ⟨b, 0, none⟩ u).setCell ⟨b, 1, none⟩ v).alloc (.cells #[x, y] t)).drew.cell? ⟨W.heap.size, 0, none⟩ = some x ∧ (((W.setCell ⟨b, 0, none⟩ u).setCell ⟨b, 1, none⟩ v).alloc (.cells #[x, y] t)).drew.cell? ⟨W.heap.size, 1, none⟩ = some y := here_cells
set_option maxRecDepth 100000 in
set_option maxHeartbeats 4000000 in
theorem implLowestClearance_c (v0 : Value) (l : List Sup) (r : Rp) (v1 : Value) (g : List GP) (w : World) (hr0 : Rs w v0 l.length (sups l)) (hn : l.length ≤ 1048576) (hr1 : Rs w v1 g.length (gps g)) (hng : g.length ≤ 1048576) :
    Calls Try.prog 17 #[v0, .agg #[.int .i64 r.w, .int .i64 r.p], v1] w fun e w' => e = .returned (.tuple #[.int .i64 (loP l r g), .int .i64 (loN l r g), .int .i64 (loD l r g), .bool (loOk l r g)]) ∧ Below w.heap.size w w' := by
  have HX := Lib.hid (fun W h => box_Rp w r 26 _ rfl W h)
  have HR0 := Lib.hid (hr0.below ((Below.refl _ _).alloc (Nat.le_refl _) (.cells #[.int .i64 r.w, .int .i64 r.p] 26)) rfl)
  have HR1 := Lib.hid (hr1.below ((Below.refl _ _).alloc (Nat.le_refl _) (.cells #[.int .i64 r.w, .int .i64 r.p] 26)) rfl)
  have HB0 : Hid (Below w.heap.size w (w.alloc (.cells #[.int .i64 r.w, .int .i64 r.p] 26))) := Lib.hid ((Below.refl _ _).alloc (Nat.le_refl _) _)
  have E0 := Lib.hid (fun W => implIsRope_c r W)
  have E1 := Lib.hid (fun W hW hW1 => implIsGround_c v0 l v1 g W hW hn hW1 hng)
  have hD : loOk l r g = (isR r && isG l g) := rfl
  cases hok : loOk l r g with
  | false =>
    have HV := Lib.hid (lo_no hok)
    rw [HV.out.1, HV.out.2.1, HV.out.2.2]
    rw [hok] at hD
    have HD := Lib.hid hD.symm
    clear hok HV hD hr0 hr1
    cases ho : isR r with
    | false =>
      rw [ho] at E0
      clear HD E1 ho HX
      go_enter Try.func17, Try.ntmps17
      go_wp2_with fail
      refine (E0.out _).mono ?_
      rintro e w1 ⟨rfl, b1⟩
      go_wp2
      (try simp only [Exit.inBlock, Exit.then])
      refine bodyPost_ret (results_tmp4 rfl _ _ _) rfl ?_
      exact ⟨rfl, HB0.out.trans (b1.mono HB0.out.size)⟩
    | true =>
      rw [ho] at E0
      have hq : isG l g = false := by have := HD.out; rw [ho] at this; simpa using this
      rw [hq] at E1
      clear HD ho HX
      go_enter Try.func17, Try.ntmps17
      go_wp2_with fail
      refine (E0.out _).mono ?_
      rintro e w1 ⟨rfl, b1⟩
      have B1 := Lib.hid (HB0.out.trans (b1.mono HB0.out.size))
      go_wp2_with fail
      refine (E1.out _ (HR0.out.below b1 rfl) (HR1.out.below b1 rfl)).mono ?_
      rintro e w2 ⟨rfl, b2⟩
      go_wp2
      (try simp only [Exit.inBlock, Exit.then])
      refine bodyPost_ret (results_tmp4 rfl _ _ _) rfl ?_
      exact ⟨rfl, B1.out.trans (b2.mono B1.out.size)⟩
  | true =>
    have HV := Lib.hid (lo_yes hok)
    rw [HV.out.1, HV.out.2.1, HV.out.2.2]
    rw [hok, eq_comm, Bool.and_eq_true] at hD
    obtain ⟨hR, hg⟩ := hD
    have hG := (isG_iff l g).1 hg
    have hL := hG.line
    rw [hR] at E0
    rw [hg] at E1
    obtain ⟨he1, he2⟩ := endN_eq hL
    have HCl : Hid (∀ (k : Nat), k ≤ endN l → ∀ W, Rs W v0 l.length (sups l) → Rs W v1 g.length (gps g) → Calls Try.prog 20 #[v0, .agg #[.int .i64 r.w, .int .i64 r.p], v1, .int .i64 (k : Int)] W fun e w' => e = .returned (.tuple #[.int .i64 (rN (cRn l r g k) (cRd l r g k)), .int .i64 (rD (cRn l r g k) (cRd l r g k)), .bool true]) ∧ Below W.heap.size W w') := Lib.hid (fun k hk W hW hW1 => by
      have h1 : clOk l r g (k : Int) = true := by unfold clOk; rw [sg_of hL hR hk, hg]; rfl
      obtain ⟨h2, h3⟩ := cl_yes h1
      have := implClearanceAt_c v0 l r v1 g (k : Int) W hW hn hW1 hng (by simp [Lit.wf, IntKind.min, IntKind.max, IntKind.bits, IntKind.signed]; omega)
      rw [h1, h2, h3] at this
      exact this)
    have HOK := Lib.hid (fun (k : Nat) (hk : k ≤ endN l) => cR_ok (sg_of hL hR hk) hG)
    have h2 := hL.two
    have h8 := hL.eight
    obtain ⟨a, oa, ca, rfl, hla, hm, hs⟩ := hr0.sup (by omega)
    have HA := Lib.hid hs
    obtain ⟨p1, p2, p3⟩ := pred_in l.length (by omega) (by omega)
    have hi1 : l.length - 1 < l.length := by omega
    have hi2 : (l.length : Int) - 1 < (l.length : Int) := by omega
    have HN : Hid (∀ k, lowN l r g k ≤ k) := Lib.hid (lowN_le l r g)
    have HYes : Hid (∀ k, frLt (cRn l r g ((k + 1 : Nat) : Int)) (cRd l r g ((k + 1 : Nat) : Int)) (cRn l r g (lowN l r g k : Int)) (cRd l r g (lowN l r g k : Int)) → lowN l r g (k + 1) = k + 1) := Lib.hid (fun k => lowN_yes)
    have HNo : Hid (∀ k, ¬ frLt (cRn l r g ((k + 1 : Nat) : Int)) (cRd l r g ((k + 1 : Nat) : Int)) (cRn l r g (lowN l r g k : Int)) (cRd l r g (lowN l r g k : Int)) → lowN l r g (k + 1) = lowN l r g k) := Lib.hid (fun k => lowN_no)
    have H00 : Hid (lowN l r g 0 = 0) := Lib.hid rfl
    clear hr0 hr1 hs HV hok hR hg hG hL
    generalize hE : endN l = E at *
    generalize hZ : (nth l (l.length - 1)).a = Z at *
    subst he1
    have HZ := Lib.hid hZ
    clear hZ hE
    have p4 : IntKind.i64.wrap ((E : Int) + 1) = (E : Int) + 1 := IntWalk.i64_in _ (by omega)
    go_enter Try.func17, Try.ntmps17
    go_wp2_with fail
    refine (E0.out _).mono ?_
    rintro e w1 ⟨rfl, b1⟩
    have HR01 := Lib.hid (HR0.out.below b1 rfl)
    have HR11 := Lib.hid (HR1.out.below b1 rfl)
    go_wp2_with fail
    refine (E1.out _ HR01.out HR11.out).mono ?_
    rintro e w2 ⟨rfl, b2⟩
    have HR02 := Lib.hid (HR01.out.below b2 rfl)
    have HR12 := Lib.hid (HR11.out.below b2 rfl)
    have hb2 := b1.trans (b2.mono b1.size)
    have HX2 := Lib.hid (fun W (h : Below w2.heap.size w2 W) => HX.out W ((show Below (w.heap.size + 1) _ w2 by simpa using hb2).trans (h.mono (by have := hb2.size; simpa using this))))
    have B2 := Lib.hid (HB0.out.trans (hb2.mono HB0.out.size))
    have hz2 := hb2.size
    simp at hz2
    obtain ⟨c0, _, _⟩ := (HA.out.below B2.out hla) (l.length - 1) (by omega)
    rw [HZ.out] at c0
    have hla2 : a < w2.heap.size := by omega
    clear b1 b2 hb2 HR01 HR11 HX HR0 HR1 HB0 E0 E1
    go_wp2_with fail
    clear p1 p2 p3 c0
    go_loopw [10, 35] (fun bst i wr => ∃ k : Nat, k ≤ E + 1 ∧ i = .int .i64 (k : Int) ∧ Below w2.heap.size w2 wr ∧ w2.heap.size < wr.heap.size ∧ ((k = 0 ∧ bst = .int .i64 0 ∧ Hid (wr.heap[w2.heap.size]? = some (.cells #[.int .i64 0, .int .i64 0] 109 (0, 0)))) ∨ ∃ j, k = j + 1 ∧ bst = .int .i64 (lowN l r g j : Int) ∧ Hid (wr.heap[w2.heap.size]? = some (.cells #[.int .i64 (rN (cRn l r g (lowN l r g j : Int)) (cRd l r g (lowN l r g j : Int))), .int .i64 (rD (cRn l r g (lowN l r g j : Int)) (cRd l r g (lowN l r g j : Int)))] 109 (0, 0))))) (fun _ i _ => E + 1 - (intOf i).toNat)
    case atStart => exact ⟨0, Nat.zero_le _, rfl, (Below.refl _ _).alloc (Nat.le_refl _) _, by simp, .inl ⟨rfl, rfl, Lib.hid (heap_alloc_new _ _)⟩⟩
    case round =>
      obtain ⟨k, hk, rfl, hb, hsz, hc⟩ := hrel
      have HRa := Lib.hid (HR02.out.below hb rfl)
      have HRb := Lib.hid (HR12.out.below hb rfl)
      obtain ⟨x0, x1⟩ := HX2.out wr hb
      by_cases hle : k ≤ E
      · have hki : (k : Int) < (E : Int) + 1 := by omega
        obtain ⟨⟨q1, q2⟩, q3, q4⟩ := HOK.out k hle
        obtain ⟨p4', p5, p6⟩ := succ_in k (by omega)
        have HCk := Lib.hid (HCl.out k hle wr HRa.out HRb.out)
        have n1 := rN_bd (B := 23400000000000000) q3 q1 q2
        have n2 := rD_pos (n := cRn l r g (k : Int)) q3
        have n3 := rD_le (n := cRn l r g (k : Int)) q3
        rcases hc with ⟨hk0, rfl, HK⟩ | ⟨j, hkj, rfl, HK⟩
        · have HL' : Hid (lowN l r g k = k) := Lib.hid (by rw [hk0]; exact H00.out)
          have hkz : ((k : Int) == 0) = true := by rw [beq_iff_eq]; omega
          clear hk0
          go_wp2_with fail
          refine HCk.out.mono ?_
          rintro e w4 ⟨rfl, b4⟩
          have hs4 := b4.size
          have K4 := (b4.block w2.heap.size hsz).trans HK.out
          have HK4 := Lib.hid K4
          have HB4 := Lib.hid (hb.trans (b4.mono hb.size))
          have f0 := cell_of_row w4 w2.heap.size 0 _ _ _ K4
          have f1 := cell_of_row w4 w2.heap.size 1 _ _ _ K4
          have m0 := frozen_of_row w4 w2.heap.size 0 _ _ K4
          have m1 := frozen_of_row w4 w2.heap.size 1 _ _ K4
          simp at f0 f1
          have hlt4 : w2.heap.size < w4.heap.size := by omega
          have hne4 : w2.heap.size ≠ w4.heap.size := by omega
          clear K4 x0 x1
          go_wp2_with fail
          go_region
          go_wp2
          go_roundw
          case rel =>
            refine ⟨k + 1, by omega, by go_num, (((HB4.out.setCell (Nat.le_refl _) _).setCell (Nat.le_refl _) _).alloc (by rw [Go.Deep.nblk_setCell, Go.Deep.nblk_setCell]; omega) _).drew, ?_, .inr ⟨k, rfl, by rw [HL'.out], Lib.hid ?_⟩⟩
            · show w2.heap.size < (World.alloc _ _).heap.size
              have := asz ((w4.setCell ⟨w2.heap.size, 0, none⟩ (.int .i64 (rN (cRn l r g (k : Int)) (cRd l r g (k : Int))))).setCell ⟨w2.heap.size, 1, none⟩ (.int .i64 (rD (cRn l r g (k : Int)) (cRd l r g (k : Int))))) (.cells #[.int .i64 (rN (cRn l r g (k : Int)) (cRd l r g (k : Int))), .int .i64 (rD (cRn l r g (k : Int)) (cRd l r g (k : Int)))] 109)
              rw [Go.Deep.nblk_setCell, Go.Deep.nblk_setCell] at this
              omega
            · rw [HL'.out]
              exact old_alloc (blk_set (blk_set HK4.out))
          case measure => simp [intOf]; omega
        · obtain ⟨⟨r1, r2⟩, r3, r4⟩ := HOK.out (lowN l r g j) (by have := HN.out j; omega)
          have u1 := rN_bd (B := 23400000000000000) r3 r1 r2
          have u2 := rD_pos (n := cRn l r g (lowN l r g j : Int)) r3
          have u3 := rD_le (n := cRn l r g (lowN l r g j : Int)) r3
          have HY := HYes.out j
          have HNN := HNo.out j
          rw [← hkj] at HY HNN
          have HF := Lib.hid (fun W => isLess_c (rN (cRn l r g (k : Int)) (cRd l r g (k : Int))) (rD (cRn l r g (k : Int)) (cRd l r g (k : Int))) (rN (cRn l r g (lowN l r g j : Int)) (cRd l r g (lowN l r g j : Int))) (rD (cRn l r g (lowN l r g j : Int)) (cRd l r g (lowN l r g j : Int))) W (by omega) (by omega) (by omega) (by omega))
          have hfr := frLt_r (a := cRn l r g (k : Int)) (b := cRd l r g (k : Int)) (c := cRn l r g (lowN l r g j : Int)) (d := cRd l r g (lowN l r g j : Int)) q3 r3
          rw [← hfr] at HY HNN
          have hkz : ((k : Int) == 0) = false := by rw [beq_eq_false_iff_ne]; omega
          by_cases hf : frLt (rN (cRn l r g (k : Int)) (cRd l r g (k : Int))) (rD (cRn l r g (k : Int)) (cRd l r g (k : Int))) (rN (cRn l r g (lowN l r g j : Int)) (cRd l r g (lowN l r g j : Int))) (rD (cRn l r g (lowN l r g j : Int)) (cRd l r g (lowN l r g j : Int)))
          · have HYY := Lib.hid (HY hf)
            rw [decide_eq_true hf] at HF
            clear hf HY HNN hkj hfr
            go_wp2_with fail
            refine HCk.out.mono ?_
            rintro e w4 ⟨rfl, b4⟩
            have hs4 := b4.size
            have K4 := (b4.block w2.heap.size hsz).trans HK.out
            have HK4 := Lib.hid K4
            have HB4 := Lib.hid (hb.trans (b4.mono hb.size))
            have f0 := cell_of_row w4 w2.heap.size 0 _ _ _ K4
            have f1 := cell_of_row w4 w2.heap.size 1 _ _ _ K4
            simp at f0 f1
            have hlt4 : w2.heap.size < w4.heap.size := by omega
            have hne4 : w2.heap.size ≠ w4.heap.size := by omega
            clear K4 x0 x1 b4
            go_wp2_with fail
            refine (HF.out _).mono ?_
            rintro e w6 ⟨rfl, b6⟩
            have hs6 := b6.size
            rw [← asz] at hs6
            have K6 := (b6.block w2.heap.size (by rw [← asz]; omega)).trans (old_alloc HK4.out)
            have H6 := (b6.block w4.heap.size (by rw [← asz]; omega)).trans (new_alloc rfl)
            have HB6 := Lib.hid (HB4.out.trans (((Below.refl w4.heap.size w4).alloc (Nat.le_refl _) _ |>.trans (b6.mono (by rw [← asz]; omega))).mono HB4.out.size))
            have HK6 := Lib.hid K6
            have g0 := cell_of_row w6 w2.heap.size 0 _ _ _ K6
            have g1 := cell_of_row w6 w2.heap.size 1 _ _ _ K6
            have m0 := frozen_of_row w6 w2.heap.size 0 _ _ K6
            have m1 := frozen_of_row w6 w2.heap.size 1 _ _ K6
            have d0 := cell_of_row w6 w4.heap.size 0 _ _ _ H6
            have d1 := cell_of_row w6 w4.heap.size 1 _ _ _ H6
            simp at g0 g1 d0 d1
            clear K6 H6 f0 f1 b6
            go_wp2_with fail
            go_region
            go_wp2
            go_roundw
            case rel =>
              refine ⟨k + 1, by omega, by go_num, ((HB6.out.setCell (Nat.le_refl _) _).setCell (Nat.le_refl _) _).drew, ?_, .inr ⟨k, rfl, by rw [HYY.out], Lib.hid ?_⟩⟩
              · show w2.heap.size < (World.setCell _ _ _).heap.size
                rw [Go.Deep.nblk_setCell, Go.Deep.nblk_setCell]; omega
              · rw [HYY.out]
                exact blk_set (blk_set HK6.out)
            case measure => simp [intOf]; omega
          · have HYY := Lib.hid (HNN hf)
            rw [decide_eq_false hf] at HF
            clear hf HY HNN hkj hfr
            go_wp2_with fail
            refine HCk.out.mono ?_
            rintro e w4 ⟨rfl, b4⟩
            have hs4 := b4.size
            have K4 := (b4.block w2.heap.size hsz).trans HK.out
            have HK4 := Lib.hid K4
            have HB4 := Lib.hid (hb.trans (b4.mono hb.size))
            have f0 := cell_of_row w4 w2.heap.size 0 _ _ _ K4
            have f1 := cell_of_row w4 w2.heap.size 1 _ _ _ K4
            simp at f0 f1
            have hlt4 : w2.heap.size < w4.heap.size := by omega
            have hne4 : w2.heap.size ≠ w4.heap.size := by omega
            clear K4 x0 x1 b4
            go_wp2_with fail
            refine (HF.out _).mono ?_
            rintro e w6 ⟨rfl, b6⟩
            have hs6 := b6.size
            rw [← asz] at hs6
            have HK6 := Lib.hid ((b6.block w2.heap.size (by rw [← asz]; omega)).trans (old_alloc HK4.out))
            have HB6 := Lib.hid (HB4.out.trans (((Below.refl w4.heap.size w4).alloc (Nat.le_refl _) _ |>.trans (b6.mono (by rw [← asz]; omega))).mono HB4.out.size))
            clear f0 f1 b6
            go_wp2
            go_roundw
            case rel =>
              exact ⟨k + 1, by omega, by go_num, HB6.out, by omega, .inr ⟨k, rfl, by rw [HYY.out], Lib.hid (by rw [HYY.out]; exact HK6.out)⟩⟩
            case measure => simp [intOf]; omega
      · obtain rfl : k = E + 1 := by omega
        rcases hc with ⟨h, _⟩ | ⟨j, hj, rfl, HK⟩
        · omega
        · obtain rfl : E = j := by omega
          have hki : ¬ ((E : Int) + 1 < (E : Int) + 1) := by omega
          have f0 := cell_of_row wr w2.heap.size 0 _ _ _ HK.out
          have f1 := cell_of_row wr w2.heap.size 1 _ _ _ HK.out
          simp at f0 f1
          clear x0 x1
          go_wp2
          go_quiet (fail)
          go_wp2
          (try simp only [Exit.inBlock, Exit.then])
          refine bodyPost_ret (results_tmp4 rfl _ _ _) rfl ?_
          exact ⟨rfl, below_drewN (B2.out.trans (hb.mono B2.out.size)) _⟩
end Go.Proofs.Yteglekfiannncaa
