/- The law FnSafety's walk. Condition: sizes. -/
import Derived.Test.YtdnmmafnjhgeiaaDrawGT
import Derived.Test.YtdnmmafnjhgeiaaOverC
import Derived.Test.YtdnmmafnjhgeiaaSafeC
import Derived.Test.YtdnmmafnjhgeiaaGreatTC
import Derived.Test.YtdnmmafnjhgeiaaPressC
import Derived.WalkArith
namespace Go.Proofs.Ytdnmmafnjhgeiaa
open Go.RowKit
set_option linter.unusedVariables false
theorem ov_mem {t : Nat → Int} {p : Int} {n k : Nat} (h : k < n) : ((k : Int) ∈ ovK t p n) ↔ p < t k := by
  unfold ovK
  simp only [List.mem_map, List.mem_filter, List.mem_range, decide_eq_true_eq]
  constructor
  · rintro ⟨i, ⟨hi, hp⟩, e⟩
    have : i = k := by omega
    rw [← this]; exact hp
  · intro hp
    exact ⟨k, ⟨h, hp⟩, rfl⟩
theorem mul_bdS {a b A B : Int} (h0 : -A ≤ a) (h1 : a ≤ A) (h2 : 0 ≤ b) (h3 : b ≤ B) (hA : 0 ≤ A) : -(A * B) ≤ a * b ∧ a * b ≤ A * B := by
  have e1 : 0 ≤ (a + A) * b := Int.mul_nonneg (by omega) h2
  have e2 : 0 ≤ (A - a) * b := Int.mul_nonneg (by omega) h2
  have e3 : A * b ≤ A * B := Int.mul_le_mul_of_nonneg_left h3 hA
  rw [Int.add_mul] at e1
  rw [Int.sub_mul] at e2
  omega
theorem rD_le2 {n d : Int} (hd : 0 < d) : 0 < rD n d ∧ rD n d ≤ d := ⟨rD_pos hd, rD_le hd⟩
set_option maxRecDepth 100000 in
set_option maxHeartbeats 16000000 in
theorem FnSafety_walk (a : Option Addr) (len cap : Nat) (w : World) (h : ByteRow w a len) :
    Calls Try.prog 3 #[.slice a len cap] w fun e w' => e = .returned (.bool true) ∧ Below w.heap.size w w' := by
  have hm := h.1
  have HC := Lib.hid h
  clear h
  by_cases hbig : 65536 < len
  · go_enter Try.func3, Try.ntmps3
    go_wp2_with fail
    refine (vBig_yes a len cap _ hbig hm).mono ?_
    rintro e w' ⟨rfl, rfl⟩
    go_wp2_with fail
    go_ret
    exact ⟨rfl, Below.refl _ _⟩
  · go_enter Try.func3, Try.ntmps3
    go_wp2_with fail
    refine (vBig_no a len cap _ (by omega)).mono ?_
    rintro e w' ⟨rfl, rfl⟩
    have T0 := Lib.hid (Below.refl w.heap.size w)
    have HC0 := Lib.hid HC.out
    have HCode1 := Lib.hid (HC.out.below T0.out)
    go_wp2_with fail
    refine (DrawOverTension_any a len cap _ HCode1.out).mono ?_
    rintro e X1 ⟨v1, l1, x1, q1, rfl, hr, hl1, hq1, hwf, hb⟩
    obtain ⟨va1, oa1, ca1, hv1, hla1, hm1, hsu⟩ := hr.sup (by omega)
    subst hv1
    have HBX1 := Lib.hid (fun W hh => lcBox X1 x1 W hh)
    have BX1 := Lib.hid (Below.refl (X1.heap.size + 1) (X1.alloc (.cells #[.int .i64 x1.w, .int .i64 x1.c, .int .i64 x1.r] 26)))
    have hT := T0.out.trans (hb.mono T0.out.size)
    have T1 := Lib.hid (hT.alloc hT.size (.cells #[.int .i64 x1.w, .int .i64 x1.c, .int .i64 x1.r] 26))
    have hs1 : (X1.alloc (.cells #[.int .i64 x1.w, .int .i64 x1.c, .int .i64 x1.r] 26)).heap.size = X1.heap.size + 1 := by simp
    have HR1 := Lib.hid (hr.below ((Below.refl _ _).alloc (Nat.le_refl _) (.cells #[.int .i64 x1.w, .int .i64 x1.c, .int .i64 x1.r] 26)) rfl)
    have HWq1 := Lib.hid (WalkArith.wf_i64 (n := q1) (by omega))
    clear hr hb hT hwf HCode1 hsu
    obtain ⟨k0, k1, k2⟩ := HBX1.out _ BX1.out
    go_wp2_with fail
    refine (implOverTension_c (.slice (some ⟨va1, oa1, none⟩) l1.length ca1) l1 x1 q1 _ HR1.out (by omega) HWq1.out).mono ?_
    rintro e Y2 ⟨g1, rfl, og2, b2⟩
    have HR_2 := Lib.hid (HR1.out.below b2 rfl)
    have BX_2 := Lib.hid (BX1.out.trans (b2.mono (by first | exact BX1.out.size | (have := BX1.out.size; omega))))
    have T_2 := Lib.hid (T1.out.trans (b2.mono T1.out.size))
    have O_g1_2 := Lib.hid og2
    clear k0 k1 k2 b2 og2 HR1 BX1 T1 
    obtain ⟨k0, k1, k2⟩ := HBX1.out _ BX_2.out
    go_wp2_with fail
    refine (specOverTension_c (.slice (some ⟨va1, oa1, none⟩) l1.length ca1) l1 x1 q1 _ HR_2.out (by omega) HWq1.out).mono ?_
    rintro e Y3 ⟨g2, rfl, og3, b3⟩
    have HR_3 := Lib.hid (HR_2.out.below b3 rfl)
    have BX_3 := Lib.hid (BX_2.out.trans (b3.mono (by first | exact BX_2.out.size | (have := BX_2.out.size; omega))))
    have T_3 := Lib.hid (T_2.out.trans (b3.mono T_2.out.size))
    have O_g1_3 := Lib.hid (owns_below O_g1_2.out b3)
    have O_g2_3 := Lib.hid og3
    clear k0 k1 k2 b3 og3 HR_2 BX_2 T_2 O_g1_2
    go_wp2_with fail
    refine (vInts_c g1 g2 (otL l1 x1 q1) _ (Rd.of_own O_g1_3.out) (Rd.of_own O_g2_3.out)).mono ?_
    rintro e Y4 ⟨rfl, b4⟩
    have HR_4 := Lib.hid (HR_3.out.below b4 rfl)
    have BX_4 := Lib.hid (BX_3.out.trans (b4.mono (by first | exact BX_3.out.size | (have := BX_3.out.size; omega))))
    have T_4 := Lib.hid (T_3.out.trans (b4.mono T_3.out.size))
    have O_g1_4 := Lib.hid (owns_below O_g1_3.out b4)
    clear b4 HR_3 BX_3 T_3 O_g1_3 O_g2_3
    cases hot : otOk l1 x1 q1 with
    | false =>
      clear hot
      have HCode5 := Lib.hid (HC.out.below T_4.out)
      go_wp2_with fail
      refine (DrawSafetyAt_any a len cap _ HCode5.out).mono ?_
      rintro e X5 ⟨v5, l5, x5, p5, q5, rfl, hr, hl5, hp5, hq5, hwf, hb⟩
      obtain ⟨va5, oa5, ca5, hv5, hla5, hm5, hsu⟩ := hr.sup (by omega)
      subst hv5
      have HBX5 := Lib.hid (fun W hh => lcBox X5 x5 W hh)
      have BX5 := Lib.hid (Below.refl (X5.heap.size + 1) (X5.alloc (.cells #[.int .i64 x5.w, .int .i64 x5.c, .int .i64 x5.r] 26)))
      have hT := T_4.out.trans (hb.mono T_4.out.size)
      have T5 := Lib.hid (hT.alloc hT.size (.cells #[.int .i64 x5.w, .int .i64 x5.c, .int .i64 x5.r] 26))
      have hs5 : (X5.alloc (.cells #[.int .i64 x5.w, .int .i64 x5.c, .int .i64 x5.r] 26)).heap.size = X5.heap.size + 1 := by simp
      have HR5 := Lib.hid (hr.below ((Below.refl _ _).alloc (Nat.le_refl _) (.cells #[.int .i64 x5.w, .int .i64 x5.c, .int .i64 x5.r] 26)) rfl)
      have HWp5 := Lib.hid (WalkArith.wf_i64 (n := p5) (by omega))
      have HWq5 := Lib.hid (WalkArith.wf_i64 (n := q5) (by omega))
      clear hr hb hT hwf HCode5 hsu
      obtain ⟨k0, k1, k2⟩ := HBX5.out _ BX5.out
      go_wp2_with fail
      refine (implSafetyAt_c (.slice (some ⟨va5, oa5, none⟩) l5.length ca5) l5 x5 p5 q5 _ HR5.out (by omega) HWp5.out HWq5.out).mono ?_
      rintro e Y6 ⟨rfl, b6⟩
      have HR_6 := Lib.hid (HR5.out.below b6 rfl)
      have BX_6 := Lib.hid (BX5.out.trans (b6.mono (by first | exact BX5.out.size | (have := BX5.out.size; omega))))
      have T_6 := Lib.hid (T5.out.trans (b6.mono T5.out.size))
      clear k0 k1 k2 b6 HR5 BX5 T5 
      obtain ⟨k0, k1, k2⟩ := HBX5.out _ BX_6.out
      go_wp2_with fail
      refine (specSafetyAt_c (.slice (some ⟨va5, oa5, none⟩) l5.length ca5) l5 x5 p5 q5 _ HR_6.out (by omega) HWp5.out HWq5.out).mono ?_
      rintro e Y7 ⟨rfl, b7⟩
      have HR_7 := Lib.hid (HR_6.out.below b7 rfl)
      have BX_7 := Lib.hid (BX_6.out.trans (b7.mono (by first | exact BX_6.out.size | (have := BX_6.out.size; omega))))
      have T_7 := Lib.hid (T_6.out.trans (b7.mono T_6.out.size))
      clear k0 k1 k2 b7 HR_6 BX_6 T_6 
      cases hsa : saOk l5 x5 p5 q5 with
      | false =>
        clear hsa
        have HCode8 := Lib.hid (HC.out.below T_7.out)
        go_wp2_with fail
        refine (DrawGreatestTension_any a len cap _ HCode8.out).mono ?_
        rintro e X8 ⟨v8, l8, x8, rfl, hr, hl8, hwf, hb, hbl⟩
        obtain ⟨va8, oa8, ca8, hv8, hla8, hm8, hsu⟩ := hr.sup (by omega)
        subst hv8
        have HBX8 := Lib.hid (fun W hh => lcBox X8 x8 W hh)
        have BX8 := Lib.hid (Below.refl (X8.heap.size + 1) (X8.alloc (.cells #[.int .i64 x8.w, .int .i64 x8.c, .int .i64 x8.r] 26)))
        have hT := T_7.out.trans (hb.mono T_7.out.size)
        have T8 := Lib.hid (hT.alloc hT.size (.cells #[.int .i64 x8.w, .int .i64 x8.c, .int .i64 x8.r] 26))
        have hs8 : (X8.alloc (.cells #[.int .i64 x8.w, .int .i64 x8.c, .int .i64 x8.r] 26)).heap.size = X8.heap.size + 1 := by simp
        have HR8 := Lib.hid (hr.below ((Below.refl _ _).alloc (Nat.le_refl _) (.cells #[.int .i64 x8.w, .int .i64 x8.c, .int .i64 x8.r] 26)) rfl)
        clear hr hb hT hwf hbl HCode8 hsu
        obtain ⟨k0, k1, k2⟩ := HBX8.out _ BX8.out
        go_wp2_with fail
        refine (implGreatestTension_c (.slice (some ⟨va8, oa8, none⟩) l8.length ca8) l8 x8 _ HR8.out (by omega)).mono ?_
        rintro e Y9 ⟨rfl, b9⟩
        have HR_9 := Lib.hid (HR8.out.below b9 rfl)
        have BX_9 := Lib.hid (BX8.out.trans (b9.mono (by first | exact BX8.out.size | (have := BX8.out.size; omega))))
        have T_9 := Lib.hid (T8.out.trans (b9.mono T8.out.size))
        clear k0 k1 k2 b9 HR8 BX8 T8 
        obtain ⟨k0, k1, k2⟩ := HBX8.out _ BX_9.out
        go_wp2_with fail
        refine (specGreatestTension_c (.slice (some ⟨va8, oa8, none⟩) l8.length ca8) l8 x8 _ HR_9.out (by omega)).mono ?_
        rintro e Y10 ⟨rfl, b10⟩
        have HR_10 := Lib.hid (HR_9.out.below b10 rfl)
        have BX_10 := Lib.hid (BX_9.out.trans (b10.mono (by first | exact BX_9.out.size | (have := BX_9.out.size; omega))))
        have T_10 := Lib.hid (T_9.out.trans (b10.mono T_9.out.size))
        clear k0 k1 k2 b10 HR_9 BX_9 T_9 
        have HCode11 := Lib.hid (HC.out.below T_10.out)
        go_wp2_with fail
        refine (DrawPressAt_any a len cap _ HCode11.out).mono ?_
        rintro e X11 ⟨v11, l11, x11, p11, rfl, hr, hl11, hp11, hwf, hb⟩
        obtain ⟨va11, oa11, ca11, hv11, hla11, hm11, hsu⟩ := hr.sup (by omega)
        subst hv11
        have HBX11 := Lib.hid (fun W hh => lcBox X11 x11 W hh)
        have BX11 := Lib.hid (Below.refl (X11.heap.size + 1) (X11.alloc (.cells #[.int .i64 x11.w, .int .i64 x11.c, .int .i64 x11.r] 26)))
        have hT := T_10.out.trans (hb.mono T_10.out.size)
        have T11 := Lib.hid (hT.alloc hT.size (.cells #[.int .i64 x11.w, .int .i64 x11.c, .int .i64 x11.r] 26))
        have hs11 : (X11.alloc (.cells #[.int .i64 x11.w, .int .i64 x11.c, .int .i64 x11.r] 26)).heap.size = X11.heap.size + 1 := by simp
        have HR11 := Lib.hid (hr.below ((Below.refl _ _).alloc (Nat.le_refl _) (.cells #[.int .i64 x11.w, .int .i64 x11.c, .int .i64 x11.r] 26)) rfl)
        have HWp11 := Lib.hid (WalkArith.wf_i64 (n := p11) (by omega))
        clear hr hb hT hwf HCode11 hsu
        obtain ⟨k0, k1, k2⟩ := HBX11.out _ BX11.out
        go_wp2_with fail
        refine (implPressAt_c (.slice (some ⟨va11, oa11, none⟩) l11.length ca11) l11 x11 p11 _ HR11.out (by omega) HWp11.out).mono ?_
        rintro e Y12 ⟨rfl, b12⟩
        have HR_12 := Lib.hid (HR11.out.below b12 rfl)
        have BX_12 := Lib.hid (BX11.out.trans (b12.mono (by first | exact BX11.out.size | (have := BX11.out.size; omega))))
        have T_12 := Lib.hid (T11.out.trans (b12.mono T11.out.size))
        clear k0 k1 k2 b12 HR11 BX11 T11 
        obtain ⟨k0, k1, k2⟩ := HBX11.out _ BX_12.out
        go_wp2_with fail
        refine (specPressAt_c (.slice (some ⟨va11, oa11, none⟩) l11.length ca11) l11 x11 p11 _ HR_12.out (by omega) HWp11.out).mono ?_
        rintro e Y13 ⟨rfl, b13⟩
        have HR_13 := Lib.hid (HR_12.out.below b13 rfl)
        have BX_13 := Lib.hid (BX_12.out.trans (b13.mono (by first | exact BX_12.out.size | (have := BX_12.out.size; omega))))
        have T_13 := Lib.hid (T_12.out.trans (b13.mono T_12.out.size))
        clear k0 k1 k2 b13 HR_12 BX_12 T_12 
        go_wp2
        go_ret
        exact ⟨rfl, T_13.out⟩
      | true =>
        have hsx : (tenOk l5 x5 x5.r = true ∧ inR p5 0 ((l5.length : Int) - 1) = true ∧ inR q5 1 1000000 = true) ∧ ten l5 x5 x5.r p5.toNat ≠ 0 := by
          unfold saOk saIn at hsa
          rw [Bool.and_eq_true, Bool.and_eq_true, Bool.and_eq_true, decide_eq_true_eq] at hsa
          exact ⟨⟨hsa.1.1.1, hsa.1.1.2, hsa.1.2⟩, hsa.2⟩
        obtain ⟨⟨e1, e2, e3⟩, e4⟩ := hsx
        have hV := sa_yes e1 e2 e3 e4
        have e2b := (inR_iff _ _ _).1 e2
        have e3b := (inR_iff _ _ _).1 e3
        obtain ⟨hL, hxx, hpos⟩ := tenOk_yes e1
        have h85 := hL.eight
        obtain ⟨z5, hz⟩ := Int.eq_ofNat_of_zero_le e2b.1
        subst hz
        rw [Int.toNat_natCast] at hV e4
        have hzl : z5 < l5.length := by omega
        have htb := ten_in hL hxx (f := x5.r) (by omega) hzl
        have ht0 := hpos z5 hzl
        rw [hV.1, hV.2.1]
        have hTL := tenL_yes e1
        have HTV : Hid ((intVs (tenK l5 x5 x5.r l5.length))[z5]? = some (.int .i64 (ten l5 x5 x5.r z5))) := Lib.hid (tenV_at hzl)
        clear hV e2 e3 hL hxx hpos hsa
        generalize ten l5 x5 x5.r z5 = TT at *
        have hTp : 0 < TT := by omega
        obtain ⟨k0, k1, k2⟩ := HBX5.out _ BX_7.out
        go_wp2_with fail
        refine (implUpTensions_c (.slice (some ⟨va5, oa5, none⟩) l5.length ca5) l5 x5 _ HR_7.out (by omega)).mono ?_
        rw [e1, hTL, tenK_len]
        rintro e Y14 ⟨gu, rfl, og14, b14⟩
        have HR_14 := Lib.hid (HR_7.out.below b14 rfl)
        have BX_14 := Lib.hid (BX_7.out.trans (b14.mono (by first | exact BX_7.out.size | (have := BX_7.out.size; omega))))
        have T_14 := Lib.hid (T_7.out.trans (b14.mono T_7.out.size))
        have O_gu_14 := Lib.hid og14
        clear k0 k1 k2 b14 og14 HR_7 BX_7 T_7 
        obtain ⟨ga5, cpa5, hgv, hga, hca, hma⟩ := own_shapeT O_gu_14.out (by omega)
        subst hgv
        have c0 := (O_gu_14.out.cellAt z5 (by omega)).trans HTV.out
        have r1 := rN_bd (n := q5) (d := TT) (B := 1000000) hTp (by omega) (by omega)
        have r2 := rD_le2 (n := q5) hTp
        have r3 := r_cross q5 TT
        have m1 := mul_bdS (a := rN q5 TT) (b := TT) (A := 1000000) (B := 17000000) r1.1 r1.2 (by omega) (by omega) (by omega)
        have m2 := mul_bdS (a := q5) (b := rD q5 TT) (A := 1000000) (B := 17000000) (by omega) (by omega) (by omega) (by omega) (by omega)
        generalize rN q5 TT = NN at *
        generalize rD q5 TT = DD at *
        generalize hP1 : NN * TT = P1 at *
        generalize hP2 : q5 * DD = P2 at *
        subst r3
        have s1 : IntKind.i64.wrap (NN * TT) = P1 := by rw [hP1]; exact IntWalk.i64_in _ (by omega)
        have s2 : IntKind.i64.wrap (q5 * DD) = P1 := by rw [hP2]; exact IntWalk.i64_in _ (by omega)
        have hzi : (z5 : Int) < (l5.length : Int) := by omega
        clear hP1 hP2 e1 hTL HTV
        have HCode15 := Lib.hid (HC.out.below T_14.out)
        go_wp2_with fail
        refine (DrawGreatestTension_any a len cap _ HCode15.out).mono ?_
        rintro e X15 ⟨v15, l15, x15, rfl, hr, hl15, hwf, hb, hbl⟩
        obtain ⟨va15, oa15, ca15, hv15, hla15, hm15, hsu⟩ := hr.sup (by omega)
        subst hv15
        have HBX15 := Lib.hid (fun W hh => lcBox X15 x15 W hh)
        have BX15 := Lib.hid (Below.refl (X15.heap.size + 1) (X15.alloc (.cells #[.int .i64 x15.w, .int .i64 x15.c, .int .i64 x15.r] 26)))
        have hT := T_14.out.trans (hb.mono T_14.out.size)
        have T15 := Lib.hid (hT.alloc hT.size (.cells #[.int .i64 x15.w, .int .i64 x15.c, .int .i64 x15.r] 26))
        have hs15 : (X15.alloc (.cells #[.int .i64 x15.w, .int .i64 x15.c, .int .i64 x15.r] 26)).heap.size = X15.heap.size + 1 := by simp
        have HR15 := Lib.hid (hr.below ((Below.refl _ _).alloc (Nat.le_refl _) (.cells #[.int .i64 x15.w, .int .i64 x15.c, .int .i64 x15.r] 26)) rfl)
        clear hr hb hT hwf hbl HCode15 hsu
        obtain ⟨k0, k1, k2⟩ := HBX15.out _ BX15.out
        go_wp2_with fail
        refine (implGreatestTension_c (.slice (some ⟨va15, oa15, none⟩) l15.length ca15) l15 x15 _ HR15.out (by omega)).mono ?_
        rintro e Y16 ⟨rfl, b16⟩
        have HR_16 := Lib.hid (HR15.out.below b16 rfl)
        have BX_16 := Lib.hid (BX15.out.trans (b16.mono (by first | exact BX15.out.size | (have := BX15.out.size; omega))))
        have T_16 := Lib.hid (T15.out.trans (b16.mono T15.out.size))
        clear k0 k1 k2 b16 HR15 BX15 T15 
        obtain ⟨k0, k1, k2⟩ := HBX15.out _ BX_16.out
        go_wp2_with fail
        refine (specGreatestTension_c (.slice (some ⟨va15, oa15, none⟩) l15.length ca15) l15 x15 _ HR_16.out (by omega)).mono ?_
        rintro e Y17 ⟨rfl, b17⟩
        have HR_17 := Lib.hid (HR_16.out.below b17 rfl)
        have BX_17 := Lib.hid (BX_16.out.trans (b17.mono (by first | exact BX_16.out.size | (have := BX_16.out.size; omega))))
        have T_17 := Lib.hid (T_16.out.trans (b17.mono T_16.out.size))
        clear k0 k1 k2 b17 HR_16 BX_16 T_16 
        have HCode18 := Lib.hid (HC.out.below T_17.out)
        go_wp2_with fail
        refine (DrawPressAt_any a len cap _ HCode18.out).mono ?_
        rintro e X18 ⟨v18, l18, x18, p18, rfl, hr, hl18, hp18, hwf, hb⟩
        obtain ⟨va18, oa18, ca18, hv18, hla18, hm18, hsu⟩ := hr.sup (by omega)
        subst hv18
        have HBX18 := Lib.hid (fun W hh => lcBox X18 x18 W hh)
        have BX18 := Lib.hid (Below.refl (X18.heap.size + 1) (X18.alloc (.cells #[.int .i64 x18.w, .int .i64 x18.c, .int .i64 x18.r] 26)))
        have hT := T_17.out.trans (hb.mono T_17.out.size)
        have T18 := Lib.hid (hT.alloc hT.size (.cells #[.int .i64 x18.w, .int .i64 x18.c, .int .i64 x18.r] 26))
        have hs18 : (X18.alloc (.cells #[.int .i64 x18.w, .int .i64 x18.c, .int .i64 x18.r] 26)).heap.size = X18.heap.size + 1 := by simp
        have HR18 := Lib.hid (hr.below ((Below.refl _ _).alloc (Nat.le_refl _) (.cells #[.int .i64 x18.w, .int .i64 x18.c, .int .i64 x18.r] 26)) rfl)
        have HWp18 := Lib.hid (WalkArith.wf_i64 (n := p18) (by omega))
        clear hr hb hT hwf HCode18 hsu
        obtain ⟨k0, k1, k2⟩ := HBX18.out _ BX18.out
        go_wp2_with fail
        refine (implPressAt_c (.slice (some ⟨va18, oa18, none⟩) l18.length ca18) l18 x18 p18 _ HR18.out (by omega) HWp18.out).mono ?_
        rintro e Y19 ⟨rfl, b19⟩
        have HR_19 := Lib.hid (HR18.out.below b19 rfl)
        have BX_19 := Lib.hid (BX18.out.trans (b19.mono (by first | exact BX18.out.size | (have := BX18.out.size; omega))))
        have T_19 := Lib.hid (T18.out.trans (b19.mono T18.out.size))
        clear k0 k1 k2 b19 HR18 BX18 T18 
        obtain ⟨k0, k1, k2⟩ := HBX18.out _ BX_19.out
        go_wp2_with fail
        refine (specPressAt_c (.slice (some ⟨va18, oa18, none⟩) l18.length ca18) l18 x18 p18 _ HR_19.out (by omega) HWp18.out).mono ?_
        rintro e Y20 ⟨rfl, b20⟩
        have HR_20 := Lib.hid (HR_19.out.below b20 rfl)
        have BX_20 := Lib.hid (BX_19.out.trans (b20.mono (by first | exact BX_19.out.size | (have := BX_19.out.size; omega))))
        have T_20 := Lib.hid (T_19.out.trans (b20.mono T_19.out.size))
        clear k0 k1 k2 b20 HR_19 BX_19 T_19 
        go_wp2
        go_ret
        exact ⟨rfl, T_20.out⟩
    | true =>
      have hOL := (ot_yes hot).1
      have hu : tenOk l1 x1 x1.r = true := by
        unfold otOk at hot
        rw [Bool.and_eq_true] at hot
        exact hot.1
      obtain ⟨hL, hxx, _⟩ := tenOk_yes hu
      have h81 := hL.eight
      have hTL := tenL_yes hu
      have HTV : Hid (∀ j, j < l1.length → (intVs (tenK l1 x1 x1.r l1.length))[j]? = some (.int .i64 (ten l1 x1 x1.r j))) := Lib.hid (fun j hj => tenV_at hj)
      have HOM : Hid (∀ j, j < l1.length → ((j : Int) ∈ otL l1 x1 q1 ↔ q1 < ten l1 x1 x1.r j)) := Lib.hid (fun j hj => by rw [hOL]; exact ov_mem hj)
      have hol := otL_len l1 x1 q1
      clear hL hxx hOL hot
      obtain ⟨k0, k1, k2⟩ := HBX1.out _ BX_4.out
      go_wp2_with fail
      refine (implUpTensions_c (.slice (some ⟨va1, oa1, none⟩) l1.length ca1) l1 x1 _ HR_4.out (by omega)).mono ?_
      rw [hu, hTL, tenK_len]
      rintro e Y21 ⟨gu, rfl, og21, b21⟩
      have HR_21 := Lib.hid (HR_4.out.below b21 rfl)
      have BX_21 := Lib.hid (BX_4.out.trans (b21.mono (by first | exact BX_4.out.size | (have := BX_4.out.size; omega))))
      have T_21 := Lib.hid (T_4.out.trans (b21.mono T_4.out.size))
      have O_g1_21 := Lib.hid (owns_below O_g1_4.out b21)
      have O_gu_21 := Lib.hid og21
      clear k0 k1 k2 b21 og21 HR_4 BX_4 T_4 O_g1_4
      obtain ⟨ga, cpa, hgv, hga, hca, hma⟩ := own_shapeT O_gu_21.out (by omega)
      subst hgv
      have HCe : Hid (∀ j, j < l1.length → Y21.cell? ⟨ga, j, none⟩ = some (.int .i64 (ten l1 x1 x1.r j))) := Lib.hid (fun j hj => (O_gu_21.out.cellAt j (by omega)).trans (HTV.out j hj))
      have HG1 := Lib.hid (Rd.of_own O_g1_21.out)
      clear hu hTL HTV
      generalize ten l1 x1 x1.r = tt at *
      generalize otL l1 x1 q1 = OL at *
      go_wp2
      go_loopw [12] (fun i wr => ∃ k : Nat, k ≤ l1.length ∧ i = .int .i64 k ∧ Drew Y21 wr) (fun i _ => l1.length - (intOf i).toNat)
      case atStart => exact ⟨0, Nat.zero_le _, rfl, Drew.refl _⟩
      case round =>
        obtain ⟨k, hk, rfl, hdr⟩ := hrel
        by_cases hlt : k < l1.length
        · have c0 := (hdr.cell ⟨ga, k, none⟩).trans (HCe.out k hlt)
          have hmem := HOM.out k hlt
          have hsz := hdr.size
          have hki : (k : Int) < (l1.length : Int) := by omega
          by_cases hT : q1 < tt k
          · have HH : Hid (∀ n, Calls Try.prog 21 #[g1, .int .i64 (k : Int)] (wr.drewN n) fun e w' => e = .returned (.bool true) ∧ w' = wr.drewN n) := Lib.hid (fun n => vHas_yes g1 OL _ _ ((HG1.out.below (hdr.below _) rfl).drewN n) hol (hmem.2 hT))
            have hd : decide (q1 < tt k) = true := by simpa using hT
            clear hT hmem
            generalize tt k = TK at *
            go_wp2_with fail
            go_quiet ((go_at_call 21; exact (HH.out _).mono fun _ _ h => ⟨h.1, _, h.2⟩))
            have HD := Lib.hid (Drew.trans hdr (c := wr.drewN nq) ⟨nq, rfl⟩)
            clear c0 hdr HH
            generalize wr.drewN nq = wq at *
            go_wp2
            go_roundw
            case rel => exact ⟨k + 1, by omega, by go_num, HD.out⟩
            case measure => simp [intOf]; omega
          · have HH : Hid (∀ n, Calls Try.prog 21 #[g1, .int .i64 (k : Int)] (wr.drewN n) fun e w' => e = .returned (.bool false) ∧ w' = wr.drewN n) := Lib.hid (fun n => vHas_no g1 OL _ _ ((HG1.out.below (hdr.below _) rfl).drewN n) hol (fun hh => hT (hmem.1 hh)))
            have hd : decide (q1 < tt k) = false := by simpa using hT
            clear hT hmem
            generalize tt k = TK at *
            go_wp2_with fail
            go_quiet ((go_at_call 21; exact (HH.out _).mono fun _ _ h => ⟨h.1, _, h.2⟩))
            have HD := Lib.hid (Drew.trans hdr (c := wr.drewN nq) ⟨nq, rfl⟩)
            clear c0 hdr HH
            generalize wr.drewN nq = wq at *
            go_wp2
            go_roundw
            case rel => exact ⟨k + 1, by omega, by go_num, HD.out⟩
            case measure => simp [intOf]; omega
        · have TE := Lib.hid (Drew.below_trans T_21.out hdr)
          clear hdr HR_21 BX_21 HCe HOM
          have HCode22 := Lib.hid (HC.out.below TE.out)
          go_wp2_with fail
          refine (DrawSafetyAt_any a len cap _ HCode22.out).mono ?_
          rintro e X22 ⟨v22, l22, x22, p22, q22, rfl, hr, hl22, hp22, hq22, hwf, hb⟩
          obtain ⟨va22, oa22, ca22, hv22, hla22, hm22, hsu⟩ := hr.sup (by omega)
          subst hv22
          have HBX22 := Lib.hid (fun W hh => lcBox X22 x22 W hh)
          have BX22 := Lib.hid (Below.refl (X22.heap.size + 1) (X22.alloc (.cells #[.int .i64 x22.w, .int .i64 x22.c, .int .i64 x22.r] 26)))
          have hT := TE.out.trans (hb.mono TE.out.size)
          have T22 := Lib.hid (hT.alloc hT.size (.cells #[.int .i64 x22.w, .int .i64 x22.c, .int .i64 x22.r] 26))
          have hs22 : (X22.alloc (.cells #[.int .i64 x22.w, .int .i64 x22.c, .int .i64 x22.r] 26)).heap.size = X22.heap.size + 1 := by simp
          have HR22 := Lib.hid (hr.below ((Below.refl _ _).alloc (Nat.le_refl _) (.cells #[.int .i64 x22.w, .int .i64 x22.c, .int .i64 x22.r] 26)) rfl)
          have HWp22 := Lib.hid (WalkArith.wf_i64 (n := p22) (by omega))
          have HWq22 := Lib.hid (WalkArith.wf_i64 (n := q22) (by omega))
          clear hr hb hT hwf HCode22 hsu
          obtain ⟨k0, k1, k2⟩ := HBX22.out _ BX22.out
          go_wp2_with fail
          refine (implSafetyAt_c (.slice (some ⟨va22, oa22, none⟩) l22.length ca22) l22 x22 p22 q22 _ HR22.out (by omega) HWp22.out HWq22.out).mono ?_
          rintro e Y23 ⟨rfl, b23⟩
          have HR_23 := Lib.hid (HR22.out.below b23 rfl)
          have BX_23 := Lib.hid (BX22.out.trans (b23.mono (by first | exact BX22.out.size | (have := BX22.out.size; omega))))
          have T_23 := Lib.hid (T22.out.trans (b23.mono T22.out.size))
          clear k0 k1 k2 b23 HR22 BX22 T22 
          obtain ⟨k0, k1, k2⟩ := HBX22.out _ BX_23.out
          go_wp2_with fail
          refine (specSafetyAt_c (.slice (some ⟨va22, oa22, none⟩) l22.length ca22) l22 x22 p22 q22 _ HR_23.out (by omega) HWp22.out HWq22.out).mono ?_
          rintro e Y24 ⟨rfl, b24⟩
          have HR_24 := Lib.hid (HR_23.out.below b24 rfl)
          have BX_24 := Lib.hid (BX_23.out.trans (b24.mono (by first | exact BX_23.out.size | (have := BX_23.out.size; omega))))
          have T_24 := Lib.hid (T_23.out.trans (b24.mono T_23.out.size))
          clear k0 k1 k2 b24 HR_23 BX_23 T_23 
          cases hsa : saOk l22 x22 p22 q22 with
          | false =>
            clear hsa
            have HCode25 := Lib.hid (HC.out.below T_24.out)
            go_wp2_with fail
            refine (DrawGreatestTension_any a len cap _ HCode25.out).mono ?_
            rintro e X25 ⟨v25, l25, x25, rfl, hr, hl25, hwf, hb, hbl⟩
            obtain ⟨va25, oa25, ca25, hv25, hla25, hm25, hsu⟩ := hr.sup (by omega)
            subst hv25
            have HBX25 := Lib.hid (fun W hh => lcBox X25 x25 W hh)
            have BX25 := Lib.hid (Below.refl (X25.heap.size + 1) (X25.alloc (.cells #[.int .i64 x25.w, .int .i64 x25.c, .int .i64 x25.r] 26)))
            have hT := T_24.out.trans (hb.mono T_24.out.size)
            have T25 := Lib.hid (hT.alloc hT.size (.cells #[.int .i64 x25.w, .int .i64 x25.c, .int .i64 x25.r] 26))
            have hs25 : (X25.alloc (.cells #[.int .i64 x25.w, .int .i64 x25.c, .int .i64 x25.r] 26)).heap.size = X25.heap.size + 1 := by simp
            have HR25 := Lib.hid (hr.below ((Below.refl _ _).alloc (Nat.le_refl _) (.cells #[.int .i64 x25.w, .int .i64 x25.c, .int .i64 x25.r] 26)) rfl)
            clear hr hb hT hwf hbl HCode25 hsu
            obtain ⟨k0, k1, k2⟩ := HBX25.out _ BX25.out
            go_wp2_with fail
            refine (implGreatestTension_c (.slice (some ⟨va25, oa25, none⟩) l25.length ca25) l25 x25 _ HR25.out (by omega)).mono ?_
            rintro e Y26 ⟨rfl, b26⟩
            have HR_26 := Lib.hid (HR25.out.below b26 rfl)
            have BX_26 := Lib.hid (BX25.out.trans (b26.mono (by first | exact BX25.out.size | (have := BX25.out.size; omega))))
            have T_26 := Lib.hid (T25.out.trans (b26.mono T25.out.size))
            clear k0 k1 k2 b26 HR25 BX25 T25 
            obtain ⟨k0, k1, k2⟩ := HBX25.out _ BX_26.out
            go_wp2_with fail
            refine (specGreatestTension_c (.slice (some ⟨va25, oa25, none⟩) l25.length ca25) l25 x25 _ HR_26.out (by omega)).mono ?_
            rintro e Y27 ⟨rfl, b27⟩
            have HR_27 := Lib.hid (HR_26.out.below b27 rfl)
            have BX_27 := Lib.hid (BX_26.out.trans (b27.mono (by first | exact BX_26.out.size | (have := BX_26.out.size; omega))))
            have T_27 := Lib.hid (T_26.out.trans (b27.mono T_26.out.size))
            clear k0 k1 k2 b27 HR_26 BX_26 T_26 
            have HCode28 := Lib.hid (HC.out.below T_27.out)
            go_wp2_with fail
            refine (DrawPressAt_any a len cap _ HCode28.out).mono ?_
            rintro e X28 ⟨v28, l28, x28, p28, rfl, hr, hl28, hp28, hwf, hb⟩
            obtain ⟨va28, oa28, ca28, hv28, hla28, hm28, hsu⟩ := hr.sup (by omega)
            subst hv28
            have HBX28 := Lib.hid (fun W hh => lcBox X28 x28 W hh)
            have BX28 := Lib.hid (Below.refl (X28.heap.size + 1) (X28.alloc (.cells #[.int .i64 x28.w, .int .i64 x28.c, .int .i64 x28.r] 26)))
            have hT := T_27.out.trans (hb.mono T_27.out.size)
            have T28 := Lib.hid (hT.alloc hT.size (.cells #[.int .i64 x28.w, .int .i64 x28.c, .int .i64 x28.r] 26))
            have hs28 : (X28.alloc (.cells #[.int .i64 x28.w, .int .i64 x28.c, .int .i64 x28.r] 26)).heap.size = X28.heap.size + 1 := by simp
            have HR28 := Lib.hid (hr.below ((Below.refl _ _).alloc (Nat.le_refl _) (.cells #[.int .i64 x28.w, .int .i64 x28.c, .int .i64 x28.r] 26)) rfl)
            have HWp28 := Lib.hid (WalkArith.wf_i64 (n := p28) (by omega))
            clear hr hb hT hwf HCode28 hsu
            obtain ⟨k0, k1, k2⟩ := HBX28.out _ BX28.out
            go_wp2_with fail
            refine (implPressAt_c (.slice (some ⟨va28, oa28, none⟩) l28.length ca28) l28 x28 p28 _ HR28.out (by omega) HWp28.out).mono ?_
            rintro e Y29 ⟨rfl, b29⟩
            have HR_29 := Lib.hid (HR28.out.below b29 rfl)
            have BX_29 := Lib.hid (BX28.out.trans (b29.mono (by first | exact BX28.out.size | (have := BX28.out.size; omega))))
            have T_29 := Lib.hid (T28.out.trans (b29.mono T28.out.size))
            clear k0 k1 k2 b29 HR28 BX28 T28 
            obtain ⟨k0, k1, k2⟩ := HBX28.out _ BX_29.out
            go_wp2_with fail
            refine (specPressAt_c (.slice (some ⟨va28, oa28, none⟩) l28.length ca28) l28 x28 p28 _ HR_29.out (by omega) HWp28.out).mono ?_
            rintro e Y30 ⟨rfl, b30⟩
            have HR_30 := Lib.hid (HR_29.out.below b30 rfl)
            have BX_30 := Lib.hid (BX_29.out.trans (b30.mono (by first | exact BX_29.out.size | (have := BX_29.out.size; omega))))
            have T_30 := Lib.hid (T_29.out.trans (b30.mono T_29.out.size))
            clear k0 k1 k2 b30 HR_29 BX_29 T_29 
            go_wp2
            go_ret
            exact ⟨rfl, T_30.out⟩
          | true =>
            have hsx : (tenOk l22 x22 x22.r = true ∧ inR p22 0 ((l22.length : Int) - 1) = true ∧ inR q22 1 1000000 = true) ∧ ten l22 x22 x22.r p22.toNat ≠ 0 := by
              unfold saOk saIn at hsa
              rw [Bool.and_eq_true, Bool.and_eq_true, Bool.and_eq_true, decide_eq_true_eq] at hsa
              exact ⟨⟨hsa.1.1.1, hsa.1.1.2, hsa.1.2⟩, hsa.2⟩
            obtain ⟨⟨e1, e2, e3⟩, e4⟩ := hsx
            have hV := sa_yes e1 e2 e3 e4
            have e2b := (inR_iff _ _ _).1 e2
            have e3b := (inR_iff _ _ _).1 e3
            obtain ⟨hL, hxx, hpos⟩ := tenOk_yes e1
            have h822 := hL.eight
            obtain ⟨z22, hz⟩ := Int.eq_ofNat_of_zero_le e2b.1
            subst hz
            rw [Int.toNat_natCast] at hV e4
            have hzl : z22 < l22.length := by omega
            have htb := ten_in hL hxx (f := x22.r) (by omega) hzl
            have ht0 := hpos z22 hzl
            rw [hV.1, hV.2.1]
            have hTL := tenL_yes e1
            have HTV : Hid ((intVs (tenK l22 x22 x22.r l22.length))[z22]? = some (.int .i64 (ten l22 x22 x22.r z22))) := Lib.hid (tenV_at hzl)
            clear hV e2 e3 hL hxx hpos hsa
            generalize ten l22 x22 x22.r z22 = TT at *
            have hTp : 0 < TT := by omega
            obtain ⟨k0, k1, k2⟩ := HBX22.out _ BX_24.out
            go_wp2_with fail
            refine (implUpTensions_c (.slice (some ⟨va22, oa22, none⟩) l22.length ca22) l22 x22 _ HR_24.out (by omega)).mono ?_
            rw [e1, hTL, tenK_len]
            rintro e Y31 ⟨gu, rfl, og31, b31⟩
            have HR_31 := Lib.hid (HR_24.out.below b31 rfl)
            have BX_31 := Lib.hid (BX_24.out.trans (b31.mono (by first | exact BX_24.out.size | (have := BX_24.out.size; omega))))
            have T_31 := Lib.hid (T_24.out.trans (b31.mono T_24.out.size))
            have O_gu_31 := Lib.hid og31
            clear k0 k1 k2 b31 og31 HR_24 BX_24 T_24 
            obtain ⟨ga22, cpa22, hgv, hga, hca, hma⟩ := own_shapeT O_gu_31.out (by omega)
            subst hgv
            have c0 := (O_gu_31.out.cellAt z22 (by omega)).trans HTV.out
            have r1 := rN_bd (n := q22) (d := TT) (B := 1000000) hTp (by omega) (by omega)
            have r2 := rD_le2 (n := q22) hTp
            have r3 := r_cross q22 TT
            have m1 := mul_bdS (a := rN q22 TT) (b := TT) (A := 1000000) (B := 17000000) r1.1 r1.2 (by omega) (by omega) (by omega)
            have m2 := mul_bdS (a := q22) (b := rD q22 TT) (A := 1000000) (B := 17000000) (by omega) (by omega) (by omega) (by omega) (by omega)
            generalize rN q22 TT = NN at *
            generalize rD q22 TT = DD at *
            generalize hP1 : NN * TT = P1 at *
            generalize hP2 : q22 * DD = P2 at *
            subst r3
            have s1 : IntKind.i64.wrap (NN * TT) = P1 := by rw [hP1]; exact IntWalk.i64_in _ (by omega)
            have s2 : IntKind.i64.wrap (q22 * DD) = P1 := by rw [hP2]; exact IntWalk.i64_in _ (by omega)
            have hzi : (z22 : Int) < (l22.length : Int) := by omega
            clear hP1 hP2 e1 hTL HTV
            have HCode32 := Lib.hid (HC.out.below T_31.out)
            go_wp2_with fail
            refine (DrawGreatestTension_any a len cap _ HCode32.out).mono ?_
            rintro e X32 ⟨v32, l32, x32, rfl, hr, hl32, hwf, hb, hbl⟩
            obtain ⟨va32, oa32, ca32, hv32, hla32, hm32, hsu⟩ := hr.sup (by omega)
            subst hv32
            have HBX32 := Lib.hid (fun W hh => lcBox X32 x32 W hh)
            have BX32 := Lib.hid (Below.refl (X32.heap.size + 1) (X32.alloc (.cells #[.int .i64 x32.w, .int .i64 x32.c, .int .i64 x32.r] 26)))
            have hT := T_31.out.trans (hb.mono T_31.out.size)
            have T32 := Lib.hid (hT.alloc hT.size (.cells #[.int .i64 x32.w, .int .i64 x32.c, .int .i64 x32.r] 26))
            have hs32 : (X32.alloc (.cells #[.int .i64 x32.w, .int .i64 x32.c, .int .i64 x32.r] 26)).heap.size = X32.heap.size + 1 := by simp
            have HR32 := Lib.hid (hr.below ((Below.refl _ _).alloc (Nat.le_refl _) (.cells #[.int .i64 x32.w, .int .i64 x32.c, .int .i64 x32.r] 26)) rfl)
            clear hr hb hT hwf hbl HCode32 hsu
            obtain ⟨k0, k1, k2⟩ := HBX32.out _ BX32.out
            go_wp2_with fail
            refine (implGreatestTension_c (.slice (some ⟨va32, oa32, none⟩) l32.length ca32) l32 x32 _ HR32.out (by omega)).mono ?_
            rintro e Y33 ⟨rfl, b33⟩
            have HR_33 := Lib.hid (HR32.out.below b33 rfl)
            have BX_33 := Lib.hid (BX32.out.trans (b33.mono (by first | exact BX32.out.size | (have := BX32.out.size; omega))))
            have T_33 := Lib.hid (T32.out.trans (b33.mono T32.out.size))
            clear k0 k1 k2 b33 HR32 BX32 T32 
            obtain ⟨k0, k1, k2⟩ := HBX32.out _ BX_33.out
            go_wp2_with fail
            refine (specGreatestTension_c (.slice (some ⟨va32, oa32, none⟩) l32.length ca32) l32 x32 _ HR_33.out (by omega)).mono ?_
            rintro e Y34 ⟨rfl, b34⟩
            have HR_34 := Lib.hid (HR_33.out.below b34 rfl)
            have BX_34 := Lib.hid (BX_33.out.trans (b34.mono (by first | exact BX_33.out.size | (have := BX_33.out.size; omega))))
            have T_34 := Lib.hid (T_33.out.trans (b34.mono T_33.out.size))
            clear k0 k1 k2 b34 HR_33 BX_33 T_33 
            have HCode35 := Lib.hid (HC.out.below T_34.out)
            go_wp2_with fail
            refine (DrawPressAt_any a len cap _ HCode35.out).mono ?_
            rintro e X35 ⟨v35, l35, x35, p35, rfl, hr, hl35, hp35, hwf, hb⟩
            obtain ⟨va35, oa35, ca35, hv35, hla35, hm35, hsu⟩ := hr.sup (by omega)
            subst hv35
            have HBX35 := Lib.hid (fun W hh => lcBox X35 x35 W hh)
            have BX35 := Lib.hid (Below.refl (X35.heap.size + 1) (X35.alloc (.cells #[.int .i64 x35.w, .int .i64 x35.c, .int .i64 x35.r] 26)))
            have hT := T_34.out.trans (hb.mono T_34.out.size)
            have T35 := Lib.hid (hT.alloc hT.size (.cells #[.int .i64 x35.w, .int .i64 x35.c, .int .i64 x35.r] 26))
            have hs35 : (X35.alloc (.cells #[.int .i64 x35.w, .int .i64 x35.c, .int .i64 x35.r] 26)).heap.size = X35.heap.size + 1 := by simp
            have HR35 := Lib.hid (hr.below ((Below.refl _ _).alloc (Nat.le_refl _) (.cells #[.int .i64 x35.w, .int .i64 x35.c, .int .i64 x35.r] 26)) rfl)
            have HWp35 := Lib.hid (WalkArith.wf_i64 (n := p35) (by omega))
            clear hr hb hT hwf HCode35 hsu
            obtain ⟨k0, k1, k2⟩ := HBX35.out _ BX35.out
            go_wp2_with fail
            refine (implPressAt_c (.slice (some ⟨va35, oa35, none⟩) l35.length ca35) l35 x35 p35 _ HR35.out (by omega) HWp35.out).mono ?_
            rintro e Y36 ⟨rfl, b36⟩
            have HR_36 := Lib.hid (HR35.out.below b36 rfl)
            have BX_36 := Lib.hid (BX35.out.trans (b36.mono (by first | exact BX35.out.size | (have := BX35.out.size; omega))))
            have T_36 := Lib.hid (T35.out.trans (b36.mono T35.out.size))
            clear k0 k1 k2 b36 HR35 BX35 T35 
            obtain ⟨k0, k1, k2⟩ := HBX35.out _ BX_36.out
            go_wp2_with fail
            refine (specPressAt_c (.slice (some ⟨va35, oa35, none⟩) l35.length ca35) l35 x35 p35 _ HR_36.out (by omega) HWp35.out).mono ?_
            rintro e Y37 ⟨rfl, b37⟩
            have HR_37 := Lib.hid (HR_36.out.below b37 rfl)
            have BX_37 := Lib.hid (BX_36.out.trans (b37.mono (by first | exact BX_36.out.size | (have := BX_36.out.size; omega))))
            have T_37 := Lib.hid (T_36.out.trans (b37.mono T_36.out.size))
            clear k0 k1 k2 b37 HR_36 BX_36 T_36 
            go_wp2
            go_ret
            exact ⟨rfl, T_37.out⟩
end Go.Proofs.Ytdnmmafnjhgeiaa
