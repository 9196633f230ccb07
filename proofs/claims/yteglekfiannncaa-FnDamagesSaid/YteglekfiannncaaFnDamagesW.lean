/- The law FnDamages: its walk. Condition: sizes. -/
import Derived.Test.YteglekfiannncaaDrawAddD
import Derived.Test.YteglekfiannncaaDrawVer
import Derived.Test.YteglekfiannncaaDrawIsK
import Derived.Test.YteglekfiannncaaDmgBack
import Derived.Test.YteglekfiannncaaDmgLaw
import Derived.Test.YteglekfiannncaaAddImplC
import Derived.Test.YteglekfiannncaaBrokenC
import Derived.WalkArith
import Derived.Deep.RegionHeld3
namespace Go.Proofs.Yteglekfiannncaa
open Go.RowKit
set_option linter.unusedVariables false
theorem boxK {V U : World} {g : Nat} {x0 x1 x2 x3 x4 : Value} {t : TypeId} (K : V.heap[g]? = some (.cells #[x0, x1, x2, x3, x4] t (0, 0))) (hb : Below V.heap.size V U) :
    U.cell? ⟨g, 0, none⟩ = some x0 ∧ U.cell? ⟨g, 1, none⟩ = some x1 ∧ U.cell? ⟨g, 2, none⟩ = some x2 ∧ U.cell? ⟨g, 3, none⟩ = some x3 ∧ U.cell? ⟨g, 4, none⟩ = some x4 := box5 ((hb.block g ((Array.getElem?_eq_some_iff.1 K).1)).trans K)
theorem boxD {V U : World} {g : Nat} {x0 x1 x2 : Value} {t : TypeId} (K : V.heap[g]? = some (.cells #[x0, x1, x2] t (0, 0))) (hb : Below V.heap.size V U) :
    U.cell? ⟨g, 0, none⟩ = some x0 ∧ U.cell? ⟨g, 1, none⟩ = some x1 ∧ U.cell? ⟨g, 2, none⟩ = some x2 := (box3 ((hb.block g ((Array.getElem?_eq_some_iff.1 K).1)).trans K)).1
theorem two_box (V : World) (o p : Obj) : ((V.alloc o).alloc p).heap[V.heap.size]? = some o ∧ ((V.alloc o).alloc p).heap[V.heap.size + 1]? = some p := ⟨old_allocD (heap_alloc_new V o), by
  have h := heap_alloc_new (V.alloc o) p
  have e : (V.alloc o).heap.size = V.heap.size + 1 := by simp
  rw [e] at h
  exact h⟩
set_option maxRecDepth 100000 in
set_option maxHeartbeats 8000000 in
theorem FnDamages_walk (a : Option Addr) (len cap : Nat) (w : World) (h : ByteRow w a len) :
    Calls Try.prog 5 #[.slice a len cap] w fun e w' => e = .returned (.bool true) ∧ Below w.heap.size w w' := by
  have hm := h.1
  have HC := Lib.hid h
  clear h
  by_cases hbig : 65536 < len
  · go_enter Try.func5, Try.ntmps5
    go_wp2_with fail
    refine (rBig_yes a len cap _ hbig hm).mono ?_
    rintro e w' ⟨rfl, rfl⟩
    go_wp2_with fail
    go_ret
    exact ⟨rfl, Below.refl _ _⟩
  · go_enter Try.func5, Try.ntmps5
    go_wp2_with fail
    refine (rBig_no a len cap _ (by omega)).mono ?_
    rintro e w' ⟨rfl, rfl⟩
    have T0 := Lib.hid (Below.refl w.heap.size w)
    go_wp2_with fail
    refine (DrawAddDamage_any a len cap _ HC.out).mono ?_
    rintro e V1 ⟨x, v, l, d, rfl, ⟨B, ho⟩, hl, hwf, b1⟩
    unfold RK.agg
    have T1 := Lib.hid (T0.out.trans (b1.mono T0.out.size))
    clear b1
    have HO := Lib.hid ho
    clear ho
    go_upto_region 4 with fail
    have HK := Lib.hid (two_box V1 (.cells #[.int .i64 x.i, .int .i64 x.s, .int .i64 x.w, .int .i64 x.g, .int .i64 x.p] 47) (.cells #[.int .i64 d.a, .int .i64 d.s, .int .i64 d.w] 55)).1
    have HR := Lib.hid (two_box V1 (.cells #[.int .i64 x.i, .int .i64 x.s, .int .i64 x.w, .int .i64 x.g, .int .i64 x.p] 47) (.cells #[.int .i64 d.a, .int .i64 d.s, .int .i64 d.w] 55)).2
    have HB : Hid (Below V1.heap.size V1 ((V1.alloc (.cells #[.int .i64 x.i, .int .i64 x.s, .int .i64 x.w, .int .i64 x.g, .int .i64 x.p] 47)).alloc (.cells #[.int .i64 d.a, .int .i64 d.s, .int .i64 d.w] 55))) := Lib.hid (((Below.refl _ _).alloc (Nat.le_refl _) _).alloc (by simp) _)
    generalize hV2 : (V1.alloc (.cells #[.int .i64 x.i, .int .i64 x.s, .int .i64 x.w, .int .i64 x.g, .int .i64 x.p] 47)).alloc (.cells #[.int .i64 d.a, .int .i64 d.s, .int .i64 d.w] 55) = V2 at *
    clear hV2
    have T2 := Lib.hid (T1.out.trans (HB.out.mono T1.out.size))
    have HO := Lib.hid (owns_below HO.out HB.out)
    have D2 := Lib.hid (Below.refl V2.heap.size V2)
    clear HB
    obtain ⟨y0, y1, y2, y3, y4⟩ := boxK HK.out D2.out
    obtain ⟨u0, u1, u2⟩ := boxD HR.out D2.out
    go_wp2_with fail
    refine (implAddDamage_c x v l d _ B hwf HO.out (by omega)).mono ?_
    rintro e V3 ⟨vg, rfl, og, b3⟩
    have T3 := Lib.hid (T2.out.trans (b3.mono T2.out.size))
    have HO := Lib.hid (owns_below HO.out b3)
    have D3 := Lib.hid (D2.out.trans (b3.mono D2.out.size))
    clear b3
    have OG := Lib.hid og
    clear og
    clear y0 y1 y2 y3 y4 u0 u1 u2
    obtain ⟨y0, y1, y2, y3, y4⟩ := boxK HK.out D3.out
    obtain ⟨u0, u1, u2⟩ := boxD HR.out D3.out
    go_wp2_with fail
    refine (specAddDamage_c x v l d _ B HO.out (by omega)).mono ?_
    rintro e V4 ⟨vw, rfl, ow, b4⟩
    have T4 := Lib.hid (T3.out.trans (b4.mono T3.out.size))
    have HO := Lib.hid (owns_below HO.out b4)
    have OG := Lib.hid (owns_below OG.out b4)
    have D4 := Lib.hid (D3.out.trans (b4.mono D3.out.size))
    clear b4
    have OW := Lib.hid ow
    clear ow
    clear y0 y1 y2 y3 y4 u0 u1 u2
    have hal := adR_len x l d
    cases hok : adOk x l d with
    | false =>
      go_wp2_with fail
      refine (rDamages_same vg vw (adR x l d) _ (Rs.of_own OG.out) (Rs.of_own OW.out)).mono ?_
      rintro e V5 ⟨rfl, b5⟩
      have T5 := Lib.hid (T4.out.trans (b5.mono T4.out.size))
      have D5 := Lib.hid (D4.out.trans (b5.mono D4.out.size))
      clear b5
      clear OG OW HO HK HR
      have HCode5 := Lib.hid (HC.out.below T5.out)
      go_wp2_with fail
      refine (DrawRopeVerdict_any a len cap _ HCode5.out).mono ?_
      rintro e V6 ⟨z, vy, ly, rfl, hry, hly, _, b6⟩
      unfold RK.agg
      have T6 := Lib.hid (T5.out.trans (b6.mono T5.out.size))
      clear b6
      have RY := Lib.hid hry
      clear hry
      go_upto_region 14 with fail
      have HZ := Lib.hid (heap_alloc_new V6 (.cells #[.int .i64 z.i, .int .i64 z.s, .int .i64 z.w, .int .i64 z.g, .int .i64 z.p] 47))
      have HB : Hid (Below V6.heap.size V6 (V6.alloc (.cells #[.int .i64 z.i, .int .i64 z.s, .int .i64 z.w, .int .i64 z.g, .int .i64 z.p] 47))) := Lib.hid ((Below.refl _ _).alloc (Nat.le_refl _) _)
      generalize hV7 : V6.alloc (.cells #[.int .i64 z.i, .int .i64 z.s, .int .i64 z.w, .int .i64 z.g, .int .i64 z.p] 47) = V7 at *
      clear hV7
      have T7 := Lib.hid (T6.out.trans (HB.out.mono T6.out.size))
      have RY := Lib.hid (RY.out.below HB.out rfl)
      have D7 := Lib.hid (Below.refl V7.heap.size V7)
      clear HB
      cases hg : good z ly with
      | false =>
        have hsl := sl_no hg
        obtain ⟨y0, y1, y2, y3, y4⟩ := boxK HZ.out D7.out
        go_wp2_with fail
        refine (implRopeVerdict_c z vy ly _ RY.out (by omega)).mono ?_
        rw [vd_no hg, hg]
        rintro e V8 ⟨rfl, b8⟩
        have T8 := Lib.hid (T7.out.trans (b8.mono T7.out.size))
        have RY := Lib.hid (RY.out.below b8 rfl)
        have D8 := Lib.hid (D7.out.trans (b8.mono D7.out.size))
        clear b8
        clear y0 y1 y2 y3 y4
        obtain ⟨y0, y1, y2, y3, y4⟩ := boxK HZ.out D8.out
        go_wp2_with fail
        refine (specRopeVerdict_c z vy ly _ RY.out (by omega)).mono ?_
        rw [vd_no hg, hg]
        rintro e V9 ⟨rfl, b9⟩
        have T9 := Lib.hid (T8.out.trans (b9.mono T8.out.size))
        have RY := Lib.hid (RY.out.below b9 rfl)
        have D9 := Lib.hid (D8.out.trans (b9.mono D8.out.size))
        clear b9
        clear y0 y1 y2 y3 y4
        obtain ⟨y0, y1, y2, y3, y4⟩ := boxK HZ.out D9.out
        go_wp2_with fail
        refine (implAreDamages_c z vy ly _ RY.out (by omega)).mono ?_
        rw [hg]
        rintro e V10 ⟨rfl, b10⟩
        have T10 := Lib.hid (T9.out.trans (b10.mono T9.out.size))
        have RY := Lib.hid (RY.out.below b10 rfl)
        have D10 := Lib.hid (D9.out.trans (b10.mono D9.out.size))
        clear b10
        clear y0 y1 y2 y3 y4
        obtain ⟨y0, y1, y2, y3, y4⟩ := boxK HZ.out D10.out
        go_wp2_with fail
        refine (implStrengthLeft_c z vy ly _ RY.out (by omega)).mono ?_
        rw [hsl, hg]
        rintro e V11 ⟨rfl, b11⟩
        have T11 := Lib.hid (T10.out.trans (b11.mono T10.out.size))
        have RY := Lib.hid (RY.out.below b11 rfl)
        have D11 := Lib.hid (D10.out.trans (b11.mono D10.out.size))
        clear b11
        clear y0 y1 y2 y3 y4
        obtain ⟨y0, y1, y2, y3, y4⟩ := boxK HZ.out D11.out
        go_wp2_with fail
        refine (specStrengthLeft_c z vy ly _ RY.out (by omega)).mono ?_
        rw [hsl, hg]
        rintro e V12 ⟨rfl, b12⟩
        have T12 := Lib.hid (T11.out.trans (b12.mono T11.out.size))
        have RY := Lib.hid (RY.out.below b12 rfl)
        have D12 := Lib.hid (D11.out.trans (b12.mono D11.out.size))
        clear b12
        clear y0 y1 y2 y3 y4
        obtain ⟨y0, y1, y2, y3, y4⟩ := boxK HZ.out D12.out
        skip
        have HCode12 := Lib.hid (HC.out.below T12.out)
        go_wp2_with fail
        refine (DrawIsRopeKind_any a len cap _ HCode12.out).mono ?_
        rintro e V13 ⟨r, rfl, b13⟩
        unfold RK.agg
        have T13 := Lib.hid (T12.out.trans (b13.mono T12.out.size))
        clear b13
        go_upto_region 25 with fail
        have HQ := Lib.hid (heap_alloc_new V13 (.cells #[.int .i64 r.i, .int .i64 r.s, .int .i64 r.w, .int .i64 r.g, .int .i64 r.p] 47))
        have HB : Hid (Below V13.heap.size V13 (V13.alloc (.cells #[.int .i64 r.i, .int .i64 r.s, .int .i64 r.w, .int .i64 r.g, .int .i64 r.p] 47))) := Lib.hid ((Below.refl _ _).alloc (Nat.le_refl _) _)
        generalize hV14 : V13.alloc (.cells #[.int .i64 r.i, .int .i64 r.s, .int .i64 r.w, .int .i64 r.g, .int .i64 r.p] 47) = V14 at *
        clear hV14
        have T14 := Lib.hid (T13.out.trans (HB.out.mono T13.out.size))
        clear HB
        have hkp : ∀ W, Below V14.heap.size V14 W → Below V14.heap.size V14 W ∧ _ := fun W hW => ⟨hW, boxK HQ.out hW⟩
        have g00 := hkp V14 (Below.refl _ _)
        have gdw := hkp V14.drew (Below.refl _ _).drew
        go_region_held3 (fun w' => Below V14.heap.size V14 w' ∧ w'.cell? ⟨V13.heap.size, 0, none⟩ = some (.int .i64 r.i) ∧ w'.cell? ⟨V13.heap.size, 1, none⟩ = some (.int .i64 r.s) ∧ w'.cell? ⟨V13.heap.size, 2, none⟩ = some (.int .i64 r.w) ∧ w'.cell? ⟨V13.heap.size, 3, none⟩ = some (.int .i64 r.g) ∧ w'.cell? ⟨V13.heap.size, 4, none⟩ = some (.int .i64 r.p)) (exact hkp _ (by (first | exact Below.refl _ _ | exact (Below.refl _ _).drew | (go_split_ands; refine Below.trans ?_ (Below.mono bq (Below.size (B := V14.heap.size) ?_)) <;> assumption) | (go_split_ands; refine Below.trans ?_ (Below.mono bp (Below.size (B := V14.heap.size) ?_)) <;> assumption) | (go_split_ands; refine Below.drew ?_; assumption) | fail)))
          (first
            | (go_at_call 54; refine (implIsRopeKind_c r _).mono ?_; rintro e Wp ⟨rfl, bp⟩)
            | (go_at_call 55; refine (specIsRopeKind_c r _).mono ?_; rintro e Wq ⟨rfl, bq⟩)
            | fail)
        all_goals go_wp2
        all_goals go_ret
        all_goals refine ⟨rfl, T14.out.trans (Below.mono ?_ T14.out.size)⟩
        all_goals (go_split_ands; assumption)
      | true =>
        have hG9 := good_yes hg
        obtain ⟨e1, e2, e3, e4, e5⟩ := sl_val hG9
        have e6 := allK_bd hG9.kind
        obtain ⟨nn, hnn⟩ : ∃ nn, nn = slV z ly := ⟨_, rfl⟩
        have hsl : slV z ly = nn := hnn.symm
        rw [sl_yes hg, e1] at hnn
        have n0 : 0 ≤ nn := by omega
        have n1 : nn ≤ z.p := by omega
        have k1 : decide (nn < 0) = false := by rw [decide_eq_false_iff_not]; omega
        have k2 : decide (z.p < nn) = false := by rw [decide_eq_false_iff_not]; omega
        clear e1 e2 e3 e4 e5 hnn
        cases h10 : tmB z ly 10 with
        | true =>
          obtain ⟨y0, y1, y2, y3, y4⟩ := boxK HZ.out D7.out
          go_wp2_with fail
          refine (implRopeVerdict_c z vy ly _ RY.out (by omega)).mono ?_
          rw [vd_r hg h10, hg]
          rintro e V15 ⟨rfl, b15⟩
          have T15 := Lib.hid (T7.out.trans (b15.mono T7.out.size))
          have RY := Lib.hid (RY.out.below b15 rfl)
          have D15 := Lib.hid (D7.out.trans (b15.mono D7.out.size))
          clear b15
          clear y0 y1 y2 y3 y4
          obtain ⟨y0, y1, y2, y3, y4⟩ := boxK HZ.out D15.out
          go_wp2_with fail
          refine (specRopeVerdict_c z vy ly _ RY.out (by omega)).mono ?_
          rw [vd_r hg h10, hg]
          rintro e V16 ⟨rfl, b16⟩
          have T16 := Lib.hid (T15.out.trans (b16.mono T15.out.size))
          have RY := Lib.hid (RY.out.below b16 rfl)
          have D16 := Lib.hid (D15.out.trans (b16.mono D15.out.size))
          clear b16
          clear y0 y1 y2 y3 y4
          obtain ⟨y0, y1, y2, y3, y4⟩ := boxK HZ.out D16.out
          go_wp2_with fail
          refine (implAreDamages_c z vy ly _ RY.out (by omega)).mono ?_
          rw [hg]
          rintro e V17 ⟨rfl, b17⟩
          have T17 := Lib.hid (T16.out.trans (b17.mono T16.out.size))
          have RY := Lib.hid (RY.out.below b17 rfl)
          have D17 := Lib.hid (D16.out.trans (b17.mono D16.out.size))
          clear b17
          clear y0 y1 y2 y3 y4
          obtain ⟨y0, y1, y2, y3, y4⟩ := boxK HZ.out D17.out
          go_wp2_with fail
          refine (implStrengthLeft_c z vy ly _ RY.out (by omega)).mono ?_
          rw [hsl, hg]
          rintro e V18 ⟨rfl, b18⟩
          have T18 := Lib.hid (T17.out.trans (b18.mono T17.out.size))
          have RY := Lib.hid (RY.out.below b18 rfl)
          have D18 := Lib.hid (D17.out.trans (b18.mono D17.out.size))
          clear b18
          clear y0 y1 y2 y3 y4
          obtain ⟨y0, y1, y2, y3, y4⟩ := boxK HZ.out D18.out
          go_wp2_with fail
          refine (specStrengthLeft_c z vy ly _ RY.out (by omega)).mono ?_
          rw [hsl, hg]
          rintro e V19 ⟨rfl, b19⟩
          have T19 := Lib.hid (T18.out.trans (b19.mono T18.out.size))
          have RY := Lib.hid (RY.out.below b19 rfl)
          have D19 := Lib.hid (D18.out.trans (b19.mono D18.out.size))
          clear b19
          clear y0 y1 y2 y3 y4
          obtain ⟨y0, y1, y2, y3, y4⟩ := boxK HZ.out D19.out
          unfold replaceB
          have HCode19 := Lib.hid (HC.out.below T19.out)
          go_wp2_with fail
          refine (DrawIsRopeKind_any a len cap _ HCode19.out).mono ?_
          rintro e V20 ⟨r, rfl, b20⟩
          unfold RK.agg
          have T20 := Lib.hid (T19.out.trans (b20.mono T19.out.size))
          clear b20
          go_upto_region 25 with fail
          have HQ := Lib.hid (heap_alloc_new V20 (.cells #[.int .i64 r.i, .int .i64 r.s, .int .i64 r.w, .int .i64 r.g, .int .i64 r.p] 47))
          have HB : Hid (Below V20.heap.size V20 (V20.alloc (.cells #[.int .i64 r.i, .int .i64 r.s, .int .i64 r.w, .int .i64 r.g, .int .i64 r.p] 47))) := Lib.hid ((Below.refl _ _).alloc (Nat.le_refl _) _)
          generalize hV21 : V20.alloc (.cells #[.int .i64 r.i, .int .i64 r.s, .int .i64 r.w, .int .i64 r.g, .int .i64 r.p] 47) = V21 at *
          clear hV21
          have T21 := Lib.hid (T20.out.trans (HB.out.mono T20.out.size))
          clear HB
          have hkp : ∀ W, Below V21.heap.size V21 W → Below V21.heap.size V21 W ∧ _ := fun W hW => ⟨hW, boxK HQ.out hW⟩
          have g00 := hkp V21 (Below.refl _ _)
          have gdw := hkp V21.drew (Below.refl _ _).drew
          go_region_held3 (fun w' => Below V21.heap.size V21 w' ∧ w'.cell? ⟨V20.heap.size, 0, none⟩ = some (.int .i64 r.i) ∧ w'.cell? ⟨V20.heap.size, 1, none⟩ = some (.int .i64 r.s) ∧ w'.cell? ⟨V20.heap.size, 2, none⟩ = some (.int .i64 r.w) ∧ w'.cell? ⟨V20.heap.size, 3, none⟩ = some (.int .i64 r.g) ∧ w'.cell? ⟨V20.heap.size, 4, none⟩ = some (.int .i64 r.p)) (exact hkp _ (by (first | exact Below.refl _ _ | exact (Below.refl _ _).drew | (go_split_ands; refine Below.trans ?_ (Below.mono bq (Below.size (B := V21.heap.size) ?_)) <;> assumption) | (go_split_ands; refine Below.trans ?_ (Below.mono bp (Below.size (B := V21.heap.size) ?_)) <;> assumption) | (go_split_ands; refine Below.drew ?_; assumption) | fail)))
            (first
              | (go_at_call 54; refine (implIsRopeKind_c r _).mono ?_; rintro e Wp ⟨rfl, bp⟩)
              | (go_at_call 55; refine (specIsRopeKind_c r _).mono ?_; rintro e Wq ⟨rfl, bq⟩)
              | fail)
          all_goals go_wp2
          all_goals go_ret
          all_goals refine ⟨rfl, T21.out.trans (Below.mono ?_ T21.out.size)⟩
          all_goals (go_split_ands; assumption)
        | false =>
          cases h100 : tmB z ly 100 with
          | true =>
            obtain ⟨y0, y1, y2, y3, y4⟩ := boxK HZ.out D7.out
            go_wp2_with fail
            refine (implRopeVerdict_c z vy ly _ RY.out (by omega)).mono ?_
            rw [vd_w hg h10 h100, hg]
            rintro e V22 ⟨rfl, b22⟩
            have T22 := Lib.hid (T7.out.trans (b22.mono T7.out.size))
            have RY := Lib.hid (RY.out.below b22 rfl)
            have D22 := Lib.hid (D7.out.trans (b22.mono D7.out.size))
            clear b22
            clear y0 y1 y2 y3 y4
            obtain ⟨y0, y1, y2, y3, y4⟩ := boxK HZ.out D22.out
            go_wp2_with fail
            refine (specRopeVerdict_c z vy ly _ RY.out (by omega)).mono ?_
            rw [vd_w hg h10 h100, hg]
            rintro e V23 ⟨rfl, b23⟩
            have T23 := Lib.hid (T22.out.trans (b23.mono T22.out.size))
            have RY := Lib.hid (RY.out.below b23 rfl)
            have D23 := Lib.hid (D22.out.trans (b23.mono D22.out.size))
            clear b23
            clear y0 y1 y2 y3 y4
            obtain ⟨y0, y1, y2, y3, y4⟩ := boxK HZ.out D23.out
            go_wp2_with fail
            refine (implAreDamages_c z vy ly _ RY.out (by omega)).mono ?_
            rw [hg]
            rintro e V24 ⟨rfl, b24⟩
            have T24 := Lib.hid (T23.out.trans (b24.mono T23.out.size))
            have RY := Lib.hid (RY.out.below b24 rfl)
            have D24 := Lib.hid (D23.out.trans (b24.mono D23.out.size))
            clear b24
            clear y0 y1 y2 y3 y4
            obtain ⟨y0, y1, y2, y3, y4⟩ := boxK HZ.out D24.out
            go_wp2_with fail
            refine (implStrengthLeft_c z vy ly _ RY.out (by omega)).mono ?_
            rw [hsl, hg]
            rintro e V25 ⟨rfl, b25⟩
            have T25 := Lib.hid (T24.out.trans (b25.mono T24.out.size))
            have RY := Lib.hid (RY.out.below b25 rfl)
            have D25 := Lib.hid (D24.out.trans (b25.mono D24.out.size))
            clear b25
            clear y0 y1 y2 y3 y4
            obtain ⟨y0, y1, y2, y3, y4⟩ := boxK HZ.out D25.out
            go_wp2_with fail
            refine (specStrengthLeft_c z vy ly _ RY.out (by omega)).mono ?_
            rw [hsl, hg]
            rintro e V26 ⟨rfl, b26⟩
            have T26 := Lib.hid (T25.out.trans (b26.mono T25.out.size))
            have RY := Lib.hid (RY.out.below b26 rfl)
            have D26 := Lib.hid (D25.out.trans (b26.mono D25.out.size))
            clear b26
            clear y0 y1 y2 y3 y4
            obtain ⟨y0, y1, y2, y3, y4⟩ := boxK HZ.out D26.out
            unfold watchB
            have HCode26 := Lib.hid (HC.out.below T26.out)
            go_wp2_with fail
            refine (DrawIsRopeKind_any a len cap _ HCode26.out).mono ?_
            rintro e V27 ⟨r, rfl, b27⟩
            unfold RK.agg
            have T27 := Lib.hid (T26.out.trans (b27.mono T26.out.size))
            clear b27
            go_upto_region 25 with fail
            have HQ := Lib.hid (heap_alloc_new V27 (.cells #[.int .i64 r.i, .int .i64 r.s, .int .i64 r.w, .int .i64 r.g, .int .i64 r.p] 47))
            have HB : Hid (Below V27.heap.size V27 (V27.alloc (.cells #[.int .i64 r.i, .int .i64 r.s, .int .i64 r.w, .int .i64 r.g, .int .i64 r.p] 47))) := Lib.hid ((Below.refl _ _).alloc (Nat.le_refl _) _)
            generalize hV28 : V27.alloc (.cells #[.int .i64 r.i, .int .i64 r.s, .int .i64 r.w, .int .i64 r.g, .int .i64 r.p] 47) = V28 at *
            clear hV28
            have T28 := Lib.hid (T27.out.trans (HB.out.mono T27.out.size))
            clear HB
            have hkp : ∀ W, Below V28.heap.size V28 W → Below V28.heap.size V28 W ∧ _ := fun W hW => ⟨hW, boxK HQ.out hW⟩
            have g00 := hkp V28 (Below.refl _ _)
            have gdw := hkp V28.drew (Below.refl _ _).drew
            go_region_held3 (fun w' => Below V28.heap.size V28 w' ∧ w'.cell? ⟨V27.heap.size, 0, none⟩ = some (.int .i64 r.i) ∧ w'.cell? ⟨V27.heap.size, 1, none⟩ = some (.int .i64 r.s) ∧ w'.cell? ⟨V27.heap.size, 2, none⟩ = some (.int .i64 r.w) ∧ w'.cell? ⟨V27.heap.size, 3, none⟩ = some (.int .i64 r.g) ∧ w'.cell? ⟨V27.heap.size, 4, none⟩ = some (.int .i64 r.p)) (exact hkp _ (by (first | exact Below.refl _ _ | exact (Below.refl _ _).drew | (go_split_ands; refine Below.trans ?_ (Below.mono bq (Below.size (B := V28.heap.size) ?_)) <;> assumption) | (go_split_ands; refine Below.trans ?_ (Below.mono bp (Below.size (B := V28.heap.size) ?_)) <;> assumption) | (go_split_ands; refine Below.drew ?_; assumption) | fail)))
              (first
                | (go_at_call 54; refine (implIsRopeKind_c r _).mono ?_; rintro e Wp ⟨rfl, bp⟩)
                | (go_at_call 55; refine (specIsRopeKind_c r _).mono ?_; rintro e Wq ⟨rfl, bq⟩)
                | fail)
            all_goals go_wp2
            all_goals go_ret
            all_goals refine ⟨rfl, T28.out.trans (Below.mono ?_ T28.out.size)⟩
            all_goals (go_split_ands; assumption)
          | false =>
            have hst := good_strong hg h10
            rw [hsl] at hst
            have q1 : IntKind.i64.wrap (nn + 1) = nn + 1 := IntWalk.i64_in _ (by omega)
            have q2 : IntKind.i64.wrap (20 * (nn + 1)) = 20 * (nn + 1) := IntWalk.i64_in _ (by omega)
            have q3 : IntKind.i64.wrap (19 * z.p) = 19 * z.p := IntWalk.i64_in _ (by omega)
            have q4 : decide (20 * (nn + 1) < 19 * z.p) = false := by rw [decide_eq_false_iff_not]; omega
            obtain ⟨y0, y1, y2, y3, y4⟩ := boxK HZ.out D7.out
            go_wp2_with fail
            refine (implRopeVerdict_c z vy ly _ RY.out (by omega)).mono ?_
            rw [vd_g hg h10 h100, hg]
            rintro e V29 ⟨rfl, b29⟩
            have T29 := Lib.hid (T7.out.trans (b29.mono T7.out.size))
            have RY := Lib.hid (RY.out.below b29 rfl)
            have D29 := Lib.hid (D7.out.trans (b29.mono D7.out.size))
            clear b29
            clear y0 y1 y2 y3 y4
            obtain ⟨y0, y1, y2, y3, y4⟩ := boxK HZ.out D29.out
            go_wp2_with fail
            refine (specRopeVerdict_c z vy ly _ RY.out (by omega)).mono ?_
            rw [vd_g hg h10 h100, hg]
            rintro e V30 ⟨rfl, b30⟩
            have T30 := Lib.hid (T29.out.trans (b30.mono T29.out.size))
            have RY := Lib.hid (RY.out.below b30 rfl)
            have D30 := Lib.hid (D29.out.trans (b30.mono D29.out.size))
            clear b30
            clear y0 y1 y2 y3 y4
            obtain ⟨y0, y1, y2, y3, y4⟩ := boxK HZ.out D30.out
            go_wp2_with fail
            refine (implAreDamages_c z vy ly _ RY.out (by omega)).mono ?_
            rw [hg]
            rintro e V31 ⟨rfl, b31⟩
            have T31 := Lib.hid (T30.out.trans (b31.mono T30.out.size))
            have RY := Lib.hid (RY.out.below b31 rfl)
            have D31 := Lib.hid (D30.out.trans (b31.mono D30.out.size))
            clear b31
            clear y0 y1 y2 y3 y4
            obtain ⟨y0, y1, y2, y3, y4⟩ := boxK HZ.out D31.out
            go_wp2_with fail
            refine (implStrengthLeft_c z vy ly _ RY.out (by omega)).mono ?_
            rw [hsl, hg]
            rintro e V32 ⟨rfl, b32⟩
            have T32 := Lib.hid (T31.out.trans (b32.mono T31.out.size))
            have RY := Lib.hid (RY.out.below b32 rfl)
            have D32 := Lib.hid (D31.out.trans (b32.mono D31.out.size))
            clear b32
            clear y0 y1 y2 y3 y4
            obtain ⟨y0, y1, y2, y3, y4⟩ := boxK HZ.out D32.out
            go_wp2_with fail
            refine (specStrengthLeft_c z vy ly _ RY.out (by omega)).mono ?_
            rw [hsl, hg]
            rintro e V33 ⟨rfl, b33⟩
            have T33 := Lib.hid (T32.out.trans (b33.mono T32.out.size))
            have RY := Lib.hid (RY.out.below b33 rfl)
            have D33 := Lib.hid (D32.out.trans (b33.mono D32.out.size))
            clear b33
            clear y0 y1 y2 y3 y4
            obtain ⟨y0, y1, y2, y3, y4⟩ := boxK HZ.out D33.out
            unfold goodB
            have HCode33 := Lib.hid (HC.out.below T33.out)
            go_wp2_with fail
            refine (DrawIsRopeKind_any a len cap _ HCode33.out).mono ?_
            rintro e V34 ⟨r, rfl, b34⟩
            unfold RK.agg
            have T34 := Lib.hid (T33.out.trans (b34.mono T33.out.size))
            clear b34
            go_upto_region 25 with fail
            have HQ := Lib.hid (heap_alloc_new V34 (.cells #[.int .i64 r.i, .int .i64 r.s, .int .i64 r.w, .int .i64 r.g, .int .i64 r.p] 47))
            have HB : Hid (Below V34.heap.size V34 (V34.alloc (.cells #[.int .i64 r.i, .int .i64 r.s, .int .i64 r.w, .int .i64 r.g, .int .i64 r.p] 47))) := Lib.hid ((Below.refl _ _).alloc (Nat.le_refl _) _)
            generalize hV35 : V34.alloc (.cells #[.int .i64 r.i, .int .i64 r.s, .int .i64 r.w, .int .i64 r.g, .int .i64 r.p] 47) = V35 at *
            clear hV35
            have T35 := Lib.hid (T34.out.trans (HB.out.mono T34.out.size))
            clear HB
            have hkp : ∀ W, Below V35.heap.size V35 W → Below V35.heap.size V35 W ∧ _ := fun W hW => ⟨hW, boxK HQ.out hW⟩
            have g00 := hkp V35 (Below.refl _ _)
            have gdw := hkp V35.drew (Below.refl _ _).drew
            go_region_held3 (fun w' => Below V35.heap.size V35 w' ∧ w'.cell? ⟨V34.heap.size, 0, none⟩ = some (.int .i64 r.i) ∧ w'.cell? ⟨V34.heap.size, 1, none⟩ = some (.int .i64 r.s) ∧ w'.cell? ⟨V34.heap.size, 2, none⟩ = some (.int .i64 r.w) ∧ w'.cell? ⟨V34.heap.size, 3, none⟩ = some (.int .i64 r.g) ∧ w'.cell? ⟨V34.heap.size, 4, none⟩ = some (.int .i64 r.p)) (exact hkp _ (by (first | exact Below.refl _ _ | exact (Below.refl _ _).drew | (go_split_ands; refine Below.trans ?_ (Below.mono bq (Below.size (B := V35.heap.size) ?_)) <;> assumption) | (go_split_ands; refine Below.trans ?_ (Below.mono bp (Below.size (B := V35.heap.size) ?_)) <;> assumption) | (go_split_ands; refine Below.drew ?_; assumption) | fail)))
              (first
                | (go_at_call 54; refine (implIsRopeKind_c r _).mono ?_; rintro e Wp ⟨rfl, bp⟩)
                | (go_at_call 55; refine (specIsRopeKind_c r _).mono ?_; rintro e Wq ⟨rfl, bq⟩)
                | fail)
            all_goals go_wp2
            all_goals go_ret
            all_goals refine ⟨rfl, T35.out.trans (Below.mono ?_ T35.out.size)⟩
            all_goals (go_split_ands; assumption)
    | true =>
      obtain ⟨m1, ⟨m2, m3⟩, m4, m5⟩ := add_more hok
      have f1 := bw_yes (fr := d.a) (len := 1) m4 ((inR_iff _ _ _).2 ⟨m2, m3⟩) rfl
      have f2 := bw_yes (fr := d.a) (len := 1) m5 ((inR_iff _ _ _).2 ⟨m2, m3⟩) rfl
      have hwa := hwf.1
      go_wp2_with fail
      refine (rDamages_same vg vw (adR x l d) _ (Rs.of_own OG.out) (Rs.of_own OW.out)).mono ?_
      rintro e V36 ⟨rfl, b36⟩
      have T36 := Lib.hid (T4.out.trans (b36.mono T4.out.size))
      have HO := Lib.hid (owns_below HO.out b36)
      have OG := Lib.hid (owns_below OG.out b36)
      have D36 := Lib.hid (D4.out.trans (b36.mono D4.out.size))
      clear b36
      clear OW
      obtain ⟨y0, y1, y2, y3, y4⟩ := boxK HK.out D36.out
      obtain ⟨u0, u1, u2⟩ := boxD HR.out D36.out
      go_wp2_with fail
      refine (implBrokenWires_c x v l d.a 1 _ (Rs.of_own HO.out) (by omega) hwa rfl).mono ?_
      rw [f1.1, f1.2]
      rintro e V37 ⟨rfl, b37⟩
      have T37 := Lib.hid (T36.out.trans (b37.mono T36.out.size))
      have HO := Lib.hid (owns_below HO.out b37)
      have OG := Lib.hid (owns_below OG.out b37)
      have D37 := Lib.hid (D36.out.trans (b37.mono D36.out.size))
      clear b37
      clear y0 y1 y2 y3 y4 u0 u1 u2
      obtain ⟨y0, y1, y2, y3, y4⟩ := boxK HK.out D37.out
      obtain ⟨u0, u1, u2⟩ := boxD HR.out D37.out
      go_wp2_with fail
      refine (implBrokenWires_c x vg (adR x l d) d.a 1 _ (Rs.of_own OG.out) (by omega) hwa rfl).mono ?_
      rw [f2.1, f2.2, m1]
      rintro e V38 ⟨rfl, b38⟩
      have T38 := Lib.hid (T37.out.trans (b38.mono T37.out.size))
      have HO := Lib.hid (owns_below HO.out b38)
      have OG := Lib.hid (owns_below OG.out b38)
      have D38 := Lib.hid (D37.out.trans (b38.mono D37.out.size))
      clear b38
      clear y0 y1 y2 y3 y4 u0 u1 u2
      obtain ⟨y0, y1, y2, y3, y4⟩ := boxK HK.out D38.out
      obtain ⟨u0, u1, u2⟩ := boxD HR.out D38.out
      go_wp2_with fail
      refine (implAreDamages_c x vg (adR x l d) _ (Rs.of_own OG.out) (by omega)).mono ?_
      rw [m5]
      rintro e V39 ⟨rfl, b39⟩
      have T39 := Lib.hid (T38.out.trans (b39.mono T38.out.size))
      have D39 := Lib.hid (D38.out.trans (b39.mono D38.out.size))
      clear b39
      clear y0 y1 y2 y3 y4 u0 u1 u2
      clear OG HO HK HR m1 m2 m3 m4 m5 f1 f2
      have HCode39 := Lib.hid (HC.out.below T39.out)
      go_wp2_with fail
      refine (DrawRopeVerdict_any a len cap _ HCode39.out).mono ?_
      rintro e V40 ⟨z, vy, ly, rfl, hry, hly, _, b40⟩
      unfold RK.agg
      have T40 := Lib.hid (T39.out.trans (b40.mono T39.out.size))
      clear b40
      have RY := Lib.hid hry
      clear hry
      go_upto_region 14 with fail
      have HZ := Lib.hid (heap_alloc_new V40 (.cells #[.int .i64 z.i, .int .i64 z.s, .int .i64 z.w, .int .i64 z.g, .int .i64 z.p] 47))
      have HB : Hid (Below V40.heap.size V40 (V40.alloc (.cells #[.int .i64 z.i, .int .i64 z.s, .int .i64 z.w, .int .i64 z.g, .int .i64 z.p] 47))) := Lib.hid ((Below.refl _ _).alloc (Nat.le_refl _) _)
      generalize hV41 : V40.alloc (.cells #[.int .i64 z.i, .int .i64 z.s, .int .i64 z.w, .int .i64 z.g, .int .i64 z.p] 47) = V41 at *
      clear hV41
      have T41 := Lib.hid (T40.out.trans (HB.out.mono T40.out.size))
      have RY := Lib.hid (RY.out.below HB.out rfl)
      have D41 := Lib.hid (Below.refl V41.heap.size V41)
      clear HB
      cases hg : good z ly with
      | false =>
        have hsl := sl_no hg
        obtain ⟨y0, y1, y2, y3, y4⟩ := boxK HZ.out D41.out
        go_wp2_with fail
        refine (implRopeVerdict_c z vy ly _ RY.out (by omega)).mono ?_
        rw [vd_no hg, hg]
        rintro e V42 ⟨rfl, b42⟩
        have T42 := Lib.hid (T41.out.trans (b42.mono T41.out.size))
        have RY := Lib.hid (RY.out.below b42 rfl)
        have D42 := Lib.hid (D41.out.trans (b42.mono D41.out.size))
        clear b42
        clear y0 y1 y2 y3 y4
        obtain ⟨y0, y1, y2, y3, y4⟩ := boxK HZ.out D42.out
        go_wp2_with fail
        refine (specRopeVerdict_c z vy ly _ RY.out (by omega)).mono ?_
        rw [vd_no hg, hg]
        rintro e V43 ⟨rfl, b43⟩
        have T43 := Lib.hid (T42.out.trans (b43.mono T42.out.size))
        have RY := Lib.hid (RY.out.below b43 rfl)
        have D43 := Lib.hid (D42.out.trans (b43.mono D42.out.size))
        clear b43
        clear y0 y1 y2 y3 y4
        obtain ⟨y0, y1, y2, y3, y4⟩ := boxK HZ.out D43.out
        go_wp2_with fail
        refine (implAreDamages_c z vy ly _ RY.out (by omega)).mono ?_
        rw [hg]
        rintro e V44 ⟨rfl, b44⟩
        have T44 := Lib.hid (T43.out.trans (b44.mono T43.out.size))
        have RY := Lib.hid (RY.out.below b44 rfl)
        have D44 := Lib.hid (D43.out.trans (b44.mono D43.out.size))
        clear b44
        clear y0 y1 y2 y3 y4
        obtain ⟨y0, y1, y2, y3, y4⟩ := boxK HZ.out D44.out
        go_wp2_with fail
        refine (implStrengthLeft_c z vy ly _ RY.out (by omega)).mono ?_
        rw [hsl, hg]
        rintro e V45 ⟨rfl, b45⟩
        have T45 := Lib.hid (T44.out.trans (b45.mono T44.out.size))
        have RY := Lib.hid (RY.out.below b45 rfl)
        have D45 := Lib.hid (D44.out.trans (b45.mono D44.out.size))
        clear b45
        clear y0 y1 y2 y3 y4
        obtain ⟨y0, y1, y2, y3, y4⟩ := boxK HZ.out D45.out
        go_wp2_with fail
        refine (specStrengthLeft_c z vy ly _ RY.out (by omega)).mono ?_
        rw [hsl, hg]
        rintro e V46 ⟨rfl, b46⟩
        have T46 := Lib.hid (T45.out.trans (b46.mono T45.out.size))
        have RY := Lib.hid (RY.out.below b46 rfl)
        have D46 := Lib.hid (D45.out.trans (b46.mono D45.out.size))
        clear b46
        clear y0 y1 y2 y3 y4
        obtain ⟨y0, y1, y2, y3, y4⟩ := boxK HZ.out D46.out
        skip
        have HCode46 := Lib.hid (HC.out.below T46.out)
        go_wp2_with fail
        refine (DrawIsRopeKind_any a len cap _ HCode46.out).mono ?_
        rintro e V47 ⟨r, rfl, b47⟩
        unfold RK.agg
        have T47 := Lib.hid (T46.out.trans (b47.mono T46.out.size))
        clear b47
        go_upto_region 25 with fail
        have HQ := Lib.hid (heap_alloc_new V47 (.cells #[.int .i64 r.i, .int .i64 r.s, .int .i64 r.w, .int .i64 r.g, .int .i64 r.p] 47))
        have HB : Hid (Below V47.heap.size V47 (V47.alloc (.cells #[.int .i64 r.i, .int .i64 r.s, .int .i64 r.w, .int .i64 r.g, .int .i64 r.p] 47))) := Lib.hid ((Below.refl _ _).alloc (Nat.le_refl _) _)
        generalize hV48 : V47.alloc (.cells #[.int .i64 r.i, .int .i64 r.s, .int .i64 r.w, .int .i64 r.g, .int .i64 r.p] 47) = V48 at *
        clear hV48
        have T48 := Lib.hid (T47.out.trans (HB.out.mono T47.out.size))
        clear HB
        have hkp : ∀ W, Below V48.heap.size V48 W → Below V48.heap.size V48 W ∧ _ := fun W hW => ⟨hW, boxK HQ.out hW⟩
        have g00 := hkp V48 (Below.refl _ _)
        have gdw := hkp V48.drew (Below.refl _ _).drew
        go_region_held3 (fun w' => Below V48.heap.size V48 w' ∧ w'.cell? ⟨V47.heap.size, 0, none⟩ = some (.int .i64 r.i) ∧ w'.cell? ⟨V47.heap.size, 1, none⟩ = some (.int .i64 r.s) ∧ w'.cell? ⟨V47.heap.size, 2, none⟩ = some (.int .i64 r.w) ∧ w'.cell? ⟨V47.heap.size, 3, none⟩ = some (.int .i64 r.g) ∧ w'.cell? ⟨V47.heap.size, 4, none⟩ = some (.int .i64 r.p)) (exact hkp _ (by (first | exact Below.refl _ _ | exact (Below.refl _ _).drew | (go_split_ands; refine Below.trans ?_ (Below.mono bq (Below.size (B := V48.heap.size) ?_)) <;> assumption) | (go_split_ands; refine Below.trans ?_ (Below.mono bp (Below.size (B := V48.heap.size) ?_)) <;> assumption) | (go_split_ands; refine Below.drew ?_; assumption) | fail)))
          (first
            | (go_at_call 54; refine (implIsRopeKind_c r _).mono ?_; rintro e Wp ⟨rfl, bp⟩)
            | (go_at_call 55; refine (specIsRopeKind_c r _).mono ?_; rintro e Wq ⟨rfl, bq⟩)
            | fail)
        all_goals go_wp2
        all_goals go_ret
        all_goals refine ⟨rfl, T48.out.trans (Below.mono ?_ T48.out.size)⟩
        all_goals (go_split_ands; assumption)
      | true =>
        have hG9 := good_yes hg
        obtain ⟨e1, e2, e3, e4, e5⟩ := sl_val hG9
        have e6 := allK_bd hG9.kind
        obtain ⟨nn, hnn⟩ : ∃ nn, nn = slV z ly := ⟨_, rfl⟩
        have hsl : slV z ly = nn := hnn.symm
        rw [sl_yes hg, e1] at hnn
        have n0 : 0 ≤ nn := by omega
        have n1 : nn ≤ z.p := by omega
        have k1 : decide (nn < 0) = false := by rw [decide_eq_false_iff_not]; omega
        have k2 : decide (z.p < nn) = false := by rw [decide_eq_false_iff_not]; omega
        clear e1 e2 e3 e4 e5 hnn
        cases h10 : tmB z ly 10 with
        | true =>
          obtain ⟨y0, y1, y2, y3, y4⟩ := boxK HZ.out D41.out
          go_wp2_with fail
          refine (implRopeVerdict_c z vy ly _ RY.out (by omega)).mono ?_
          rw [vd_r hg h10, hg]
          rintro e V49 ⟨rfl, b49⟩
          have T49 := Lib.hid (T41.out.trans (b49.mono T41.out.size))
          have RY := Lib.hid (RY.out.below b49 rfl)
          have D49 := Lib.hid (D41.out.trans (b49.mono D41.out.size))
          clear b49
          clear y0 y1 y2 y3 y4
          obtain ⟨y0, y1, y2, y3, y4⟩ := boxK HZ.out D49.out
          go_wp2_with fail
          refine (specRopeVerdict_c z vy ly _ RY.out (by omega)).mono ?_
          rw [vd_r hg h10, hg]
          rintro e V50 ⟨rfl, b50⟩
          have T50 := Lib.hid (T49.out.trans (b50.mono T49.out.size))
          have RY := Lib.hid (RY.out.below b50 rfl)
          have D50 := Lib.hid (D49.out.trans (b50.mono D49.out.size))
          clear b50
          clear y0 y1 y2 y3 y4
          obtain ⟨y0, y1, y2, y3, y4⟩ := boxK HZ.out D50.out
          go_wp2_with fail
          refine (implAreDamages_c z vy ly _ RY.out (by omega)).mono ?_
          rw [hg]
          rintro e V51 ⟨rfl, b51⟩
          have T51 := Lib.hid (T50.out.trans (b51.mono T50.out.size))
          have RY := Lib.hid (RY.out.below b51 rfl)
          have D51 := Lib.hid (D50.out.trans (b51.mono D50.out.size))
          clear b51
          clear y0 y1 y2 y3 y4
          obtain ⟨y0, y1, y2, y3, y4⟩ := boxK HZ.out D51.out
          go_wp2_with fail
          refine (implStrengthLeft_c z vy ly _ RY.out (by omega)).mono ?_
          rw [hsl, hg]
          rintro e V52 ⟨rfl, b52⟩
          have T52 := Lib.hid (T51.out.trans (b52.mono T51.out.size))
          have RY := Lib.hid (RY.out.below b52 rfl)
          have D52 := Lib.hid (D51.out.trans (b52.mono D51.out.size))
          clear b52
          clear y0 y1 y2 y3 y4
          obtain ⟨y0, y1, y2, y3, y4⟩ := boxK HZ.out D52.out
          go_wp2_with fail
          refine (specStrengthLeft_c z vy ly _ RY.out (by omega)).mono ?_
          rw [hsl, hg]
          rintro e V53 ⟨rfl, b53⟩
          have T53 := Lib.hid (T52.out.trans (b53.mono T52.out.size))
          have RY := Lib.hid (RY.out.below b53 rfl)
          have D53 := Lib.hid (D52.out.trans (b53.mono D52.out.size))
          clear b53
          clear y0 y1 y2 y3 y4
          obtain ⟨y0, y1, y2, y3, y4⟩ := boxK HZ.out D53.out
          unfold replaceB
          have HCode53 := Lib.hid (HC.out.below T53.out)
          go_wp2_with fail
          refine (DrawIsRopeKind_any a len cap _ HCode53.out).mono ?_
          rintro e V54 ⟨r, rfl, b54⟩
          unfold RK.agg
          have T54 := Lib.hid (T53.out.trans (b54.mono T53.out.size))
          clear b54
          go_upto_region 25 with fail
          have HQ := Lib.hid (heap_alloc_new V54 (.cells #[.int .i64 r.i, .int .i64 r.s, .int .i64 r.w, .int .i64 r.g, .int .i64 r.p] 47))
          have HB : Hid (Below V54.heap.size V54 (V54.alloc (.cells #[.int .i64 r.i, .int .i64 r.s, .int .i64 r.w, .int .i64 r.g, .int .i64 r.p] 47))) := Lib.hid ((Below.refl _ _).alloc (Nat.le_refl _) _)
          generalize hV55 : V54.alloc (.cells #[.int .i64 r.i, .int .i64 r.s, .int .i64 r.w, .int .i64 r.g, .int .i64 r.p] 47) = V55 at *
          clear hV55
          have T55 := Lib.hid (T54.out.trans (HB.out.mono T54.out.size))
          clear HB
          have hkp : ∀ W, Below V55.heap.size V55 W → Below V55.heap.size V55 W ∧ _ := fun W hW => ⟨hW, boxK HQ.out hW⟩
          have g00 := hkp V55 (Below.refl _ _)
          have gdw := hkp V55.drew (Below.refl _ _).drew
          go_region_held3 (fun w' => Below V55.heap.size V55 w' ∧ w'.cell? ⟨V54.heap.size, 0, none⟩ = some (.int .i64 r.i) ∧ w'.cell? ⟨V54.heap.size, 1, none⟩ = some (.int .i64 r.s) ∧ w'.cell? ⟨V54.heap.size, 2, none⟩ = some (.int .i64 r.w) ∧ w'.cell? ⟨V54.heap.size, 3, none⟩ = some (.int .i64 r.g) ∧ w'.cell? ⟨V54.heap.size, 4, none⟩ = some (.int .i64 r.p)) (exact hkp _ (by (first | exact Below.refl _ _ | exact (Below.refl _ _).drew | (go_split_ands; refine Below.trans ?_ (Below.mono bq (Below.size (B := V55.heap.size) ?_)) <;> assumption) | (go_split_ands; refine Below.trans ?_ (Below.mono bp (Below.size (B := V55.heap.size) ?_)) <;> assumption) | (go_split_ands; refine Below.drew ?_; assumption) | fail)))
            (first
              | (go_at_call 54; refine (implIsRopeKind_c r _).mono ?_; rintro e Wp ⟨rfl, bp⟩)
              | (go_at_call 55; refine (specIsRopeKind_c r _).mono ?_; rintro e Wq ⟨rfl, bq⟩)
              | fail)
          all_goals go_wp2
          all_goals go_ret
          all_goals refine ⟨rfl, T55.out.trans (Below.mono ?_ T55.out.size)⟩
          all_goals (go_split_ands; assumption)
        | false =>
          cases h100 : tmB z ly 100 with
          | true =>
            obtain ⟨y0, y1, y2, y3, y4⟩ := boxK HZ.out D41.out
            go_wp2_with fail
            refine (implRopeVerdict_c z vy ly _ RY.out (by omega)).mono ?_
            rw [vd_w hg h10 h100, hg]
            rintro e V56 ⟨rfl, b56⟩
            have T56 := Lib.hid (T41.out.trans (b56.mono T41.out.size))
            have RY := Lib.hid (RY.out.below b56 rfl)
            have D56 := Lib.hid (D41.out.trans (b56.mono D41.out.size))
            clear b56
            clear y0 y1 y2 y3 y4
            obtain ⟨y0, y1, y2, y3, y4⟩ := boxK HZ.out D56.out
            go_wp2_with fail
            refine (specRopeVerdict_c z vy ly _ RY.out (by omega)).mono ?_
            rw [vd_w hg h10 h100, hg]
            rintro e V57 ⟨rfl, b57⟩
            have T57 := Lib.hid (T56.out.trans (b57.mono T56.out.size))
            have RY := Lib.hid (RY.out.below b57 rfl)
            have D57 := Lib.hid (D56.out.trans (b57.mono D56.out.size))
            clear b57
            clear y0 y1 y2 y3 y4
            obtain ⟨y0, y1, y2, y3, y4⟩ := boxK HZ.out D57.out
            go_wp2_with fail
            refine (implAreDamages_c z vy ly _ RY.out (by omega)).mono ?_
            rw [hg]
            rintro e V58 ⟨rfl, b58⟩
            have T58 := Lib.hid (T57.out.trans (b58.mono T57.out.size))
            have RY := Lib.hid (RY.out.below b58 rfl)
            have D58 := Lib.hid (D57.out.trans (b58.mono D57.out.size))
            clear b58
            clear y0 y1 y2 y3 y4
            obtain ⟨y0, y1, y2, y3, y4⟩ := boxK HZ.out D58.out
            go_wp2_with fail
            refine (implStrengthLeft_c z vy ly _ RY.out (by omega)).mono ?_
            rw [hsl, hg]
            rintro e V59 ⟨rfl, b59⟩
            have T59 := Lib.hid (T58.out.trans (b59.mono T58.out.size))
            have RY := Lib.hid (RY.out.below b59 rfl)
            have D59 := Lib.hid (D58.out.trans (b59.mono D58.out.size))
            clear b59
            clear y0 y1 y2 y3 y4
            obtain ⟨y0, y1, y2, y3, y4⟩ := boxK HZ.out D59.out
            go_wp2_with fail
            refine (specStrengthLeft_c z vy ly _ RY.out (by omega)).mono ?_
            rw [hsl, hg]
            rintro e V60 ⟨rfl, b60⟩
            have T60 := Lib.hid (T59.out.trans (b60.mono T59.out.size))
            have RY := Lib.hid (RY.out.below b60 rfl)
            have D60 := Lib.hid (D59.out.trans (b60.mono D59.out.size))
            clear b60
            clear y0 y1 y2 y3 y4
            obtain ⟨y0, y1, y2, y3, y4⟩ := boxK HZ.out D60.out
            unfold watchB
            have HCode60 := Lib.hid (HC.out.below T60.out)
            go_wp2_with fail
            refine (DrawIsRopeKind_any a len cap _ HCode60.out).mono ?_
            rintro e V61 ⟨r, rfl, b61⟩
            unfold RK.agg
            have T61 := Lib.hid (T60.out.trans (b61.mono T60.out.size))
            clear b61
            go_upto_region 25 with fail
            have HQ := Lib.hid (heap_alloc_new V61 (.cells #[.int .i64 r.i, .int .i64 r.s, .int .i64 r.w, .int .i64 r.g, .int .i64 r.p] 47))
            have HB : Hid (Below V61.heap.size V61 (V61.alloc (.cells #[.int .i64 r.i, .int .i64 r.s, .int .i64 r.w, .int .i64 r.g, .int .i64 r.p] 47))) := Lib.hid ((Below.refl _ _).alloc (Nat.le_refl _) _)
            generalize hV62 : V61.alloc (.cells #[.int .i64 r.i, .int .i64 r.s, .int .i64 r.w, .int .i64 r.g, .int .i64 r.p] 47) = V62 at *
            clear hV62
            have T62 := Lib.hid (T61.out.trans (HB.out.mono T61.out.size))
            clear HB
            have hkp : ∀ W, Below V62.heap.size V62 W → Below V62.heap.size V62 W ∧ _ := fun W hW => ⟨hW, boxK HQ.out hW⟩
            have g00 := hkp V62 (Below.refl _ _)
            have gdw := hkp V62.drew (Below.refl _ _).drew
            go_region_held3 (fun w' => Below V62.heap.size V62 w' ∧ w'.cell? ⟨V61.heap.size, 0, none⟩ = some (.int .i64 r.i) ∧ w'.cell? ⟨V61.heap.size, 1, none⟩ = some (.int .i64 r.s) ∧ w'.cell? ⟨V61.heap.size, 2, none⟩ = some (.int .i64 r.w) ∧ w'.cell? ⟨V61.heap.size, 3, none⟩ = some (.int .i64 r.g) ∧ w'.cell? ⟨V61.heap.size, 4, none⟩ = some (.int .i64 r.p)) (exact hkp _ (by (first | exact Below.refl _ _ | exact (Below.refl _ _).drew | (go_split_ands; refine Below.trans ?_ (Below.mono bq (Below.size (B := V62.heap.size) ?_)) <;> assumption) | (go_split_ands; refine Below.trans ?_ (Below.mono bp (Below.size (B := V62.heap.size) ?_)) <;> assumption) | (go_split_ands; refine Below.drew ?_; assumption) | fail)))
              (first
                | (go_at_call 54; refine (implIsRopeKind_c r _).mono ?_; rintro e Wp ⟨rfl, bp⟩)
                | (go_at_call 55; refine (specIsRopeKind_c r _).mono ?_; rintro e Wq ⟨rfl, bq⟩)
                | fail)
            all_goals go_wp2
            all_goals go_ret
            all_goals refine ⟨rfl, T62.out.trans (Below.mono ?_ T62.out.size)⟩
            all_goals (go_split_ands; assumption)
          | false =>
            have hst := good_strong hg h10
            rw [hsl] at hst
            have q1 : IntKind.i64.wrap (nn + 1) = nn + 1 := IntWalk.i64_in _ (by omega)
            have q2 : IntKind.i64.wrap (20 * (nn + 1)) = 20 * (nn + 1) := IntWalk.i64_in _ (by omega)
            have q3 : IntKind.i64.wrap (19 * z.p) = 19 * z.p := IntWalk.i64_in _ (by omega)
            have q4 : decide (20 * (nn + 1) < 19 * z.p) = false := by rw [decide_eq_false_iff_not]; omega
            obtain ⟨y0, y1, y2, y3, y4⟩ := boxK HZ.out D41.out
            go_wp2_with fail
            refine (implRopeVerdict_c z vy ly _ RY.out (by omega)).mono ?_
            rw [vd_g hg h10 h100, hg]
            rintro e V63 ⟨rfl, b63⟩
            have T63 := Lib.hid (T41.out.trans (b63.mono T41.out.size))
            have RY := Lib.hid (RY.out.below b63 rfl)
            have D63 := Lib.hid (D41.out.trans (b63.mono D41.out.size))
            clear b63
            clear y0 y1 y2 y3 y4
            obtain ⟨y0, y1, y2, y3, y4⟩ := boxK HZ.out D63.out
            go_wp2_with fail
            refine (specRopeVerdict_c z vy ly _ RY.out (by omega)).mono ?_
            rw [vd_g hg h10 h100, hg]
            rintro e V64 ⟨rfl, b64⟩
            have T64 := Lib.hid (T63.out.trans (b64.mono T63.out.size))
            have RY := Lib.hid (RY.out.below b64 rfl)
            have D64 := Lib.hid (D63.out.trans (b64.mono D63.out.size))
            clear b64
            clear y0 y1 y2 y3 y4
            obtain ⟨y0, y1, y2, y3, y4⟩ := boxK HZ.out D64.out
            go_wp2_with fail
            refine (implAreDamages_c z vy ly _ RY.out (by omega)).mono ?_
            rw [hg]
            rintro e V65 ⟨rfl, b65⟩
            have T65 := Lib.hid (T64.out.trans (b65.mono T64.out.size))
            have RY := Lib.hid (RY.out.below b65 rfl)
            have D65 := Lib.hid (D64.out.trans (b65.mono D64.out.size))
            clear b65
            clear y0 y1 y2 y3 y4
            obtain ⟨y0, y1, y2, y3, y4⟩ := boxK HZ.out D65.out
            go_wp2_with fail
            refine (implStrengthLeft_c z vy ly _ RY.out (by omega)).mono ?_
            rw [hsl, hg]
            rintro e V66 ⟨rfl, b66⟩
            have T66 := Lib.hid (T65.out.trans (b66.mono T65.out.size))
            have RY := Lib.hid (RY.out.below b66 rfl)
            have D66 := Lib.hid (D65.out.trans (b66.mono D65.out.size))
            clear b66
            clear y0 y1 y2 y3 y4
            obtain ⟨y0, y1, y2, y3, y4⟩ := boxK HZ.out D66.out
            go_wp2_with fail
            refine (specStrengthLeft_c z vy ly _ RY.out (by omega)).mono ?_
            rw [hsl, hg]
            rintro e V67 ⟨rfl, b67⟩
            have T67 := Lib.hid (T66.out.trans (b67.mono T66.out.size))
            have RY := Lib.hid (RY.out.below b67 rfl)
            have D67 := Lib.hid (D66.out.trans (b67.mono D66.out.size))
            clear b67
            clear y0 y1 y2 y3 y4
            obtain ⟨y0, y1, y2, y3, y4⟩ := boxK HZ.out D67.out
            unfold goodB
            have HCode67 := Lib.hid (HC.out.below T67.out)
            go_wp2_with fail
            refine (DrawIsRopeKind_any a len cap _ HCode67.out).mono ?_
            rintro e V68 ⟨r, rfl, b68⟩
            unfold RK.agg
            have T68 := Lib.hid (T67.out.trans (b68.mono T67.out.size))
            clear b68
            go_upto_region 25 with fail
            have HQ := Lib.hid (heap_alloc_new V68 (.cells #[.int .i64 r.i, .int .i64 r.s, .int .i64 r.w, .int .i64 r.g, .int .i64 r.p] 47))
            have HB : Hid (Below V68.heap.size V68 (V68.alloc (.cells #[.int .i64 r.i, .int .i64 r.s, .int .i64 r.w, .int .i64 r.g, .int .i64 r.p] 47))) := Lib.hid ((Below.refl _ _).alloc (Nat.le_refl _) _)
            generalize hV69 : V68.alloc (.cells #[.int .i64 r.i, .int .i64 r.s, .int .i64 r.w, .int .i64 r.g, .int .i64 r.p] 47) = V69 at *
            clear hV69
            have T69 := Lib.hid (T68.out.trans (HB.out.mono T68.out.size))
            clear HB
            have hkp : ∀ W, Below V69.heap.size V69 W → Below V69.heap.size V69 W ∧ _ := fun W hW => ⟨hW, boxK HQ.out hW⟩
            have g00 := hkp V69 (Below.refl _ _)
            have gdw := hkp V69.drew (Below.refl _ _).drew
            go_region_held3 (fun w' => Below V69.heap.size V69 w' ∧ w'.cell? ⟨V68.heap.size, 0, none⟩ = some (.int .i64 r.i) ∧ w'.cell? ⟨V68.heap.size, 1, none⟩ = some (.int .i64 r.s) ∧ w'.cell? ⟨V68.heap.size, 2, none⟩ = some (.int .i64 r.w) ∧ w'.cell? ⟨V68.heap.size, 3, none⟩ = some (.int .i64 r.g) ∧ w'.cell? ⟨V68.heap.size, 4, none⟩ = some (.int .i64 r.p)) (exact hkp _ (by (first | exact Below.refl _ _ | exact (Below.refl _ _).drew | (go_split_ands; refine Below.trans ?_ (Below.mono bq (Below.size (B := V69.heap.size) ?_)) <;> assumption) | (go_split_ands; refine Below.trans ?_ (Below.mono bp (Below.size (B := V69.heap.size) ?_)) <;> assumption) | (go_split_ands; refine Below.drew ?_; assumption) | fail)))
              (first
                | (go_at_call 54; refine (implIsRopeKind_c r _).mono ?_; rintro e Wp ⟨rfl, bp⟩)
                | (go_at_call 55; refine (specIsRopeKind_c r _).mono ?_; rintro e Wq ⟨rfl, bq⟩)
                | fail)
            all_goals go_wp2
            all_goals go_ret
            all_goals refine ⟨rfl, T69.out.trans (Below.mono ?_ T69.out.size)⟩
            all_goals (go_split_ands; assumption)
end Go.Proofs.Yteglekfiannncaa
