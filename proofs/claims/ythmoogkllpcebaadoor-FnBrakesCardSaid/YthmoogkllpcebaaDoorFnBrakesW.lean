/- The law FnBrakes's walk. Condition: sizes; the library's table is as laid. -/
import Derived.Test.YthmoogkllpcebaaDoorBrkLaw2
import Derived.Test.YthmoogkllpcebaaDoorDrawDrvs
import Derived.WalkArith
import Derived.Deep.CutRange
import Derived.Deep.CutBlock
import Derived.Deep.DeepCutAuto
import Derived.Deep.RegionLaw
import Derived.Deep.AppendLies
namespace Go.Proofs.YthmoogkllpcebaaDoor
open Go.RowKit
set_option linter.unusedVariables false
theorem sub_step {l : List Brk} {s : Nat} (h4 : l.length ≤ 4) (hs : s < 2 ^ l.length) {k : Nat} (hk : k < (memI s).length) : ∃ j : Nat, (memI s).getD k 0 = (j : Int) ∧ j < l.length ∧ (subB l s).take (k + 1) = (subB l s).take k ++ [gth l j] := by
  rw [memI_len] at hk
  refine ⟨(mem10 s).getD k 0, memI_get s k, mem10_lt h4 hs hk, ?_⟩
  rw [take_gth _ _ (by rw [subB_len]; exact hk), gth_sub l hk]
theorem below_tr {a b c : World} (h : Hid (Below a.heap.size a b)) (g : Hid (Below b.heap.size b c)) : Below a.heap.size a c := h.out.trans (g.out.mono h.out.size)
set_option maxRecDepth 100000 in
set_option maxHeartbeats 4000000 in
theorem FnBrakes_walk (a : Option Addr) (len cap : Nat) (w : World) (h : ByteRow w a len) (ht : BruP w) :
    Calls Tryd.prog 3 #[.slice a len cap] w fun e w' => e = .returned (.bool true) ∧ Below w.heap.size w w' := by
  have hm := h.1
  have HC := Lib.hid h
  have HTT := Lib.hid ht
  clear h ht
  by_cases hbig : 65536 < len
  · go_enter Tryd.func3, Tryd.ntmps3
    go_wp2_with fail
    refine (vBig_yes a len cap _ hbig hm).mono ?_
    rintro e w' ⟨rfl, rfl⟩
    go_wp2_with fail
    go_ret
    exact ⟨rfl, Below.refl _ _⟩
  · go_enter Tryd.func3, Tryd.ntmps3
    go_wp2_with fail
    refine (vBig_no a len cap _ (by omega)).mono ?_
    rintro e w' ⟨rfl, rfl⟩
    have T0 := Lib.hid (Below.refl w.heap.size w)
    have HCode1 := Lib.hid (HC.out.below T0.out)
    go_wp2_with fail
    refine (DrawFewestBrakes_any a len cap _ HCode1.out).mono ?_
    rintro e X1 ⟨M1, P1, v1, l1, x1, y1, rfl, hl1, o1, b1⟩
    clear HCode1
    have T_2 := Lib.hid (T0.out.trans (b1.mono T0.out.size))
    clear b1 T0
    have hn_1 : l1.length ≤ 1048576 := by omega
    obtain ⟨ar1, cr1, rfl⟩ := (Rs.of_own o1).shape
    have Rr1_0 := Lib.hid (Rs.of_own o1)
    clear o1
    have Rr1_3 := Lib.hid (Rr1_0.out.below ((Below.refl X1.heap.size X1).alloc (Nat.le_refl _) (.cells #[.int .i64 M1, .int .i64 P1, .slice ar1 l1.length cr1] 26)) rfl)
    have T_3 := Lib.hid (T_2.out.alloc T_2.out.size (.cells #[.int .i64 M1, .int .i64 P1, .slice ar1 l1.length cr1] 26))
    have K1_3 := Lib.hid (blk_new3 X1 (.int .i64 M1) (.int .i64 P1) (.slice ar1 l1.length cr1) 26)
    clear Rr1_0 T_2
    obtain ⟨k10, k11, k12⟩ := blk_cell3 K1_3.out
    go_wp2_with fail
    clear k10 k11 k12
    generalize hW4 : X1.alloc (.cells #[.int .i64 M1, .int .i64 P1, .slice ar1 l1.length cr1] 26) = Z4 at *
    clear hW4
    refine (implFewestBrakes_c M1 P1 (.slice ar1 l1.length cr1) l1 x1 y1 _ Rr1_3.out hn_1 (HTT.out.below T_3.out)).mono ?_
    rintro e Y5 ⟨vg, rfl, og, b5⟩
    have K1_6 := Lib.hid (blk_kept K1_3.out b5)
    have Rr1_6 := Lib.hid (Rr1_3.out.below b5 rfl)
    have T_6 := Lib.hid (T_3.out.trans (b5.mono T_3.out.size))
    clear b5 K1_3 Rr1_3 T_3
    obtain ⟨arg, crg, rfl⟩ := (Rs.of_own og).shape
    have Rrg_0 := Lib.hid (Rd.of_own og)
    clear og
    obtain ⟨k10, k11, k12⟩ := blk_cell3 K1_6.out
    go_wp2_with fail
    clear k10 k11 k12
    refine (specFewestBrakes_c M1 P1 (.slice ar1 l1.length cr1) l1 x1 y1 _ Rr1_6.out hn_1).mono ?_
    rintro e Y7 ⟨vw, rfl, ow, b7⟩
    have K1_8 := Lib.hid (blk_kept K1_6.out b7)
    have Rr1_8 := Lib.hid (Rr1_6.out.below b7 rfl)
    have Rrg_8 := Lib.hid (Rrg_0.out.below b7 rfl)
    have T_8 := Lib.hid (T_6.out.trans (b7.mono T_6.out.size))
    clear b7 K1_6 Rr1_6 Rrg_0 T_6
    obtain ⟨arw, crw, rfl⟩ := (Rs.of_own ow).shape
    have Rrw_0 := Lib.hid (Rd.of_own ow)
    clear ow
    have hfl := fb10_len M1 P1 l1 x1 y1
    have HFK := Lib.hid (fun h => fb_keeps (L := M1) (S := P1) (l := l1) (x := x1) (y := y1) h)
    generalize fbR M1 P1 l1 x1 y1 = gl at *
    generalize fbS M1 P1 l1 x1 y1 = ss at *
    generalize fbOk M1 P1 l1 x1 y1 = fo at *
    obtain ⟨k10, k11, k12⟩ := blk_cell3 K1_8.out
    go_upto_region 6 with fail
    clear k10 k11 k12
    have HVI := Lib.hid (fun x : Aft Y7 => vInts10_c (.slice arg gl.length crg) (.slice arw gl.length crw) gl x.w (Rrg_8.out.below x.below rfl) (Rrw_0.out.below x.below rfl))
    have HI := Lib.hid (fun x : Aft Y7 => implIsDrive_c M1 P1 (.slice ar1 l1.length cr1) l1 x.w (Rr1_8.out.below x.below rfl) hn_1)
    have HJ := Lib.hid (fun x : Aft Y7 => specIsDrive_c M1 P1 (.slice ar1 l1.length cr1) l1 x.w (Rr1_8.out.below x.below rfl) hn_1)
    have HCC := K1_8
    generalize drvOk M1 P1 l1 = dv at *
    go_cut [74] from 59 to 73 (fun t wx => t = .bool false ∧ Hid (Below Y7.heap.size Y7 wx))
    case first =>
      as_aux_lemma =>
      obtain ⟨kc0, kc1, kc2⟩ := blk_cell3 HCC.out
      have qc0 : ∀ x : Aft Y7, x.w.cell? ⟨X1.heap.size, 0, none⟩ = some (.int .i64 M1) := fun x => x.cell kc0
      have qc1 : ∀ x : Aft Y7, x.w.cell? ⟨X1.heap.size, 1, none⟩ = some (.int .i64 P1) := fun x => x.cell kc1
      have qc2 : ∀ x : Aft Y7, x.w.cell? ⟨X1.heap.size, 2, none⟩ = some ((.slice ar1 l1.length cr1)) := fun x => x.cell kc2
      clear kc0 kc1 kc2 HFK
      cases dv <;> cases fo
      · skip
        refine wp_region_aft (w0 := Y7) (by kernel_rfl) (by kernel_rfl) (Below.refl _ _) ?_
        repeat (go_big_quiet_step (first | (go_at_call 17; exact aft_of (HVI.out _)) | (go_at_call 18; exact aft_of (HI.out _)) | (go_at_call 19; exact aft_of (HJ.out _)) | fail))
        refine wpQuiet_nil ?_
        rintro _ ⟨⟨Y70, b70⟩, rfl⟩
        try simp only []
        go_wp2
        go_meet
        case rel => exact ⟨rfl, Lib.hid b70⟩
      · skip
        refine wp_region_aft (w0 := Y7) (by kernel_rfl) (by kernel_rfl) (Below.refl _ _) ?_
        repeat (go_big_quiet_step (first | (go_at_call 17; exact aft_of (HVI.out _)) | (go_at_call 18; exact aft_of (HI.out _)) | (go_at_call 19; exact aft_of (HJ.out _)) | fail))
        refine wpQuiet_nil ?_
        rintro _ ⟨⟨Y70, b70⟩, rfl⟩
        try simp only []
        go_wp2
        go_meet
        case rel => exact ⟨rfl, Lib.hid b70⟩
      · skip
        refine wp_region_aft (w0 := Y7) (by kernel_rfl) (by kernel_rfl) (Below.refl _ _) ?_
        repeat (go_big_quiet_step (first | (go_at_call 17; exact aft_of (HVI.out _)) | (go_at_call 18; exact aft_of (HI.out _)) | (go_at_call 19; exact aft_of (HJ.out _)) | fail))
        refine wpQuiet_nil ?_
        rintro _ ⟨⟨Y70, b70⟩, rfl⟩
        try simp only []
        go_wp2
        go_meet
        case rel => exact ⟨rfl, Lib.hid b70⟩
      · skip
        refine wp_region_aft (w0 := Y7) (by kernel_rfl) (by kernel_rfl) (Below.refl _ _) ?_
        repeat (go_big_quiet_step (first | (go_at_call 17; exact aft_of (HVI.out _)) | (go_at_call 18; exact aft_of (HI.out _)) | (go_at_call 19; exact aft_of (HJ.out _)) | fail))
        refine wpQuiet_nil ?_
        rintro _ ⟨⟨Y70, b70⟩, rfl⟩
        try simp only []
        go_wp2
        go_meet
        case rel => exact ⟨rfl, Lib.hid b70⟩
    case rest =>
      obtain ⟨rfl, hcut⟩ := hcut
      obtain ⟨wx, hwx⟩ := named10 hcut
      subst hwx
      have b71 := hcut.out
      clear hcut HVI HI HJ HCC
      have K1_9 := Lib.hid (blk_kept K1_8.out b71)
      have Rr1_9 := Lib.hid (Rr1_8.out.below b71 rfl)
      have Rrg_9 := Lib.hid (Rrg_8.out.below b71 rfl)
      have Rrw_9 := Lib.hid (Rrw_0.out.below b71 rfl)
      have T_9 := Lib.hid (T_8.out.trans (b71.mono T_8.out.size))
      clear b71 K1_8 Rr1_8 Rrg_8 Rrw_0 T_8
      clear Rrw_9
      go_upto_if 75 with fail
      go_cut [] from 10 (fun wy => Hid (Below wx.heap.size wx wy))
      case first =>
        as_aux_lemma =>
        cases fo with
        | false =>
          go_wp2
          go_meet
          case rel => exact Lib.hid (Below.refl _ _)
        | true =>
          obtain ⟨eg, hss, h4, s1, s2, s3, s4⟩ := HFK.out rfl
          subst eg
          have HG := Lib.hid (fun (k : Nat) (hk : k < (memI ss).length) => sub_step h4 hss hk)
          have hsk : (subB l1 ss).length = (memI ss).length := by rw [subB_len, memI_len]
          generalize memI ss = gl at *
          generalize subB l1 ss = sb at *
          clear hss HFK
          have hsb : sb.length ≤ 1048576 := by omega
          have EB1 := Lib.hid (fun W v h h2 => implBrakeWay_c M1 P1 v sb x1 W h hsb h2)
          have EB2 := Lib.hid (fun W h h2 => implBrakeWay_c M1 P1 (.slice ar1 l1.length cr1) l1 x1 W h hn_1 h2)
          rw [s1] at EB1
          rw [s3] at EB2
          generalize wy10 M1 P1 sb x1 (full10 sb.length) = wq at *
          generalize wy10 M1 P1 l1 x1 (full10 l1.length) = wa at *
          have t1 : decide (y1 < wq) = false := decide_eq_false (by omega)
          have t2 : decide (wq < wa) = false := decide_eq_false (by omega)
          clear s1 s2 s3 s4
          have hk8 := blk_new3 (wx.alloc (.cells #[] 35)) (.int .i64 M1) (.int .i64 P1) (.slice (some ⟨wx.heap.size, 0, none⟩) 0 0) 26
          simp only [World.size_alloc] at hk8
          have HK3 := Lib.hid hk8
          have HO3 := Lib.hid ((World.ownsRow_made wx #[] 0 (base := wx.heap.size) (e := 35) (size := 2) (by omega) (by decide) rfl).alloc (.cells #[.int .i64 M1, .int .i64 P1, .slice (some ⟨wx.heap.size, 0, none⟩) 0 0] 26))
          have HY3 := Lib.hid (((Below.refl wx.heap.size wx).alloc (Nat.le_refl _) (.cells #[] 35)).alloc (by simp) (.cells #[.int .i64 M1, .int .i64 P1, .slice (some ⟨wx.heap.size, 0, none⟩) 0 0] 26))
          clear hk8
          obtain ⟨k10, k11, k12⟩ := blk_cell3 K1_9.out
          go_wp2
          clear k10 k11 k12
          go_loopw [11] (fun i wr => ∃ (k : Nat) (o : Value), k ≤ gl.length ∧ i = .int .i64 (k : Int) ∧ wr.ownsRow wx.heap.size 35 2 o k (brks (sb.take k)) ∧ Hid (o.ownBlock ≠ some (wx.heap.size + 1)) ∧ Hid (Below wx.heap.size wx wr) ∧ Hid (wr.heap[wx.heap.size + 1]? = some (.cells #[.int .i64 M1, .int .i64 P1, o] 26 (0, 0)))) (fun i _ => gl.length - (intOf i).toNat)
          case atStart => exact ⟨0, _, by omega, rfl, by rw [List.take_zero]; exact HO3.out, Lib.hid (by simp [Value.ownBlock]), HY3, HK3⟩
          case round =>
            clear HO3 HY3 HK3
            obtain ⟨k, o, hk, rfl, hown, hne, hbl, K8⟩ := hrel
            obtain ⟨oa, oc, rfl⟩ := (Rs.of_own hown).shape
            have HOW := Lib.hid hown
            have hbs := hbl.out.size
            have hl8 := blk_lt K8.out
            have K9 := Lib.hid (blk_kept K1_9.out hbl.out)
            have R9 := Lib.hid (Rr1_9.out.below hbl.out rfl)
            have G9 := Lib.hid (Rrg_9.out.below hbl.out rfl)
            have T9 := Lib.hid (T_9.out.trans (hbl.out.mono T_9.out.size))
            clear hown K1_9 Rr1_9 Rrg_9 T_9
            by_cases hlt : k < gl.length
            · obtain ⟨i0, hi, hz0, hz1, hz2⟩ := info_parts Tryd.infoBrk
              obtain ⟨j, ej, hj, hst⟩ := HG.out k hlt
              have HS := Lib.hid hst
              clear hst HG EB1 EB2 T9
              obtain ⟨ao, bg, og, cg0, eg0, hao, hag⟩ := G9.out.formR
              cases eg0
              obtain ⟨rfl, hgb, hgm⟩ := hao (by omega)
              have c0 := hag k hlt
              rw [ej] at c0
              obtain ⟨bl, ol, cl, el, hlb, hlm, hBA⟩ := R9.out.at_Brk (by omega)
              cases el
              obtain ⟨d0, d1⟩ := hBA j hj
              clear hag hBA hao ej
              generalize gth l1 j = bj at *
              obtain ⟨X9, Y9⟩ := bj
              dsimp only at d0 d1
              have hki : (k : Int) < (gl.length : Int) := by omega
              have hji : (j : Int) < (l1.length : Int) := by omega
              have tk : decide ((k : Int) < (gl.length : Int)) = true := decide_eq_true hki
              have q1 : IntKind.i64.wrap ((k : Int) + 1) = (k : Int) + 1 := IntWalk.i64_in _ (by omega)
              obtain ⟨k10, k11, k12⟩ := blk_cell3 K9.out
              obtain ⟨p0, p1, p2⟩ := blk_cell3 K8.out
              obtain ⟨e0, e1, e2⟩ := blk_cell3 (blk_stay (o' := .cells #[.int .i64 X9, .int .i64 Y9] 35) K8.out)
              go_wp2_with fail
              go_region_law ((refine step_append_lies _ (by rfl) _ _ _ (by rfl) wx.heap.size 35 i0 (.agg #[.int .i64 0, .int .i64 0]) 2 16 Tryd.underlying24 hi hz0 hz1 hz2 rfl (by omega) (.slice oa k oc) k (brks (sb.take k)) (by rfl) (by repeat (first | with_reducible exact HOW.out | with_reducible refine World.ownsRow.drew ?_ | with_reducible refine World.ownsRow.alloc ?_ _)) ⟨wr.heap.size, 0, none⟩ 1 1 [.int .i64 X9, .int .i64 Y9] (by rfl) (by rfl) (World.news_of_block (cs := #[.int .i64 X9, .int .i64 Y9]) (t := 35) (fr := (0, 0)) (heap_alloc_new wr _)) (by simp [Value.oneCell']) (by omega) (by unfold maxLen; omega) (by omega) (by simp; omega) (wr.heap.size + 1) (by simp) ?_; intro gg cap w8 hown8 hgrow hat hlt8; have KG := (hgrow.block (wx.heap.size + 1) (by simp; omega) (fun e => hne.out e.symm)).trans (blk_stay (o' := .cells #[.int .i64 X9, .int .i64 Y9] 35) K8.out); obtain ⟨g0, g1, g2⟩ := blk_cell3 KG; obtain ⟨f0, f1, f2⟩ := blk_froz3 KG))
              all_goals (
                have hgn : gg ≠ wx.heap.size + 1 := by
                  rcases hat with h | h
                  · intro e; exact hne.out (by rw [h, e])
                  · omega
                have KZ8 : Hid ((w8.setCell ⟨wx.heap.size + 1, 2, none⟩ (.slice (some ⟨gg, 0, none⟩) (k + 1) cap)).heap[wx.heap.size + 1]? = some (.cells #[.int .i64 M1, .int .i64 P1, .slice (some ⟨gg, 0, none⟩) (k + 1) cap] 26 (0, 0))) := Lib.hid (by simpa using blk_put (i := 2) (v := .slice (some ⟨gg, 0, none⟩) (k + 1) cap) KG)
                have HO2 := Lib.hid (own_by (b := wx.heap.size + 1) hown8 (grown_put w8 ⟨wx.heap.size + 1, 2, none⟩ (.slice (some ⟨gg, 0, none⟩) (k + 1) cap)) (fun h => by simp [Value.ownBlock] at h; omega))
                have HBN := Lib.hid ((((hbl.out.alloc hbs (.cells #[.int .i64 X9, .int .i64 Y9] 35)).drew).grown hgrow (by simp; omega) (fun j hj => by have := (HOW.out.lt j hj).1; omega)).setCell (p := ⟨wx.heap.size + 1, 2, none⟩) (by show wx.heap.size ≤ wx.heap.size + 1; omega) (.slice (some ⟨gg, 0, none⟩) (k + 1) cap))
                have HGN : Hid ((Value.slice (some ⟨gg, 0, none⟩) (k + 1) cap).ownBlock ≠ some (wx.heap.size + 1)) := Lib.hid (fun h => by simp [Value.ownBlock] at h; omega)
                clear hown8 hgrow KG g0 g1 g2 f0 f1 f2 e0 e1 e2 p0 p1 p2 k10 k11 k12 c0 d0 d1)
              all_goals go_wp2
              all_goals go_roundw
              all_goals (first
                | (case rel => exact ⟨k + 1, _, by omega, by go_num, by rw [HS.out, brks_append, brks_one]; exact HO2.out, HGN, HBN, KZ8⟩)
                | skip)
              all_goals (first | (case measure => simp [intOf]; omega) | skip)
              all_goals (first
                | (case rel => exact ⟨k + 1, _, by omega, by go_num, by rw [HS.out, brks_append, brks_one]; exact HO2.out, HGN, HBN, KZ8⟩)
                | skip)
            · have hkk : sb.length = k := by omega
              have hRb : Rs wr (.slice oa k oc) sb.length (brks sb) := by
                have h := Rs.of_own HOW.out
                rw [List.take_of_length_le (by omega)] at h
                rw [hkk]
                exact h
              have HRb := Lib.hid hRb
              have tk : decide ((k : Int) < (gl.length : Int)) = false := decide_eq_false (by omega)
              clear hRb HOW hne G9 HG
              obtain ⟨p0, p1, p2⟩ := blk_cell3 K8.out
              go_wp2_with fail
              clear p0 p1 p2
              refine (EB1.out _ _ HRb.out (HTT.out.below T9.out)).mono ?_
              rintro e Yf ⟨rfl, bf⟩
              have K10 := Lib.hid (blk_kept K9.out bf)
              have R10 := Lib.hid (R9.out.below bf rfl)
              have T10 := Lib.hid (T9.out.trans (bf.mono T9.out.size))
              have HY10 := Lib.hid (hbl.out.trans (bf.mono hbl.out.size))
              clear bf K9 R9 T9 hbl EB1 K8 HRb
              obtain ⟨k10, k11, k12⟩ := blk_cell3 K10.out
              go_wp2_with fail
              clear k10 k11 k12
              refine (EB2.out _ R10.out (HTT.out.below T10.out)).mono ?_
              rintro e Yg ⟨rfl, bg⟩
              have HY11 := Lib.hid (HY10.out.trans (bg.mono HY10.out.size))
              clear bg EB2 K10 R10 T10 HY10
              go_wp2
              go_meet
              case rel => exact HY11
      case rest =>
        obtain ⟨wy, hwy⟩ := named10 hcut
        subst hwy
        have b72 := hcut.out
        clear hcut HFK
        clear K1_9 Rr1_9 Rrg_9
        have T_10 := Lib.hid (T_9.out.trans (b72.mono T_9.out.size))
        clear b72 T_9
        have HCode11 := Lib.hid (HC.out.below T_10.out)
        go_wp2_with fail
        refine (DrawWayWithout_any a len cap _ HCode11.out).mono ?_
        rintro e X11 ⟨M2, P2, v2, l2, x2, b2, rfl, hl11, o11, b11⟩
        clear HCode11
        have T_12 := Lib.hid (T_10.out.trans (b11.mono T_10.out.size))
        clear b11 T_10
        have hn_2 : l2.length ≤ 1048576 := by omega
        obtain ⟨ar2, cr2, rfl⟩ := (Rs.of_own o11).shape
        have Rr2_0 := Lib.hid (Rs.of_own o11)
        clear o11
        have Rr2_13 := Lib.hid (Rr2_0.out.below ((Below.refl X11.heap.size X11).alloc (Nat.le_refl _) (.cells #[.int .i64 M2, .int .i64 P2, .slice ar2 l2.length cr2] 26)) rfl)
        have T_13 := Lib.hid (T_12.out.alloc T_12.out.size (.cells #[.int .i64 M2, .int .i64 P2, .slice ar2 l2.length cr2] 26))
        have K2_13 := Lib.hid (blk_new3 X11 (.int .i64 M2) (.int .i64 P2) (.slice ar2 l2.length cr2) 26)
        clear Rr2_0 T_12
        obtain ⟨k20, k21, k22⟩ := blk_cell3 K2_13.out
        go_wp2_with fail
        clear k20 k21 k22
        generalize hW14 : X11.alloc (.cells #[.int .i64 M2, .int .i64 P2, .slice ar2 l2.length cr2] 26) = Z14 at *
        clear hW14
        refine (implWayWithout_c M2 P2 (.slice ar2 l2.length cr2) l2 x2 b2 _ Rr2_13.out hn_2 (HTT.out.below T_13.out)).mono ?_
        rintro e Y15 ⟨rfl, b15⟩
        have K2_16 := Lib.hid (blk_kept K2_13.out b15)
        have Rr2_16 := Lib.hid (Rr2_13.out.below b15 rfl)
        have T_16 := Lib.hid (T_13.out.trans (b15.mono T_13.out.size))
        clear b15 K2_13 Rr2_13 T_13
        obtain ⟨k20, k21, k22⟩ := blk_cell3 K2_16.out
        go_wp2_with fail
        clear k20 k21 k22
        refine (specWayWithout_c M2 P2 (.slice ar2 l2.length cr2) l2 x2 b2 _ Rr2_16.out hn_2).mono ?_
        rintro e Y17 ⟨rfl, b17⟩
        have K2_18 := Lib.hid (blk_kept K2_16.out b17)
        have Rr2_18 := Lib.hid (Rr2_16.out.below b17 rfl)
        have T_18 := Lib.hid (T_16.out.trans (b17.mono T_16.out.size))
        clear b17 K2_16 Rr2_16 T_16
        have HWK := Lib.hid (fun h => ww_keeps (L := M2) (S := P2) (l := l2) (x := x2) (b := b2) h)
        generalize wwV M2 P2 l2 x2 b2 = wm at *
        generalize wwOk M2 P2 l2 x2 b2 = wo at *
        obtain ⟨k20, k21, k22⟩ := blk_cell3 K2_18.out
        go_upto_if 157 with fail
        clear k20 k21 k22
        go_cut [] from 23 (fun wz => Hid (Below Y17.heap.size Y17 wz))
        case first =>
          as_aux_lemma =>
          cases wo with
          | false =>
            go_wp2
            go_meet
            case rel => exact Lib.hid (Below.refl _ _)
          | true =>
            have hY := Lib.hid (Below.refl Y17.heap.size Y17)
            have EB := Lib.hid (fun W h h2 => implBrakeWay_c M2 P2 (.slice ar2 l2.length cr2) l2 x2 W h hn_2 h2)
            obtain ⟨s1, s2⟩ := HWK.out rfl
            rw [s1] at EB
            generalize wy10 M2 P2 l2 x2 (full10 l2.length) = wq at *
            have t1 : decide (wm < wq) = false := decide_eq_false (by omega)
            clear HWK
            obtain ⟨k20, k21, k22⟩ := blk_cell3 K2_18.out
            go_wp2_with fail
            clear k20 k21 k22
            refine (EB.out _ Rr2_18.out (HTT.out.below T_18.out)).mono ?_
            rintro e Yf ⟨rfl, bf⟩
            have hYf := Lib.hid (hY.out.trans (bf.mono hY.out.size))
            clear bf EB s1 s2
            go_wp2
            go_meet
            case rel => exact hYf
        case rest =>
          obtain ⟨wz, hwz⟩ := named10 hcut
          subst hwz
          have b73 := hcut.out
          clear hcut HWK
          clear K2_18 Rr2_18
          have T_19 := Lib.hid (T_18.out.trans (b73.mono T_18.out.size))
          clear b73 T_18
          have HCode20 := Lib.hid (HC.out.below T_19.out)
          go_wp2_with fail
          refine (DrawBrakeSpeeds_any a len cap _ HCode20.out).mono ?_
          rintro e X20 ⟨M3, P3, v3, l3, x3, rfl, hl20, o20, b20⟩
          clear HCode20
          have T_21 := Lib.hid (T_19.out.trans (b20.mono T_19.out.size))
          clear b20 T_19
          have hn_3 : l3.length ≤ 1048576 := by omega
          obtain ⟨ar3, cr3, rfl⟩ := (Rs.of_own o20).shape
          have Rr3_0 := Lib.hid (Rs.of_own o20)
          clear o20
          have Rr3_22 := Lib.hid (Rr3_0.out.below ((Below.refl X20.heap.size X20).alloc (Nat.le_refl _) (.cells #[.int .i64 M3, .int .i64 P3, .slice ar3 l3.length cr3] 26)) rfl)
          have T_22 := Lib.hid (T_21.out.alloc T_21.out.size (.cells #[.int .i64 M3, .int .i64 P3, .slice ar3 l3.length cr3] 26))
          have K3_22 := Lib.hid (blk_new3 X20 (.int .i64 M3) (.int .i64 P3) (.slice ar3 l3.length cr3) 26)
          clear Rr3_0 T_21
          obtain ⟨k30, k31, k32⟩ := blk_cell3 K3_22.out
          go_wp2_with fail
          clear k30 k31 k32
          generalize hW23 : X20.alloc (.cells #[.int .i64 M3, .int .i64 P3, .slice ar3 l3.length cr3] 26) = Z23 at *
          clear hW23
          refine (implBrakeSpeeds_c M3 P3 (.slice ar3 l3.length cr3) l3 x3 _ Rr3_22.out hn_3 (HTT.out.below T_22.out)).mono ?_
          rintro e Y24 ⟨vs, rfl, os, b24⟩
          have K3_25 := Lib.hid (blk_kept K3_22.out b24)
          have Rr3_25 := Lib.hid (Rr3_22.out.below b24 rfl)
          have T_25 := Lib.hid (T_22.out.trans (b24.mono T_22.out.size))
          clear b24 K3_22 Rr3_22 T_22
          obtain ⟨ars, crs, rfl⟩ := (Rs.of_own os).shape
          have Rrs_0 := Lib.hid (Rd.of_own os)
          clear os
          obtain ⟨k30, k31, k32⟩ := blk_cell3 K3_25.out
          go_wp2_with fail
          clear k30 k31 k32
          refine (specBrakeSpeeds_c M3 P3 (.slice ar3 l3.length cr3) l3 x3 _ Rr3_25.out hn_3).mono ?_
          rintro e Y26 ⟨vt, rfl, ot, b26⟩
          have K3_27 := Lib.hid (blk_kept K3_25.out b26)
          have Rr3_27 := Lib.hid (Rr3_25.out.below b26 rfl)
          have Rrs_27 := Lib.hid (Rrs_0.out.below b26 rfl)
          have T_27 := Lib.hid (T_25.out.trans (b26.mono T_25.out.size))
          clear b26 K3_25 Rr3_25 Rrs_0 T_25
          obtain ⟨art, crt, rfl⟩ := (Rs.of_own ot).shape
          have Rrt_0 := Lib.hid (Rd.of_own ot)
          clear ot
          have hsl := spR10_len M3 P3 l3 x3 (full10 l3.length)
          have HSI := Lib.hid (spR_in (L := M3) (S := P3) (l := l3) (x := x3) (full10 l3.length))
          have HSP := Lib.hid (pairs_spR M3 P3 l3 x3 (full10 l3.length))
          have HBK := Lib.hid (fun h => bs_keeps (L := M3) (S := P3) (l := l3) (x := x3) (s := full10 l3.length) h)
          have EB1 := Lib.hid (fun W h h2 => implBrakeWay_c M3 P3 (.slice ar3 l3.length cr3) l3 x3 W h hn_3 h2)
          have EB2 := Lib.hid (fun W h => specBrakeWay_c M3 P3 (.slice ar3 l3.length cr3) l3 x3 W h hn_3)
          generalize spR10 M3 P3 l3 x3 (full10 l3.length) = sl at *
          generalize sw10 M3 P3 l3 x3 (full10 l3.length) = so at *
          generalize wy10 M3 P3 l3 x3 (full10 l3.length) = sw at *
          have t0 : (so != so) = false := by simp
          have HVS := Lib.hid (fun W h1 h2 => vInts10_c (.slice ars sl.length crs) (.slice art sl.length crt) sl W h1 h2)
          obtain ⟨k30, k31, k32⟩ := blk_cell3 K3_27.out
          go_wp2_with fail
          clear k30 k31 k32
          refine (HVS.out _ Rrs_27.out Rrt_0.out).mono ?_
          rintro e Y28 ⟨rfl, b28⟩
          have K3_29 := Lib.hid (blk_kept K3_27.out b28)
          have Rr3_29 := Lib.hid (Rr3_27.out.below b28 rfl)
          have Rrs_29 := Lib.hid (Rrs_27.out.below b28 rfl)
          have Rrt_29 := Lib.hid (Rrt_0.out.below b28 rfl)
          have T_29 := Lib.hid (T_27.out.trans (b28.mono T_27.out.size))
          clear b28 K3_27 Rr3_27 Rrs_27 Rrt_0 T_27
          clear Rrt_29
          clear HVS
          obtain ⟨k30, k31, k32⟩ := blk_cell3 K3_29.out
          go_wp2_with fail
          clear k30 k31 k32
          refine (EB1.out _ Rr3_29.out (HTT.out.below T_29.out)).mono ?_
          rintro e Y30 ⟨rfl, b30⟩
          have K3_31 := Lib.hid (blk_kept K3_29.out b30)
          have Rr3_31 := Lib.hid (Rr3_29.out.below b30 rfl)
          have Rrs_31 := Lib.hid (Rrs_29.out.below b30 rfl)
          have T_31 := Lib.hid (T_29.out.trans (b30.mono T_29.out.size))
          clear b30 K3_29 Rr3_29 Rrs_29 T_29
          clear EB1
          obtain ⟨k30, k31, k32⟩ := blk_cell3 K3_31.out
          go_wp2_with fail
          clear k30 k31 k32
          refine (EB2.out _ Rr3_31.out).mono ?_
          rintro e Y32 ⟨rfl, b32⟩
          have K3_33 := Lib.hid (blk_kept K3_31.out b32)
          have Rr3_33 := Lib.hid (Rr3_31.out.below b32 rfl)
          have Rrs_33 := Lib.hid (Rrs_31.out.below b32 rfl)
          have T_33 := Lib.hid (T_31.out.trans (b32.mono T_31.out.size))
          clear b32 K3_31 Rr3_31 Rrs_31 T_31
          clear EB2
          clear K3_33 Rr3_33
          have t9 : (sw != sw) = false := by simp
          cases so with
          | false =>
            clear HBK HSI HSP t0
            go_wp2
            go_ret
            exact ⟨by simp, T_33.out⟩
          | true =>
            obtain ⟨n1, n2, n3⟩ := HBK.out rfl
            have N2 := Lib.hid n2
            have N3 := Lib.hid n3
            have HW := Lib.hid (pairs10_bd HSI.out)
            clear n2 n3 HBK t0
            obtain ⟨ao, bs, os, cs0, es0, hao, has⟩ := Rrs_33.out.formR
            cases es0
            obtain ⟨rfl, hsb, hsm⟩ := hao (by omega)
            have HA := Lib.hid has
            clear has hao Rrs_33
            go_wp2
            go_loopw [35, 36] (fun s i wr => ∃ k : Nat, 0 < k ∧ k ≤ sl.length ∧ i = .int .i64 k ∧ s = .int .i64 (pairs10 sl (k - 1)) ∧ Hid (Below Y32.heap.size Y32 wr)) (fun _ i _ => sl.length - (intOf i).toNat)
            case atStart => exact ⟨1, by omega, by omega, rfl, rfl, Lib.hid (Below.refl _ _)⟩
            case round =>
              obtain ⟨k, h0, hk, rfl, rfl, hbel⟩ := hrel
              have HA2 := Lib.hid (HA.out.below hbel.out hsb)
              by_cases hlt : k < sl.length
              · have c0 := HA2.out k hlt
                have c1 := HA2.out (k - 1) (by omega)
                have hx := HSI.out k hlt
                have hy := HSI.out (k - 1) (by omega)
                have hw0 := HW.out (k - 1) (by omega)
                have HS := Lib.hid (pairs10_step sl h0)
                have tk : decide ((k : Int) < (sl.length : Int)) = true := decide_eq_true (by omega)
                obtain ⟨p1, p2, p3⟩ := pred_in k h0 (by omega)
                clear N2 N3 HSP
                generalize sl.getD k 0 = X at *
                generalize sl.getD (k - 1) 0 = Y at *
                generalize pairs10 sl (k - 1) = Z at *
                have q1 : IntKind.i64.wrap (Z + Y) = Z + Y := IntWalk.i64_in _ (by omega)
                have q2 : IntKind.i64.wrap (Z + Y + X) = Z + Y + X := IntWalk.i64_in _ (by omega)
                go_wp2_with fail
                go_quiet (fail)
                clear p1 p2 p3
                go_wp2
                go_roundw
                case rel => exact ⟨k + 1, by omega, by omega, by go_num, by rw [HS.out, Int.add_assoc], Lib.hid (below_drewN hbel.out _)⟩
                case measure => simp [intOf]; omega
              · obtain rfl : k = sl.length := by omega
                have tk : decide ((sl.length : Int) < (sl.length : Int)) = false := decide_eq_false (by omega)
                have c0 := HA2.out 0 (by omega)
                have c1 := HA2.out (sl.length - 1) (by omega)
                rw [N2.out] at c0
                rw [N3.out] at c1
                rw [Nat.add_zero] at c0
                obtain ⟨p1, p2, p3⟩ := pred_in sl.length h0 (by omega)
                have hp0 : (0 : Int) < (sl.length : Int) := by omega
                rw [HSP.out]
                clear N2 N3 HSP HSI HW
                have u1 : (sw == sw) = true := by simp
                have u2 : (x3 == x3) = true := by simp
                go_wp2
                go_ret
                exact ⟨by simp, below_tr T_33 hbel⟩
end Go.Proofs.YthmoogkllpcebaaDoor
