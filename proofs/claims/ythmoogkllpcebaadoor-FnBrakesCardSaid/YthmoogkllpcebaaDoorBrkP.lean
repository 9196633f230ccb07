/- The fewest brakes, the specification's side; the speeds of a stop. Condition: sizes; the library's table is as laid. -/
import Derived.Test.YthmoogkllpcebaaDoorBrkO
namespace Go.Proofs.YthmoogkllpcebaaDoor
open Go.RowKit
set_option linter.unusedVariables false
theorem fb_ask {L S : Int} {l : List Brk} {x : Int} {s : Nat} (h : ask10 L S l x = true) (g : stp10 L S l x s = true) : sw10 L S l x s = true := (sw10_yes h g).1
set_option maxRecDepth 100000 in
set_option maxHeartbeats 4000000 in
theorem specFewestBrakes_c (L S : Int) (v : Value) (l : List Brk) (x y : Int) (w : World) (hr : Rs w v l.length (brks l)) (hn : l.length ≤ 1048576) :
    Calls Tryd.prog 16 #[.agg #[.int .i64 L, .int .i64 S, v], .int .i64 x, .int .i64 y] w fun e w' => ∃ g, e = .returned (.tuple #[g, .bool (fbOk L S l x y)]) ∧ w'.ownsRow w.heap.size 3 1 g (fbR L S l x y).length (intVs (fbR L S l x y)) ∧ Below w.heap.size w w' := by
  have HR := Lib.hid hr
  obtain ⟨a, ca, rfl⟩ := hr.shape
  clear hr
  have HB := Lib.hid ((Below.refl w.heap.size w).alloc (Nat.le_refl _) (.cells #[.int .i64 L, .int .i64 S, .slice a l.length ca] 26))
  have HB0 := Lib.hid (blk_new3 w (.int .i64 L) (.int .i64 S) (.slice a l.length ca) 26)
  have E0 := Lib.hid (fun W h => l10Asked_c L S (.slice a l.length ca) l x W h hn)
  cases hk : ask10 L S l x with
  | false =>
    rw [hk] at E0
    have HD := Lib.hid (fb_unasked (y := y) hk)
    have HX := Lib.hid (fb_no HD.out)
    clear hk
    go_enter Tryd.func16, Tryd.ntmps16
    go_wp2_with fail
    have HB2 := Lib.hid (HB.out.alloc HB.out.size (.cells #[] 3))
    refine (E0.out _ (HR.out.below HB2.out rfl)).mono ?_
    rintro e w1 ⟨rfl, b1⟩
    have HT := Lib.hid (HB2.out.trans (b1.mono HB2.out.size))
    have HO := Lib.hid (owns_below (World.ownsRow_made (w.alloc (.cells #[.int .i64 L, .int .i64 S, .slice a l.length ca] 26)) (base := w.heap.size) (e := 3) (size := 1) #[] 0 HB.out.size (by decide) rfl) b1)
    simp only [World.size_alloc] at HO
    clear b1
    go_wp2
    go_ret2
    exact ⟨_, ret_v10 HD.out.symm, by rw [HX.out]; exact HO.out, HT.out⟩
  | true =>
    have hl4 := ask_len hk
    have hf16 := full10_lt _ hl4
    by_cases h0 : 0 ≤ y
    · rw [hk] at E0
      have t0 : decide (y < 0) = false := by simp; omega
      have HFL := Lib.hid (full_lt l.length)
      obtain ⟨g1, g2⟩ := fb_in (L := L) (S := S) (l := l) (x := x) (y := y) ((ask10_iff _ _ _ _).1 hk).1 h0
      have HX := Lib.hid (And.intro g1 g2)
      have HAL := Lib.hid (fun W h => l10All_c L S (.slice a l.length ca) l W h hl4)
      have HWC := Lib.hid (fun (k : Nat) (hlt : k < 2 ^ l.length) W h => l10Way_c L S (.slice a l.length ca) l x k W h hk hlt)
      have HLT := Lib.hid (fun (k : Nat) => wyS_lt (s := k) hk)
      have HSW := Lib.hid (fun (k : Nat) g => fb_ask (s := k) hk g)
      clear hk g1 g2
      go_enter Tryd.func16, Tryd.ntmps16
      go_wp2_with fail
      have HB2 := Lib.hid (HB.out.alloc HB.out.size (.cells #[] 3))
      have HBK := Lib.hid (blk_stay (o' := .cells #[] 3) HB0.out)
      refine (E0.out _ (HR.out.below HB2.out rfl)).mono ?_
      rintro e w1 ⟨rfl, b1⟩
      have HT := Lib.hid (HB2.out.trans (b1.mono HB2.out.size))
      have HO1 := Lib.hid (owns_below (World.ownsRow_made (w.alloc (.cells #[.int .i64 L, .int .i64 S, .slice a l.length ca] 26)) (base := w.heap.size) (e := 3) (size := 1) #[] 0 HB.out.size (by decide) rfl) b1)
      simp only [World.size_alloc] at HO1
      have HK1 := Lib.hid (blk_keep HBK.out b1 (by simp; omega))
      have hw1 : w.heap.size < w1.heap.size := by have := b1.size; simp at this; omega
      clear b1
      generalize hfl : full10 l.length = fl at *
      clear hfl
      go_wp2
      go_loopw [8, 9, 10] (fun m f i wr => ∃ k : Nat, k ≤ fl + 1 ∧ i = .int .i64 (k : Int) ∧ wr.ownsRow w.heap.size 3 1 m (memI (bstS (fbF L S l x y) k)).length (intVs (memI (bstS (fbF L S l x y) k))) ∧ f = .bool (bstF (fbF L S l x y) k) ∧ Hid (Below w1.heap.size w1 wr)) (fun _ _ i _ => fl + 1 - (intOf i).toNat)
      case atStart => exact ⟨0, by omega, rfl, by rw [show bstS (fbF L S l x y) 0 = 0 from rfl, memI_zero]; exact HO1.out, rfl, Lib.hid (Below.refl _ _)⟩
      case round =>
        obtain ⟨k, hk, rfl, hown, rfl, hbel⟩ := hrel
        have hbs := hbel.out.size
        have HO := Lib.hid hown
        clear hown
        have HTR := Lib.hid (HT.out.trans (hbel.out.mono HT.out.size))
        have HKR := Lib.hid (blk_keep HK1.out hbel.out hw1)
        have hwr : w.heap.size < wr.heap.size := by omega
        have hS16 := bstS_lt (fbF L S l x y) k (by omega)
        obtain ⟨d0, d1, d2⟩ := blk_cell3 HKR.out
        go_wp2_with fail
        refine (HAL.out _ (HR.out.below HTR.out rfl)).mono ?_
        rintro e w2 ⟨rfl, b2⟩
        have HB2' := Lib.hid (hbel.out.trans (b2.mono hbs))
        have hbs2 := HB2'.out.size
        have HT2 := Lib.hid (HT.out.trans (HB2'.out.mono HT.out.size))
        have HO2 := Lib.hid (owns_below HO.out b2)
        have HK2 := Lib.hid (blk_keep HKR.out b2 hwr)
        clear b2 d0 d1 d2 HO HKR
        obtain ⟨d0, d1, d2⟩ := blk_cell3 HK2.out
        by_cases hlt : k ≤ fl
        · have t1 : decide ((k : Int) ≤ (fl : Int)) = true := by simp; omega
          have q2 : IntKind.i64.wrap ((k : Int) + 1) = (k : Int) + 1 := IntWalk.i64_in _ (by omega)
          have hk16 : k < 16 := by omega
          have EW := Lib.hid (HWC.out k (by have := HFL.out; omega) w2 (HR.out.below HT2.out rfl))
          have HLTK := Lib.hid (HLT.out k)
          have HNO := Lib.hid (fun h => bst_no (f := fbF L S l x y) (k := k) h)
          have HFI := Lib.hid (fun h g => bst_first (f := fbF L S l x y) (k := k) h g)
          have HBE := Lib.hid (fun h g b => bst_better (f := fbF L S l x y) (k := k) h g b)
          have HWO := Lib.hid (fun h g b => bst_worse (f := fbF L S l x y) (k := k) h g b)
          have HQ1 := Lib.hid (fun h => fbF_out (L := L) (S := S) (l := l) (x := x) (y := y) (s := k) h)
          have HQ2 := Lib.hid (fun h => fbF_far (L := L) (S := S) (l := l) (x := x) (y := y) (s := k) h)
          have HQ3 := Lib.hid (fun h g => fbF_yes (L := L) (S := S) (l := l) (x := x) (y := y) (s := k) h g)
          have HWE : Hid (stp10 L S l x k = true → wyS L S l x k = way10 L S l x k) := Lib.hid (fun g => by unfold wyS; rw [g]; rfl)
          have HST2 : Hid (stp10 L S l x k = false → sw10 L S l x k = false) := Lib.hid (fun g => (sw10_stay g).1)
          have HSWK := Lib.hid (HSW.out k)
          have HMM := Lib.hid (fun W => l10Members_c k W hk16)
          have HML := Lib.hid (memI_len4 hk16)
          have HSL := Lib.hid (memI_len4 hS16)
          have HBM := Lib.hid (bef_mem k hk16 _ hS16)
          generalize hms : bstS (fbF L S l x y) k = ms at *
          generalize hfd : bstF (fbF L S l x y) k = fd at *
          clear hms hfd
          cases hst : stp10 L S l x k with
          | false =>
            have t2 := HLTK.out
            rw [hst] at t2
            simp only [Bool.not_false] at t2
            have HX2 := Lib.hid (HNO.out (HQ1.out (HST2.out hst)))
            clear hst HNO HFI HBE HWO HQ1 HQ2 HQ3 HWE HST2 HSWK HLTK
            generalize wyS L S l x k = wy at *
            go_wp2_with fail
            refine EW.out.mono ?_
            rintro e w3 ⟨rfl, b3⟩
            have HB3 := Lib.hid (HB2'.out.trans (b3.mono hbs2))
            have HO3 := Lib.hid (owns_below HO2.out b3)
            clear b3 d0 d1 d2
            go_wp2
            go_roundw
            case rel => exact ⟨k + 1, by omega, by go_num, by rw [HX2.out.1]; exact HO3.out, by rw [HX2.out.2], HB3⟩
            case measure => simp [intOf]; omega
          | true =>
            have t2 := HLTK.out
            rw [hst] at t2
            simp only [Bool.not_true] at t2
            rw [HWE.out hst] at EW t2
            have HSG := Lib.hid (HSWK.out hst)
            by_cases hy : way10 L S l x k ≤ y
            · have HG := Lib.hid (HQ3.out HSG.out hy)
              have t3 : decide (y < way10 L S l x k) = false := by simp; omega
              clear hst hy HNO HQ1 HQ2 HQ3 HWE HST2 HSWK HLTK HSG
              generalize way10 L S l x k = wy at *
              go_wp2_with fail
              refine EW.out.mono ?_
              rintro e w3 ⟨rfl, b3⟩
              have HB3 := Lib.hid (HB2'.out.trans (b3.mono hbs2))
              have hbs3 := HB3.out.size
              have HO3 := Lib.hid (owns_below HO2.out b3)
              clear b3 d0 d1 d2
              go_wp2_with fail
              refine (HMM.out _).mono ?_
              rintro e w4 ⟨g, rfl, o4, b4⟩
              have HB4 := Lib.hid (HB3.out.trans (b4.mono hbs3))
              have hbs4 := HB4.out.size
              have HO4 := Lib.hid (owns_below HO3.out b4)
              have HG4 := Lib.hid o4
              have hwb : w.heap.size ≤ w3.heap.size := by omega
              clear b4 o4
              cases fd with
              | false =>
                have HX2 := Lib.hid (HFI.out HG.out rfl)
                clear HFI HBE HWO
                go_wp2
                go_roundw
                case rel => exact ⟨k + 1, by omega, by go_num, by rw [HX2.out.1]; exact own_mono HG4.out hwb, by rw [HX2.out.2], HB4⟩
                case measure => simp [intOf]; omega
              | true =>
                cases hbf : bef10 k ms with
                | true =>
                  have HX2 := Lib.hid (HBE.out HG.out rfl hbf)
                  rw [hbf] at HBM
                  clear HFI HBE HWO hbf
                  go_wp2_with fail
                  refine (l10Before_c _ _ (memI k) (memI ms) _ (Rd.of_own HG4.out) (Rd.of_own HO4.out) HML.out HSL.out).mono ?_
                  rintro e w5 ⟨rfl, b5⟩
                  rw [HBM.out]
                  have HB5 := Lib.hid (HB4.out.trans (b5.mono hbs4))
                  have HG5 := Lib.hid (owns_below HG4.out b5)
                  clear b5
                  go_wp2
                  go_roundw
                  case rel => exact ⟨k + 1, by omega, by go_num, by rw [HX2.out.1]; exact own_mono HG5.out hwb, by rw [HX2.out.2], HB5⟩
                  case measure => simp [intOf]; omega
                | false =>
                  have HX2 := Lib.hid (HWO.out HG.out rfl hbf)
                  rw [hbf] at HBM
                  clear HFI HBE HWO hbf
                  go_wp2_with fail
                  refine (l10Before_c _ _ (memI k) (memI ms) _ (Rd.of_own HG4.out) (Rd.of_own HO4.out) HML.out HSL.out).mono ?_
                  rintro e w5 ⟨rfl, b5⟩
                  rw [HBM.out]
                  have HB5 := Lib.hid (HB4.out.trans (b5.mono hbs4))
                  have HO5 := Lib.hid (owns_below HO4.out b5)
                  clear b5
                  go_wp2
                  go_roundw
                  case rel => exact ⟨k + 1, by omega, by go_num, by rw [HX2.out.1]; exact HO5.out, by rw [HX2.out.2], HB5⟩
                  case measure => simp [intOf]; omega
            · have HX2 := Lib.hid (HNO.out (HQ2.out hy))
              have t3 : decide (y < way10 L S l x k) = true := by simp; omega
              clear hst hy HNO HFI HBE HWO HQ1 HQ2 HQ3 HWE HST2 HSWK HLTK HSG
              generalize way10 L S l x k = wy at *
              go_wp2_with fail
              refine EW.out.mono ?_
              rintro e w3 ⟨rfl, b3⟩
              have HB3 := Lib.hid (HB2'.out.trans (b3.mono hbs2))
              have HO3 := Lib.hid (owns_below HO2.out b3)
              clear b3 d0 d1 d2
              go_wp2
              go_roundw
              case rel => exact ⟨k + 1, by omega, by go_num, by rw [HX2.out.1]; exact HO3.out, by rw [HX2.out.2], HB3⟩
              case measure => simp [intOf]; omega
        · obtain rfl : k = fl + 1 := by omega
          have t1 : decide (((fl + 1 : Nat) : Int) ≤ (fl : Int)) = false := by simp; omega
          have HXX := Lib.hid HX.out
          generalize bstS (fbF L S l x y) (fl + 1) = ms at *
          generalize bstF (fbF L S l x y) (fl + 1) = fd at *
          clear d0 d1 d2 hS16
          go_wp2
          go_ret2
          exact ⟨_, ret_v10 HX.out.1.symm, by rw [HX.out.2]; exact HO2.out, HT2.out⟩
    · rw [hk] at E0
      have HD := Lib.hid (fb_off (L := L) (S := S) (l := l) (x := x) (y := y) (.inr h0))
      have HX := Lib.hid (fb_no HD.out)
      have t0 : decide (y < 0) = true := by simp; omega
      clear hk
      go_enter Tryd.func16, Tryd.ntmps16
      go_wp2_with fail
      have HB2 := Lib.hid (HB.out.alloc HB.out.size (.cells #[] 3))
      refine (E0.out _ (HR.out.below HB2.out rfl)).mono ?_
      rintro e w1 ⟨rfl, b1⟩
      have HT := Lib.hid (HB2.out.trans (b1.mono HB2.out.size))
      have HO := Lib.hid (owns_below (World.ownsRow_made (w.alloc (.cells #[.int .i64 L, .int .i64 S, .slice a l.length ca] 26)) (base := w.heap.size) (e := 3) (size := 1) #[] 0 HB.out.size (by decide) rfl) b1)
      simp only [World.size_alloc] at HO
      clear b1
      go_wp2
      go_ret2
      exact ⟨_, ret_v10 HD.out.symm, by rw [HX.out]; exact HO.out, HT.out⟩
set_option maxRecDepth 100000 in
set_option maxHeartbeats 4000000 in
theorem implBrakeSpeeds_c (L S : Int) (v : Value) (l : List Brk) (x : Int) (w : World) (hr : Rs w v l.length (brks l)) (hn : l.length ≤ 1048576) (hT : BruP w) :
    Calls Tryd.prog 25 #[.agg #[.int .i64 L, .int .i64 S, v], .int .i64 x] w fun e w' => ∃ g, e = .returned (.tuple #[g, .bool (sw10 L S l x (full10 l.length))]) ∧ w'.ownsRow w.heap.size 3 1 g (spR10 L S l x (full10 l.length)).length (intVs (spR10 L S l x (full10 l.length))) ∧ Below w.heap.size w w' := by
  have HR := Lib.hid hr
  obtain ⟨a, ca, rfl⟩ := hr.shape
  clear hr
  have HB := Lib.hid ((Below.refl w.heap.size w).alloc (Nat.le_refl _) (.cells #[.int .i64 L, .int .i64 S, .slice a l.length ca] 26))
  have HB0 := Lib.hid (blk_new3 w (.int .i64 L) (.int .i64 S) (.slice a l.length ca) 26)
  have HTB := Lib.hid (hT.below HB.out)
  clear hT
  have HSP := Lib.hid (fun W h h2 => speedsWith_c L S (.slice a l.length ca) l x (allV l.length) (full10 l.length) W h hn all_use h2)
  go_enter Tryd.func25, Tryd.ntmps25
  go_wp2_with fail
  generalize hW0 : w.alloc (.cells #[.int .i64 L, .int .i64 S, .slice a l.length ca] 26) = W0 at *
  have hs0 : W0.heap.size = w.heap.size + 1 := by rw [← hW0]; simp
  clear hW0
  have HK2 : Hid (∀ W, Below W0.heap.size W0 W → Below W0.heap.size W0 W ∧ W.cell? ⟨w.heap.size, 0, none⟩ = some (.int .i64 L) ∧ W.cell? ⟨w.heap.size, 1, none⟩ = some (.int .i64 S) ∧ W.cell? ⟨w.heap.size, 2, none⟩ = some (.slice a l.length ca)) := Lib.hid (fun W hW => ⟨hW, blk_cell3 (blk_keep HB0.out hW (by omega))⟩)
  have HAB := Lib.hid (fun W (hW : Below W0.heap.size W0 W) => allBrakes_c L S (.slice a l.length ca) l W (HR.out.below (HB.out.trans (hW.mono HB.out.size)) rfl) hn)
  change Hid (∀ W, Below W0.heap.size W0 W → Calls Tryd.prog 50 #[.agg #[.int .i64 L, .int .i64 S, .slice a l.length ca]] W fun e w' => e = .returned (.int .u64 (allV l.length)) ∧ Below W.heap.size W w') at HAB
  have HSW := Lib.hid (fun W (hW : Below W0.heap.size W0 W) => HSP.out W (HR.out.below (HB.out.trans (hW.mono HB.out.size)) rfl) (HTB.out.below hW))
  generalize allV l.length = AV at *
  go_region_held3 (fun w' => Below W0.heap.size W0 w' ∧ w'.cell? ⟨w.heap.size, 0, none⟩ = some (.int .i64 L) ∧ w'.cell? ⟨w.heap.size, 1, none⟩ = some (.int .i64 S) ∧ w'.cell? ⟨w.heap.size, 2, none⟩ = some (.slice a l.length ca)) (exact HK2.out _ (by first | exact Below.refl _ _ | exact below_drewN (Below.refl _ _) _ | exact (Below.refl _ _).drew | (go_split_ands; refine Below.trans ?_ (Below.mono b1 (Below.size (B := W0.heap.size) ?_)) <;> assumption) | (go_split_ands; refine Below.trans ?_ (Below.mono b0 (Below.size (B := W0.heap.size) ?_)) <;> assumption) | (go_split_ands; exact b0) | (go_split_ands; exact (Below.refl _ _).drew.trans b0) | (go_split_ands; exact b1) | (go_split_ands; exact (Below.refl _ _).drew.trans b1) | (go_split_ands; refine below_drewN ?_ _; assumption) | fail))
    (first
      | (go_at_call 50; refine (HAB.out _ (by first | exact Below.refl _ _ | exact below_drewN (Below.refl _ _) _ | exact (Below.refl _ _).drew | (go_split_ands; assumption) | (go_split_ands; exact (Below.trans b0 (Below.mono (Below.refl _ _) (Below.size b0)))) | (go_split_ands; exact (Below.trans b1 (Below.mono (Below.refl _ _) (Below.size b1)))) | (go_split_ands; exact (Below.refl _ _).drew.trans b0) | (go_split_ands; exact (Below.refl _ _).drew.trans b1) | fail)).mono ?_; rintro e Z0 ⟨rfl, b0⟩)
      | (go_at_call 65; refine (HSW.out _ (by first | exact Below.refl _ _ | exact below_drewN (Below.refl _ _) _ | exact (Below.refl _ _).drew | (go_split_ands; assumption) | (go_split_ands; exact (Below.trans b0 (Below.mono (Below.refl _ _) (Below.size b0)))) | (go_split_ands; exact (Below.trans b1 (Below.mono (Below.refl _ _) (Below.size b1)))) | (go_split_ands; exact (Below.refl _ _).drew.trans b0) | (go_split_ands; exact (Below.refl _ _).drew.trans b1) | fail)).mono ?_; rintro e Z1 ⟨g, rfl, o1, b1⟩)
      | fail)
  have HT0 : Below W0.heap.size W0 Z1 := by go_split_ands; assumption
  have HT := Lib.hid (HB.out.trans (HT0.mono HB.out.size))
  have HOO := Lib.hid o1
  go_wp2
  go_ret2
  exact ⟨_, rfl, own_mono HOO.out (by have hz := b0.size; have hd : W0.drew.heap.size = W0.heap.size := rfl; omega), HT.out⟩
set_option maxRecDepth 100000 in
set_option maxHeartbeats 4000000 in
theorem specBrakeSpeeds_c (L S : Int) (v : Value) (l : List Brk) (x : Int) (w : World) (hr : Rs w v l.length (brks l)) (hn : l.length ≤ 1048576) :
    Calls Tryd.prog 26 #[.agg #[.int .i64 L, .int .i64 S, v], .int .i64 x] w fun e w' => ∃ g, e = .returned (.tuple #[g, .bool (sw10 L S l x (full10 l.length))]) ∧ w'.ownsRow w.heap.size 3 1 g (spR10 L S l x (full10 l.length)).length (intVs (spR10 L S l x (full10 l.length))) ∧ Below w.heap.size w w' := by
  have HR := Lib.hid hr
  obtain ⟨a, ca, rfl⟩ := hr.shape
  clear hr
  have HB := Lib.hid ((Below.refl w.heap.size w).alloc (Nat.le_refl _) (.cells #[.int .i64 L, .int .i64 S, .slice a l.length ca] 26))
  have HB0 := Lib.hid (blk_new3 w (.int .i64 L) (.int .i64 S) (.slice a l.length ca) 26)
  have E0 := Lib.hid (fun W h => l10Asked_c L S (.slice a l.length ca) l x W h hn)
  cases hk : ask10 L S l x with
  | false =>
    rw [hk] at E0
    have HX := Lib.hid (sw10_no hk (full10 l.length))
    clear hk
    go_enter Tryd.func26, Tryd.ntmps26
    go_wp2_with fail
    refine (E0.out _ (HR.out.below HB.out rfl)).mono ?_
    rintro e w1 ⟨rfl, b1⟩
    have HT := Lib.hid (HB.out.trans (b1.mono HB.out.size))
    clear b1
    go_wp2
    go_ret2
    exact ⟨_, ret_v10 HX.out.1.symm, by rw [HX.out.2.1]; exact World.ownsRow_made _ #[] 0 HT.out.size (by decide) rfl, HT.out.alloc HT.out.size _⟩
  | true =>
    rw [hk] at E0
    have hl4 := ask_len hk
    have HAC := Lib.hid (fun W h => l10All_c L S (.slice a l.length ca) l W h hl4)
    have HSC := Lib.hid (fun W h => l10Speeds_c L S (.slice a l.length ca) l x (full10 l.length) W h hk (full_lt _))
    have HS1 := Lib.hid (fun g => sw10_yes (s := full10 l.length) hk g)
    have HS2 := Lib.hid (fun g => sw10_stay (L := L) (S := S) (l := l) (x := x) (s := full10 l.length) g)
    have HLN := Lib.hid (spL_len L (frS S l (full10 l.length)) x (rd10 L S l x (full10 l.length)))
    clear hk
    go_enter Tryd.func26, Tryd.ntmps26
    go_wp2_with fail
    refine (E0.out _ (HR.out.below HB.out rfl)).mono ?_
    rintro e w1 ⟨rfl, b1⟩
    have HT := Lib.hid (HB.out.trans (b1.mono HB.out.size))
    have HK1 := Lib.hid (blk_keep HB0.out b1 (by simp))
    have hw1 : w.heap.size < w1.heap.size := by have := b1.size; simp at this; omega
    clear b1
    go_wp2_with fail
    have HK2 : Hid (∀ W, Below w1.heap.size w1 W → Below w1.heap.size w1 W ∧ W.cell? ⟨w.heap.size, 0, none⟩ = some (.int .i64 L) ∧ W.cell? ⟨w.heap.size, 1, none⟩ = some (.int .i64 S) ∧ W.cell? ⟨w.heap.size, 2, none⟩ = some (.slice a l.length ca)) := Lib.hid (fun W hW => ⟨hW, blk_cell3 (blk_keep HK1.out hW (by omega))⟩)
    have HAL := Lib.hid (fun W (hW : Below w1.heap.size w1 W) => HAC.out W (HR.out.below (HT.out.trans (hW.mono HT.out.size)) rfl))
    have HSW := Lib.hid (fun W (hW : Below w1.heap.size w1 W) => HSC.out W (HR.out.below (HT.out.trans (hW.mono HT.out.size)) rfl))
    go_region_held3 (fun w' => Below w1.heap.size w1 w' ∧ w'.cell? ⟨w.heap.size, 0, none⟩ = some (.int .i64 L) ∧ w'.cell? ⟨w.heap.size, 1, none⟩ = some (.int .i64 S) ∧ w'.cell? ⟨w.heap.size, 2, none⟩ = some (.slice a l.length ca)) (exact HK2.out _ (by first | exact Below.refl _ _ | exact below_drewN (Below.refl _ _) _ | exact (Below.refl _ _).drew | (go_split_ands; refine Below.trans ?_ (Below.mono b1 (Below.size (B := w1.heap.size) ?_)) <;> assumption) | (go_split_ands; refine Below.trans ?_ (Below.mono b0 (Below.size (B := w1.heap.size) ?_)) <;> assumption) | (go_split_ands; exact b0) | (go_split_ands; exact (Below.refl _ _).drew.trans b0) | (go_split_ands; exact b1) | (go_split_ands; exact (Below.refl _ _).drew.trans b1) | (go_split_ands; refine below_drewN ?_ _; assumption) | fail))
      (first
        | (go_at_call 55; refine (HAL.out _ (by first | exact Below.refl _ _ | exact below_drewN (Below.refl _ _) _ | exact (Below.refl _ _).drew | (go_split_ands; assumption) | (go_split_ands; exact (Below.trans b0 (Below.mono (Below.refl _ _) (Below.size b0)))) | (go_split_ands; exact (Below.trans b1 (Below.mono (Below.refl _ _) (Below.size b1)))) | (go_split_ands; exact (Below.refl _ _).drew.trans b0) | (go_split_ands; exact (Below.refl _ _).drew.trans b1) | fail)).mono ?_; rintro e Z0 ⟨rfl, b0⟩)
        | (go_at_call 66; refine (HSW.out _ (by first | exact Below.refl _ _ | exact below_drewN (Below.refl _ _) _ | exact (Below.refl _ _).drew | (go_split_ands; assumption) | (go_split_ands; exact (Below.trans b0 (Below.mono (Below.refl _ _) (Below.size b0)))) | (go_split_ands; exact (Below.trans b1 (Below.mono (Below.refl _ _) (Below.size b1)))) | (go_split_ands; exact (Below.refl _ _).drew.trans b0) | (go_split_ands; exact (Below.refl _ _).drew.trans b1) | fail)).mono ?_; rintro e Z1 ⟨g, rfl, o1, b1⟩)
        | fail)
    have HT0 : Below w1.heap.size w1 Z1 := by go_split_ands; assumption
    have HT2 := Lib.hid (HT.out.trans (HT0.mono HT.out.size))
    have HOO := Lib.hid o1
    have hz : w.heap.size ≤ Z0.heap.size := by have hz := b0.size; have hd : w1.drew.heap.size = w1.heap.size := rfl; omega
    cases hst : stp10 L S l x (full10 l.length) with
    | false =>
      have HX := Lib.hid (HS2.out hst)
      clear hst
      go_wp2
      go_ret2
      exact ⟨_, ret_v10 HX.out.1.symm, by rw [HX.out.2.1]; exact World.ownsRow_made _ #[] 0 HT2.out.size (by decide) rfl, HT2.out.alloc HT2.out.size _⟩
    | true =>
      have HX := Lib.hid (HS1.out hst)
      clear hst
      go_wp2
      go_ret2
      exact ⟨_, ret_v10 HX.out.1.symm, by rw [HX.out.2.1, HLN.out]; exact own_mono HOO.out hz, HT2.out⟩
end Go.Proofs.YthmoogkllpcebaaDoor
