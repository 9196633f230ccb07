/- The law FnSpans's walk. Condition: sizes. -/
import Derived.Test.YtdnmmafnjhgeiabDrawSpans
import Derived.Test.YtdnmmafnjhgeiabSpansHelp
import Derived.WalkArith
namespace Go.Proofs.Ytdnmmafnjhgeiab
open Go.RowKit
set_option linter.unusedVariables false
theorem own_shape {w : World} {B e size n : Nat} {v : Value} {xs : List Value} (h : w.ownsRow B e size v n xs) (h0 : 0 < n) : ∃ g cap, v = .slice (some ⟨g, 0, none⟩) n cap ∧ g < w.heap.size ∧ n ≤ cap ∧ cap ≤ maxLen := by
  rcases h.2 with ⟨_, h1⟩ | ⟨g, cap, cur, rfl, hb, hg, hn, hcm, _⟩
  · omega
  · exact ⟨g, cap, rfl, (Array.getElem?_eq_some_iff.1 hg).1, hn, hcm⟩
set_option maxRecDepth 100000 in
set_option maxHeartbeats 8000000 in
theorem FnSpans_walk (a : Option Addr) (len cap : Nat) (w : World) (h : ByteRow w a len) :
    Calls Try.prog 3 #[.slice a len cap] w fun e w' => e = .returned (.bool true) ∧ Below w.heap.size w w' := by
  have hm := h.1
  have HC := Lib.hid h
  clear h
  by_cases hbig : 65536 < len
  · go_enter Try.func3, Try.ntmps3
    go_wp2_with fail
    refine (vBig_yes a len cap _ hbig hm).mono ?_
    rintro e w' ⟨rfl, rfl⟩
    go_wp2_with fail
    go_ret
    exact ⟨rfl, Below.refl _ _⟩
  · go_enter Try.func3, Try.ntmps3
    go_wp2_with fail
    refine (vBig_no a len cap _ (by omega)).mono ?_
    rintro e w' ⟨rfl, rfl⟩
    go_wp2_with fail
    refine (DrawSpanLengths_any a len cap _ HC.out).mono ?_
    rintro e W1 ⟨v, l, rfl, o1, hl, b1⟩
    have T1 := Lib.hid b1
    have O1 := Lib.hid o1
    clear b1 o1
    go_wp2_with fail
    refine (implSpanLengths_c v l _ (Rs.of_own O1.out) (by omega)).mono ?_
    rintro e W2 ⟨g1, rfl, og1, b2⟩
    have O2 := Lib.hid (owns_below O1.out b2)
    have G2 := Lib.hid og1
    have T2 := Lib.hid (T1.out.trans (b2.mono T1.out.size))
    clear b2 og1 O1
    go_wp2_with fail
    refine (specSpanLengths_c v l _ (Rs.of_own O2.out) (by omega)).mono ?_
    rintro e W3 ⟨g2, rfl, og2, b3⟩
    have O3 := Lib.hid (owns_below O2.out b3)
    have G3 := Lib.hid (owns_below G2.out b3)
    have T3 := Lib.hid (T2.out.trans (b3.mono T2.out.size))
    have G3' := Lib.hid og2
    clear b3 og2 O2 G2
    go_wp2_with fail
    refine (vInts_c g1 g2 (lens l) _ (Rd.of_own G3.out) (Rd.of_own G3'.out)).mono ?_
    rintro e W4 ⟨rfl, b4⟩
    have O4 := Lib.hid (owns_below O3.out b4)
    have G4 := Lib.hid (owns_below G3.out b4)
    have T4 := Lib.hid (T3.out.trans (b4.mono T3.out.size))
    clear b4 O3 G3 G3'
    go_wp2_with fail
    refine (implStationsOf_c v l _ (Rs.of_own O4.out) (by omega)).mono ?_
    rintro e W5 ⟨g3, rfl, og3, b5⟩
    have O5 := Lib.hid (owns_below O4.out b5)
    have G5 := Lib.hid (owns_below G4.out b5)
    have P5 := Lib.hid og3
    have T5 := Lib.hid (T4.out.trans (b5.mono T4.out.size))
    clear b5 og3 O4 G4
    go_wp2_with fail
    refine (specStationsOf_c v l _ (Rs.of_own O5.out) (by omega)).mono ?_
    rintro e W6 ⟨g4, rfl, og4, b6⟩
    have O6 := Lib.hid (owns_below O5.out b6)
    have G6 := Lib.hid (owns_below G5.out b6)
    have P6 := Lib.hid (owns_below P5.out b6)
    have Q6 := Lib.hid og4
    have T6 := Lib.hid (T5.out.trans (b6.mono T5.out.size))
    clear b6 og4 O5 G5 P5
    go_wp2_with fail
    refine (vInts_c g3 g4 (stas l) _ (Rd.of_own P6.out) (Rd.of_own Q6.out)).mono ?_
    rintro e W7 ⟨rfl, b7⟩
    have O7 := Lib.hid (owns_below O6.out b7)
    have G7 := Lib.hid (owns_below G6.out b7)
    have P7 := Lib.hid (owns_below P6.out b7)
    have T7 := Lib.hid (T6.out.trans (b7.mono T6.out.size))
    clear b7 O6 G6 P6 Q6
    go_wp2_with fail
    refine (implSteepestSpan_c v l _ (Rs.of_own O7.out) (by omega)).mono ?_
    rintro e W8 ⟨rfl, b8⟩
    have O8 := Lib.hid (owns_below O7.out b8)
    have G8 := Lib.hid (owns_below G7.out b8)
    have P8 := Lib.hid (owns_below P7.out b8)
    have T8 := Lib.hid (T7.out.trans (b8.mono T7.out.size))
    clear b8 O7 G7 P7
    go_wp2_with fail
    refine (specSteepestSpan_c v l _ (Rs.of_own O8.out) (by omega)).mono ?_
    rintro e W9 ⟨rfl, b9⟩
    have O9 := Lib.hid (owns_below O8.out b9)
    have G9 := Lib.hid (owns_below G8.out b9)
    have P9 := Lib.hid (owns_below P8.out b9)
    have T9 := Lib.hid (T8.out.trans (b9.mono T8.out.size))
    clear b9 O8 G8 P8
    cases hb : isL l with
    | false =>
      have HT := T9
      clear O9 G9 P9 T9
      have HCode := Lib.hid (HC.out.below HT.out)
      go_wp2_with fail
      refine (DrawChordAt_any a len cap _ HCode.out).mono ?_
      rintro e X1 ⟨vx, lx, p, rfl, hp, ox, hlx, bx1⟩
      have HT1 := Lib.hid (HT.out.trans (bx1.mono HT.out.size))
      have HP := Lib.hid (WalkArith.wf_i64 (n := p) (by omega))
      have OX := Lib.hid ox
      clear ox bx1
      go_wp2_with fail
      refine (implChordAt_c vx lx p _ (Rs.of_own OX.out) (by omega) HP.out).mono ?_
      rintro e X2 ⟨rfl, bx2⟩
      have OX2 := Lib.hid (owns_below OX.out bx2)
      have HT2 := Lib.hid (HT1.out.trans (bx2.mono HT1.out.size))
      clear bx2
      go_wp2_with fail
      refine (specChordAt_c vx lx p _ (Rs.of_own OX2.out) (by omega) HP.out).mono ?_
      rintro e X3 ⟨rfl, bx3⟩
      have HT3 := Lib.hid (HT2.out.trans (bx3.mono HT2.out.size))
      clear bx3
      have HCode3 := Lib.hid (HC.out.below HT3.out)
      go_wp2_with fail
      refine (DrawSpanAt_any a len cap _ HCode3.out).mono ?_
      rintro e X4 ⟨vy, ly, q, rfl, hq, oy, hly, bx4⟩
      have HT4 := Lib.hid (HT3.out.trans (bx4.mono HT3.out.size))
      have HQ := Lib.hid (WalkArith.wf_i64 (n := q) (by omega))
      have OY := Lib.hid oy
      clear oy bx4
      go_wp2_with fail
      refine (implSpanAt_c vy ly q _ (Rs.of_own OY.out) (by omega) HQ.out).mono ?_
      rintro e X5 ⟨rfl, bx5⟩
      have OY5 := Lib.hid (owns_below OY.out bx5)
      have HT5 := Lib.hid (HT4.out.trans (bx5.mono HT4.out.size))
      clear bx5
      go_wp2_with fail
      refine (specSpanAt_c vy ly q _ (Rs.of_own OY5.out) (by omega) HQ.out).mono ?_
      rintro e X6 ⟨rfl, bx6⟩
      have OY6 := Lib.hid (owns_below OY5.out bx6)
      have HT6 := Lib.hid (HT5.out.trans (bx6.mono HT5.out.size))
      clear bx6
      obtain ⟨gy, capy, rfl, hgy, hcy, hmy⟩ := own_shape OY6.out (by omega)
      cases hon : onL ly q with
      | false =>
        go_wp2
        go_ret
        exact ⟨rfl, HT6.out⟩
      | true =>
        have HOn := onAt hon
        have hso : spanOf ly q = ((spanN ly q : Nat) : Int) := by simp [spanOf, hon]
        rw [hso]
        generalize spanN ly q = z at *
        have hz := HOn.lt
        have hlo := HOn.lo
        have hhi := HOn.hi
        have c0 := (OY6.out.cellAt (z * 3) (by omega)).trans (sups_at ly z (by omega)).1
        have c1 := (OY6.out.cellAt ((z + 1) * 3) (by omega)).trans (sups_at ly (z + 1) hz).1
        have hz1 : z < ly.length := by omega
        clear HOn hon hso
        generalize (nth ly z).a = A at *
        generalize (nth ly (z + 1)).a = B at *
        go_wp2
        go_ret
        exact ⟨rfl, HT6.out⟩
    | true =>
      have hL := isL_yes hb
      have HL := Lib.hid hL
      have h2 := hL.two
      have h8 := hL.eight
      have hsum : sumK (lens l) (lens l).length = (nth l (l.length - 1)).a := by
        rw [lens_yes hb, lensK_len]; exact sumK_lens hL _ (by omega)
      have hsb : ∀ k, k ≤ (lens l).length → -100000 ≤ sumK (lens l) k ∧ sumK (lens l) k ≤ 100000 := fun k hk => by
        rw [lens_yes hb, lensK_len] at hk
        rw [lens_yes hb, sumK_lens hL k (by omega)]
        have := hL.bd (i := k) (by omega); omega
      have hll : (lens l).length = l.length - 1 := by rw [lens_yes hb, lensK_len]
      have hst : steep l = ((stpK l (l.length - 1) : Nat) : Int) := by simp [steep, hb]
      have hsl := stpK_bd l (l.length - 1) (by omega) h2
      have HSum : Hid (∀ n, Calls Try.prog 13 #[g1] (W9.drewN n) fun e w' => e = .returned (.int .i64 (nth l (l.length - 1)).a) ∧ w' = W9.drewN n) := Lib.hid (fun n => vSum_any g1 (lens l) _ _ ((Rd.of_own G9.out).drewN n) (by omega) hsb hsum)
      have HZ := stas_zero hb
      have hsn := stas_len l
      have HH0 : Hid (∀ n, Calls Try.prog 14 #[g3, .int .i64 0] (W9.drewN n) fun e w' => e = .returned (.bool true) ∧ w' = W9.drewN n) := Lib.hid (fun n => vHas_yes g3 (stas l) 0 _ ((Rd.of_own P9.out).drewN n) hsn HZ.1)
      have HH1 : Hid (∀ n, Calls Try.prog 14 #[g3, .int .i64 ((l.length : Int) - 1)] (W9.drewN n) fun e w' => e = .returned (.bool true) ∧ w' = W9.drewN n) := Lib.hid (fun n => vHas_yes g3 (stas l) _ _ ((Rd.of_own P9.out).drewN n) hsn HZ.2)
      have HChord : Hid (∀ k, k < l.length → chN l (nth l k).a = (nth l k).h ∧ chD l (nth l k).a = 1 ∧ onL l (nth l k).a = true) := Lib.hid (fun k hk => chord_at hL hk)
      obtain ⟨g, cp, rfl, hg, hcp, hcm⟩ := own_shape O9.out (by omega)
      have y0 := (O9.out.cellAt ((l.length - 1) * 3) (by omega)).trans (sups_at l (l.length - 1) (by omega)).1
      obtain ⟨gl, cl, rfl, hgl, hcl, hclm⟩ := own_shape G9.out (by omega)
      rw [hst]
      generalize (lens l).length = m at *
      have hm1 : m + 1 ≤ l.length := by omega
      have hm2 : l.length ≤ m + 1 := by omega
      clear hll
      generalize stpK l (l.length - 1) = st at *
      obtain ⟨p1, p2, p3⟩ := pred_in l.length (by omega) (by omega)
      have hz1 : l.length - 1 < l.length := by omega
      have hz2 : (l.length : Int) - 1 < (l.length : Int) := by omega
      have q1 : IntKind.i64.wrap ((m : Int) - 1) = (m : Int) - 1 := IntWalk.i64_in _ (by omega)
      have q2 : decide ((m : Int) - 1 < (st : Int)) = false := by simp; omega
      clear hsum hsb hst HZ hL hb
      go_wp2_with fail
      go_quiet ((first
        | (go_at_call 13; exact (HSum.out _).mono fun _ _ h => ⟨h.1, _, h.2⟩)
        | (go_at_call_of 14 (Value.int IntKind.i64 0); exact (HH0.out _).mono fun _ _ h => ⟨h.1, _, h.2⟩)
        | (go_at_call 14; exact (HH1.out _).mono fun _ _ h => ⟨h.1, _, h.2⟩)))
      have OB := Lib.hid (own_drew O9.out (w' := W9.drewN nq) ⟨nq, rfl⟩)
      have TB := Lib.hid (Drew.below_trans T9.out (c := W9.drewN nq) ⟨nq, rfl⟩)
      have hgb : g < (W9.drewN nq).heap.size := hg
      clear O9 G9 P9 T9 y0 p1 p2 p3 q1 q2 HSum HH0 HH1
      generalize W9.drewN nq = Wb at *
      go_wp2_with fail
      go_loopw [16] (fun i wr => ∃ k : Nat, k ≤ l.length ∧ i = .int .i64 k ∧ Hid (Below Wb.heap.size Wb wr)) (fun i _ => l.length - (intOf i).toNat)
      case atStart => exact ⟨0, Nat.zero_le _, rfl, Lib.hid (Below.refl _ _)⟩
      case round =>
        obtain ⟨k, hk, rfl, HBk⟩ := hrel
        have Ok := Lib.hid (owns_below OB.out HBk.out)
        by_cases hlt : k < l.length
        · obtain ⟨h1, h3, h4⟩ := HChord.out k hlt
          have c0 := (Ok.out.cellAt (k * 3) (by omega)).trans (sups_at l k hlt).1
          have HW := Lib.hid (WalkArith.wf_i64 (n := (nth l k).a) (by have := HL.out.bd hlt; omega))
          have H1 := Lib.hid (And.intro h1 (And.intro h3 h4))
          clear h1 h3 h4
          go_wp2_with fail
          refine (implChordAt_c _ l (nth l k).a _ (Rs.of_own Ok.out) (by omega) HW.out).mono ?_
          rw [H1.out.1, H1.out.2.1, H1.out.2.2]
          rintro e Wk ⟨rfl, bk⟩
          have HBk2 := Lib.hid (HBk.out.trans (bk.mono HBk.out.size))
          have Ok2 := Lib.hid (owns_below Ok.out bk)
          have c1 := (Ok2.out.cellAt (k * 3 + 1) (by omega)).trans (sups_at l k hlt).2.1
          clear bk c0 Ok HBk H1
          generalize (nth l k).h = B at *
          go_wp2
          go_roundw
          case rel => exact ⟨k + 1, by omega, by go_num, HBk2⟩
          case measure => simp [intOf]; omega
        · have HT := Lib.hid (TB.out.trans (HBk.out.mono TB.out.size))
          clear OB TB HBk Ok HChord
          have HCode := Lib.hid (HC.out.below HT.out)
          go_wp2_with fail
          refine (DrawChordAt_any a len cap _ HCode.out).mono ?_
          rintro e X1 ⟨vx, lx, p, rfl, hp, ox, hlx, bx1⟩
          have HT1 := Lib.hid (HT.out.trans (bx1.mono HT.out.size))
          have HP := Lib.hid (WalkArith.wf_i64 (n := p) (by omega))
          have OX := Lib.hid ox
          clear ox bx1
          go_wp2_with fail
          refine (implChordAt_c vx lx p _ (Rs.of_own OX.out) (by omega) HP.out).mono ?_
          rintro e X2 ⟨rfl, bx2⟩
          have OX2 := Lib.hid (owns_below OX.out bx2)
          have HT2 := Lib.hid (HT1.out.trans (bx2.mono HT1.out.size))
          clear bx2
          go_wp2_with fail
          refine (specChordAt_c vx lx p _ (Rs.of_own OX2.out) (by omega) HP.out).mono ?_
          rintro e X3 ⟨rfl, bx3⟩
          have HT3 := Lib.hid (HT2.out.trans (bx3.mono HT2.out.size))
          clear bx3
          have HCode3 := Lib.hid (HC.out.below HT3.out)
          go_wp2_with fail
          refine (DrawSpanAt_any a len cap _ HCode3.out).mono ?_
          rintro e X4 ⟨vy, ly, q, rfl, hq, oy, hly, bx4⟩
          have HT4 := Lib.hid (HT3.out.trans (bx4.mono HT3.out.size))
          have HQ := Lib.hid (WalkArith.wf_i64 (n := q) (by omega))
          have OY := Lib.hid oy
          clear oy bx4
          go_wp2_with fail
          refine (implSpanAt_c vy ly q _ (Rs.of_own OY.out) (by omega) HQ.out).mono ?_
          rintro e X5 ⟨rfl, bx5⟩
          have OY5 := Lib.hid (owns_below OY.out bx5)
          have HT5 := Lib.hid (HT4.out.trans (bx5.mono HT4.out.size))
          clear bx5
          go_wp2_with fail
          refine (specSpanAt_c vy ly q _ (Rs.of_own OY5.out) (by omega) HQ.out).mono ?_
          rintro e X6 ⟨rfl, bx6⟩
          have OY6 := Lib.hid (owns_below OY5.out bx6)
          have HT6 := Lib.hid (HT5.out.trans (bx6.mono HT5.out.size))
          clear bx6
          obtain ⟨gy, capy, rfl, hgy, hcy, hmy⟩ := own_shape OY6.out (by omega)
          cases hon : onL ly q with
          | false =>
            go_wp2
            go_ret
            exact ⟨rfl, HT6.out⟩
          | true =>
            have HOn := onAt hon
            have hso : spanOf ly q = ((spanN ly q : Nat) : Int) := by simp [spanOf, hon]
            rw [hso]
            generalize spanN ly q = z at *
            have hz := HOn.lt
            have hlo := HOn.lo
            have hhi := HOn.hi
            have c0 := (OY6.out.cellAt (z * 3) (by omega)).trans (sups_at ly z (by omega)).1
            have c1 := (OY6.out.cellAt ((z + 1) * 3) (by omega)).trans (sups_at ly (z + 1) hz).1
            have hz1 : z < ly.length := by omega
            clear HOn hon hso
            generalize (nth ly z).a = A at *
            generalize (nth ly (z + 1)).a = B at *
            go_wp2
            go_ret
            exact ⟨rfl, HT6.out⟩
end Go.Proofs.Ytdnmmafnjhgeiab
