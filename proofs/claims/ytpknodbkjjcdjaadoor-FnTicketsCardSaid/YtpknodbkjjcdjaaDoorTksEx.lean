/- ExpiredOn: the program's and the specification's answer as one function. Condition: sizes; the table of rules is as laid. -/
import Derived.Test.YtpknodbkjjcdjaaDoorTkMath2
import Derived.Test.YtpknodbkjjcdjaaDoorTikQ
import Derived.Test.YtpknodbkjjcdjaaDoorIntS
import Derived.Deep.AppendLies
namespace Go.Proofs.YtpknodbkjjcdjaaDoor
open Go.RowKit
set_option linter.unusedVariables false
theorem Tryd.infoInt11 : (Tryd.prog.info? 3).map (fun i => (i.zero, i.size, i.bytes)) = some (some (.int .i64 0), 1, 8) := by kernel_rfl
set_option maxRecDepth 100000 in
set_option maxHeartbeats 4000000 in
theorem implExpiredOn_c (v : Value) (l : List Tik) (d : Int) (w : World) (hr : Rs w v l.length (tiks l)) (hn : l.length ≤ 1048576) (hT : RulP w) :
    Calls Tryd.prog 25 #[v, .int .i64 d] w fun e w' => ∃ g, e = .returned (.tuple #[g, .bool (exOk l d)]) ∧ w'.ownsRow w.heap.size 3 1 g (exR l d).length (intVs (exR l d)) ∧ Below w.heap.size w w' := by
  obtain ⟨i0, hi, hz0, hz1, hz2⟩ := info_parts Tryd.infoInt11
  have E0 := Lib.hid (fun W h h2 => implAreTickets_c v l W h hn h2)
  have E1 := Lib.hid (fun W => isTicketDay_c d W)
  have hd : exOk l d = (tikL l && inR d 0 999) := rfl
  have HR := Lib.hid hr
  have HTT := Lib.hid hT
  clear hT
  obtain ⟨ao, a, oa, ca, rfl, hao, hat⟩ := hr.form_Tik
  have HA := Lib.hid hao
  have HL := Lib.hid hat
  clear hr hao hat
  cases hk : tikL l with
  | false =>
    rw [hk] at E0 hd
    have HN := Lib.hid (ex_no (l := l) (d := d) (by rw [hd]; rfl))
    have HD := Lib.hid hd
    clear hk hd E1
    go_enter Tryd.func25, Tryd.ntmps25
    go_wp2_with fail
    refine (E0.out _ HR.out HTT.out).mono ?_
    rintro e w1 ⟨rfl, b1⟩
    go_wp2
    go_ret2
    exact ⟨_, by rw [HD.out]; rfl, by rw [HN.out]; exact World.ownsRow_made _ #[] 0 b1.size (by decide) rfl, b1.alloc b1.size _⟩
  | true =>
    cases hm : inR d 0 999 with
    | false =>
      rw [hk] at E0
      rw [hm] at E1
      rw [hk, hm] at hd
      have HN := Lib.hid (ex_no (l := l) (d := d) (by rw [hd]; rfl))
      have HD := Lib.hid hd
      clear hk hm hd
      go_enter Tryd.func25, Tryd.ntmps25
      go_wp2_with fail
      refine (E0.out _ HR.out HTT.out).mono ?_
      rintro e w1 ⟨rfl, b1⟩
      go_wp2_with fail
      refine (E1.out _).mono ?_
      rintro e w2 ⟨rfl, rfl⟩
      go_wp2
      go_ret2
      exact ⟨_, by rw [HD.out]; rfl, by rw [HN.out]; exact World.ownsRow_made _ #[] 0 b1.size (by decide) rfl, b1.alloc b1.size _⟩
    | true =>
      have hc := tikL_yes hk
      have h12 := hc.len
      have HI := Lib.hid (fun j (h : j < l.length) => hc.one h)
      rw [hk] at E0
      rw [hm] at E1
      rw [hk, hm] at hd
      have HN := Lib.hid (ex_yes (l := l) (d := d) (by rw [hd]; rfl))
      have HD := Lib.hid hd
      clear hk hm hd hc
      go_enter Tryd.func25, Tryd.ntmps25
      go_wp2_with fail
      refine (E0.out _ HR.out HTT.out).mono ?_
      rintro e w1 ⟨rfl, b1⟩
      go_wp2_with fail
      refine (E1.out _).mono ?_
      rintro e w2 ⟨rfl, rfl⟩
      have hb2 := b1.size
      go_wp2
      go_loopw [6, 21] (fun o i wr => ∃ k : Nat, k ≤ l.length ∧ i = .int .i64 k ∧ wr.ownsRow w.heap.size 3 1 o (numsT ((l.take k).filter (expd d))).length (intVs (numsT ((l.take k).filter (expd d)))) ∧ Hid (Below w.heap.size w wr)) (fun _ i _ => l.length - (intOf i).toNat)
      case atStart => exact ⟨0, by omega, rfl, World.ownsRow_made _ #[] 0 b1.size (by decide) rfl, Lib.hid (b1.alloc b1.size _)⟩
      case round =>
        obtain ⟨k, hkl, rfl, hown, hbel⟩ := hrel
        have hbs := hbel.out.size
        have hfl : (numsT ((l.take k).filter (expd d))).length ≤ 12 := by rw [numsT_len]; have := filtT_len (expd d) l k; omega
        by_cases hlt : k < l.length
        · obtain ⟨rfl, hla, hlm⟩ := HA.out (by omega)
          obtain ⟨c0, c1, c2, c3, c4⟩ := (HL.out.below hbel.out hla) k hlt
          have hone := HI.out k hlt
          have h6 := (isT_iff _).1 hone
          have HY := Lib.hid (fun h => filtT_yes (q := expd d) hlt h)
          have HNo := Lib.hid (fun h => filtT_no (q := expd d) hlt h)
          have hlaw : a < wr.heap.size := by omega
          have HE := Lib.hid (exp_iff (d := d) hone)
          have HF := Lib.hid (fun W h => isForDay_t (gth l k) d W h hone)
          generalize hX : expd d (gth l k) = X at *
          generalize forD (gth l k) d = FD at *
          generalize gth l k = D at *
          by_cases hdy : D.w ≤ d
          · have t1 : decide (D.w ≤ d) = true := by simpa using hdy
            go_wp2_with fail
            have HX5 := Lib.hid (box_Tik wr D 31 _ rfl)
            have hownW := Lib.hid (hown.alloc (.cells #[.int .i64 D.i, .int .i64 D.s, .int .i64 D.w, .int .i64 D.g, .int .i64 D.p] 31))
            generalize hW0 : wr.alloc (.cells #[.int .i64 D.i, .int .i64 D.s, .int .i64 D.w, .int .i64 D.g, .int .i64 D.p] 31) = W0 at *
            have hs0 : W0.heap.size = wr.heap.size + 1 := by rw [← hW0]; simp
            have B0 : Hid (Below wr.heap.size wr W0) := Lib.hid (by rw [← hW0]; exact (Below.refl _ _).alloc (Nat.le_refl _) _)
            have BW := Lib.hid (hbel.out.trans (B0.out.mono hbs))
            clear hW0 hown c0 c1 c2 c3 c4
            refine (HF.out _ (HTT.out.below BW.out)).mono ?_
            rintro e w5 ⟨rfl, b5⟩
            obtain ⟨d0, d1, d2, d3, d4⟩ := HX5.out _ (by rw [← hs0]; exact b5)
            have hown5 := own_below hownW.out b5
            have B5 := Lib.hid (BW.out.trans (b5.mono BW.out.size))
            have hz5 := B5.out.size
            clear HX5 b5
            cases FD with
            | true =>
              have hx : X = false := by rw [HE.out]; simp
              have HS := Lib.hid (HNo.out hx)
              go_wp2
              go_roundw
              case rel => exact ⟨k + 1, by omega, by go_num, by rw [HS.out]; exact hown5, B5⟩
              case measure => simp [intOf]; omega
            | false =>
              have hx : X = true := by rw [HE.out]; simp [hdy]
              have HS := Lib.hid (HY.out hx)
              go_wp2_with (at_builtin; refine wpList_append_own _ rfl _ _ 40 rfl w.heap.size 3 i0 (.int .i64 0) 1 8 Tryd.underlying40 hi hz0 hz1 hz2 rfl (by decide) _ _ _ rfl (hown5.alloc _) ⟨w5.heap.size, 0, none⟩ 1 1 [.int .i64 D.i] rfl rfl (cell_one_new _ _ _) (by simp [Value.oneCell']) (by unfold maxLen; omega) (by omega) (by simp; omega) ?_; intro v' w3 hown' hgrow _)
              go_roundw
              case rel => exact ⟨k + 1, by omega, by go_num, by rw [HS.out, numsT_one]; simpa [intVs] using hown', Lib.hid ((B5.out.alloc hz5 _).grown hgrow (by simp; omega) (fun j hj => (hown5.lt j hj).1))⟩
              case measure => simp [intOf]; omega
          · have t1 : decide (D.w ≤ d) = false := by simpa using hdy
            have hx : X = false := by rw [HE.out]; simp [hdy]
            have HS := Lib.hid (HNo.out hx)
            go_wp2
            go_roundw
            case rel => exact ⟨k + 1, by omega, by go_num, by rw [HS.out]; exact hown.alloc _, Lib.hid (hbel.out.alloc hbs _)⟩
            case measure => simp [intOf]; omega
        · obtain rfl : k = l.length := by omega
          rw [List.take_length] at hown
          go_wp2
          go_ret2
          exact ⟨_, by rw [HD.out]; rfl, by rw [HN.out]; exact hown, hbel.out⟩
set_option maxRecDepth 100000 in
set_option maxHeartbeats 4000000 in
theorem specExpiredOn_c (v : Value) (l : List Tik) (d : Int) (w : World) (hr : Rs w v l.length (tiks l)) (hn : l.length ≤ 1048576) :
    Calls Tryd.prog 29 #[v, .int .i64 d] w fun e w' => ∃ g, e = .returned (.tuple #[g, .bool (exOk l d)]) ∧ w'.ownsRow w.heap.size 3 1 g (exR l d).length (intVs (exR l d)) ∧ Below w.heap.size w w' := by
  obtain ⟨i0, hi, hz0, hz1, hz2⟩ := info_parts Tryd.infoInt11
  have E0 := Lib.hid (fun W h => l11Good_c v l W h (by omega))
  have E1 := Lib.hid (fun W => l11Day_c d W)
  have hd : exOk l d = (tikL l && inR d 0 999) := rfl
  have HR := Lib.hid (Rs.below hr ((Below.refl _ _).alloc (Nat.le_refl _) (.cells #[] 3)) rfl)
  have HO := Lib.hid (World.ownsRow_made w #[] 0 (base := w.heap.size) (e := 3) (size := 1) (Nat.le_refl _) (by decide) rfl)
  have HT := Lib.hid ((Below.refl w.heap.size w).alloc (Nat.le_refl _) (.cells #[] 3))
  obtain ⟨ao, a, oa, ca, rfl, hao, hat⟩ := hr.form_Tik
  have HA := Lib.hid hao
  have HL := Lib.hid hat
  clear hr hao hat
  cases hk : tikL l with
  | false =>
    rw [hk] at E0 hd
    have HN := Lib.hid (ex_no (l := l) (d := d) (by rw [hd]; rfl))
    have HD := Lib.hid hd
    clear hk hd E1
    go_enter Tryd.func29, Tryd.ntmps29
    go_wp2_with fail
    refine (E0.out _ HR.out).mono ?_
    rintro e w1 ⟨rfl, b1⟩
    go_wp2
    go_ret2
    exact ⟨_, by rw [HD.out]; rfl, by rw [HN.out]; exact own_below HO.out b1, HT.out.trans (b1.mono HT.out.size)⟩
  | true =>
    cases hm : inR d 0 999 with
    | false =>
      rw [hk] at E0
      rw [hm] at E1
      rw [hk, hm] at hd
      have HN := Lib.hid (ex_no (l := l) (d := d) (by rw [hd]; rfl))
      have HD := Lib.hid hd
      clear hk hm hd
      go_enter Tryd.func29, Tryd.ntmps29
      go_wp2_with fail
      refine (E0.out _ HR.out).mono ?_
      rintro e w1 ⟨rfl, b1⟩
      go_wp2_with fail
      refine (E1.out _).mono ?_
      rintro e w2 ⟨rfl, rfl⟩
      go_wp2
      go_ret2
      exact ⟨_, by rw [HD.out]; rfl, by rw [HN.out]; exact own_below HO.out b1, HT.out.trans (b1.mono HT.out.size)⟩
    | true =>
      have hc := tikL_yes hk
      have h12 := hc.len
      have HI := Lib.hid (fun j (h : j < l.length) => hc.one h)
      rw [hk] at E0
      rw [hm] at E1
      rw [hk, hm] at hd
      have HN := Lib.hid (ex_yes (l := l) (d := d) (by rw [hd]; rfl))
      have HD := Lib.hid hd
      clear hk hm hd hc
      go_enter Tryd.func29, Tryd.ntmps29
      go_wp2_with fail
      refine (E0.out _ HR.out).mono ?_
      rintro e w1 ⟨rfl, b1⟩
      go_wp2_with fail
      refine (E1.out _).mono ?_
      rintro e w2 ⟨rfl, rfl⟩
      have hb2 := b1.size
      go_wp2
      go_loopw [6, 7] (fun o i wr => ∃ k : Nat, k ≤ l.length ∧ i = .int .i64 k ∧ wr.ownsRow w.heap.size 3 1 o (numsT ((l.take k).filter (expd d))).length (intVs (numsT ((l.take k).filter (expd d)))) ∧ Hid (Below w.heap.size w wr)) (fun _ i _ => l.length - (intOf i).toNat)
      case atStart => exact ⟨0, by omega, rfl, own_below HO.out b1, Lib.hid (HT.out.trans (b1.mono HT.out.size))⟩
      case round =>
        obtain ⟨k, hkl, rfl, hown, hbel⟩ := hrel
        have hbs := hbel.out.size
        have hfl : (numsT ((l.take k).filter (expd d))).length ≤ 12 := by rw [numsT_len]; have := filtT_len (expd d) l k; omega
        by_cases hlt : k < l.length
        · obtain ⟨rfl, hla, hlm⟩ := HA.out (by omega)
          obtain ⟨c0, c1, c2, c3, c4⟩ := (HL.out.below hbel.out hla) k hlt
          have hone := HI.out k hlt
          have h6 := (isT_iff _).1 hone
          have HY := Lib.hid (fun h => filtT_yes (q := expd d) hlt h)
          have HNo := Lib.hid (fun h => filtT_no (q := expd d) hlt h)
          have hlaw : a < wr.heap.size := by omega
          have HE : Hid (expd d (gth l k) = decide ((gth l k).w + tD (gth l k).s - 1 < d)) := Lib.hid rfl
          have HF := Lib.hid (fun W => l11Last_c (gth l k) W (by omega) (by omega))
          generalize expd d (gth l k) = X at *
          generalize (gth l k).w + tD (gth l k).s - 1 = LD at *
          generalize gth l k = D at *
          go_wp2_with fail
          refine (HF.out _).mono ?_
          rintro e w5 ⟨rfl, b5⟩
          have hown5 := own_below hown b5
          have B5 := Lib.hid (hbel.out.trans (b5.mono hbs))
          have hz5 := B5.out.size
          have y0 := (b5.cell (p := ⟨a, oa + k * 5, none⟩) hlaw).trans c0
          clear c0 c1 c2 c3 c4 hown b5
          by_cases hdy : LD < d
          · have t1 : decide (LD < d) = true := by simpa using hdy
            have HS := Lib.hid (HY.out (by rw [HE.out, t1]))
            go_wp2_with (at_builtin; refine wpList_append_own _ rfl _ _ 40 rfl w.heap.size 3 i0 (.int .i64 0) 1 8 Tryd.underlying40 hi hz0 hz1 hz2 rfl (by decide) _ _ _ rfl (hown5.alloc _) ⟨w5.heap.size, 0, none⟩ 1 1 [.int .i64 D.i] rfl rfl (cell_one_new _ _ _) (by simp [Value.oneCell']) (by unfold maxLen; omega) (by omega) (by simp; omega) ?_; intro v' w3 hown' hgrow _)
            go_roundw
            case rel => exact ⟨k + 1, by omega, by go_num, by rw [HS.out, numsT_one]; simpa [intVs] using hown', Lib.hid ((B5.out.alloc hz5 _).grown hgrow (by simp; omega) (fun j hj => (hown5.lt j hj).1))⟩
            case measure => simp [intOf]; omega
          · have t1 : decide (LD < d) = false := by simpa using hdy
            have HS := Lib.hid (HNo.out (by rw [HE.out, t1]))
            go_wp2
            go_roundw
            case rel => exact ⟨k + 1, by omega, by go_num, by rw [HS.out]; exact hown5, B5⟩
            case measure => simp [intOf]; omega
        · obtain rfl : k = l.length := by omega
          rw [List.take_length] at hown
          go_wp2
          go_ret2
          exact ⟨_, by rw [HD.out]; rfl, by rw [HN.out]; exact hown, hbel.out⟩
end Go.Proofs.YtpknodbkjjcdjaaDoor
