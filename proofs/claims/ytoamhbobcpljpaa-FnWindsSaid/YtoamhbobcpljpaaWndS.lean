/- l12Run and spec.RunWind. Condition: sizes. -/
import Derived.Test.YtoamhbobcpljpaaWndR
namespace Go.Proofs.Ytoamhbobcpljpaa
open Go.RowKit
set_option linter.unusedVariables false
set_option maxRecDepth 100000 in
set_option maxHeartbeats 4000000 in
theorem l12Run_c (r : Wru) (s : Wst) (v : Value) (l : List Int) (w : World) (hr : Rd w v (intVs l)) (h50 : l.length ≤ 50) (hv : wsV r s = true) :
    Calls Try.prog 57 #[.agg #[.int .i64 r.a, .int .i64 r.b, .int .i64 r.c, .int .i64 r.d], .agg #[.int .i64 s.l, .int .i64 s.c], v] w fun e w' => ∃ g, e = .returned (.tuple #[g, .agg #[.int .i64 (stK r s l l.length).l, .int .i64 (stK r s l l.length).c]]) ∧ w'.ownsRow w.heap.size 3 1 g (lvK r s l l.length).length (intVs (lvK r s l l.length)) ∧ Below w.heap.size w w' := by
  obtain ⟨i0, hi, hy0, hy1, hy2⟩ := info_parts Try.infoIntR
  have HV := Lib.hid hv
  obtain ⟨ao, a, oa, ca, rfl, hao, hat⟩ := hr.formR
  have HA := Lib.hid hao
  have HL := Lib.hid hat
  have K0 := Lib.hid (three_new w (.cells #[.int .i64 r.a, .int .i64 r.b, .int .i64 r.c, .int .i64 r.d] 25) (.cells #[.int .i64 s.l, .int .i64 s.c] 27) (.int .i64 0) (.int .i64 0) 27)
  have J0 := Lib.hid (two_new w (.cells #[.int .i64 r.a, .int .i64 r.b, .int .i64 r.c, .int .i64 r.d] 25) (.cells #[.int .i64 0, .int .i64 0] 27) (.int .i64 s.l) (.int .i64 s.c) 27)
  have R0 := Lib.hid (one_new w (.int .i64 r.a) (.int .i64 r.b) (.int .i64 r.c) (.int .i64 r.d) (.cells #[.int .i64 s.l, .int .i64 s.c] 27) (.cells #[.int .i64 0, .int .i64 0] 27) 25)
  have T0 := Lib.hid (l12_below3 w (.cells #[.int .i64 r.a, .int .i64 r.b, .int .i64 r.c, .int .i64 r.d] 25) (.cells #[.int .i64 s.l, .int .i64 s.c] 27) (.cells #[.int .i64 0, .int .i64 0] 27))
  have hs0 : (((w.alloc (.cells #[.int .i64 r.a, .int .i64 r.b, .int .i64 r.c, .int .i64 r.d] 25)).alloc (.cells #[.int .i64 s.l, .int .i64 s.c] 27)).alloc (.cells #[.int .i64 0, .int .i64 0] 27)).heap.size = w.heap.size + 3 := by simp
  have OW0 : Hid (((((w.alloc (.cells #[.int .i64 r.a, .int .i64 r.b, .int .i64 r.c, .int .i64 r.d] 25)).alloc (.cells #[.int .i64 s.l, .int .i64 s.c] 27)).alloc (.cells #[.int .i64 0, .int .i64 0] 27)).alloc (.cells #[] 3)).ownsRow (w.heap.size + 3) 3 1 (.slice (some ⟨w.heap.size + 3, 0, none⟩) 0 0) ([] : List Int).length (intVs [])) := Lib.hid (own_none hs0.symm (by omega))
  clear hr hao hat hv
  go_enter Try.func57, Try.ntmps57
  go_wp2
  go_loopw [8, 9] (fun o i wr => ∃ k : Nat, k ≤ l.length ∧ i = .int .i64 k ∧ wr.ownsRow (w.heap.size + 3) 3 1 o (lvK r s l k).length (intVs (lvK r s l k)) ∧ Hid (Below w.heap.size w wr) ∧ Hid (wr.heap[w.heap.size]? = some (.cells #[.int .i64 r.a, .int .i64 r.b, .int .i64 r.c, .int .i64 r.d] 25)) ∧ Hid (wr.heap[w.heap.size + 1]? = some (.cells #[.int .i64 (stK r s l k).l, .int .i64 (stK r s l k).c] 27)) ∧ Hid (wr.heap[w.heap.size + 2]? = some (.cells #[.int .i64 0, .int .i64 0] 27)) ∧ w.heap.size + 3 ≤ wr.heap.size) (fun _ i _ => l.length - (intOf i).toNat)
  case atStart => exact ⟨0, by omega, rfl, OW0.out, Lib.hid (T0.out.alloc T0.out.size _), Lib.hid (blk_stay R0.out), Lib.hid (by rw [stK_zero]; exact blk_stay J0.out), Lib.hid (blk_stay K0.out), by simp⟩
  case round =>
    obtain ⟨k, hk, rfl, hown, hbel, hR, hJ, hK, hsz⟩ := hrel
    by_cases hlt : k < l.length
    · obtain ⟨rfl, hla, hlm⟩ := HA.out (by omega)
      have c0 := (HL.out.below hbel.out hla) k hlt
      obtain ⟨r0, r1, r2, r3⟩ := blk_cell4 hR.out
      obtain ⟨s0, s1⟩ := blk_cell2 hJ.out
      have HST : Hid (stK r s l (k + 1) = wnx r (stK r s l k) (l.getD k 0)) := Lib.hid (stK_succ hlt)
      have HSV := Lib.hid (stK_ok l HV.out k)
      have HLV : Hid (lvK r s l (k + 1) = lvK r s l k ++ [(wnx r (stK r s l k) (l.getD k 0)).l]) := Lib.hid (by rw [lvK_succ, stK_succ hlt])
      have hlen : (lvK r s l k).length = k := lvK_len r s l k
      have HC := Lib.hid (fun W => l12Next_c r (stK r s l k) (l.getD k 0) W HSV.out)
      generalize l.getD k 0 = D at *
      generalize stK r s l k = st at *
      generalize wnx r st D = st' at *
      generalize lvK r s l k = lv at *
      have hlv : lv.length ≤ 50 := by omega
      clear hlen
      have HOW := Lib.hid hown
      have hlw := blk_lt hJ.out
      have hlaw : a < wr.heap.size := by omega
      clear hown
      go_wp2_with fail
      go_region_law (first
        | (go_simp; go_at_call 66; refine (HC.out _).mono ?_; rintro e w5 ⟨rfl, t5'⟩; have t5 : Below wr.heap.size wr w5 := (by first | exact t5' | exact (Below.refl _ _).drew.trans t5' | fail); have J5 := blk_keep hJ.out t5 hlw; obtain ⟨p0, p1⟩ := blk_cell2 J5; obtain ⟨m0, m1⟩ := blk_froz2 J5; have hl5 := blk_lt J5)
        | fail)
      all_goals (
        have J6 := Lib.hid (blk_all2 (x := .int .i64 st'.l) (y := .int .i64 st'.c) J5)
        have K6 : Hid (((w5.setCell ⟨w.heap.size + 1, 0, none⟩ (.int .i64 st'.l)).setCell ⟨w.heap.size + 1, 1, none⟩ (.int .i64 st'.c)).heap[w.heap.size + 2]? = some (.cells #[.int .i64 0, .int .i64 0] 27)) := Lib.hid ((blk_other2 (by omega)).trans (blk_keep hK.out t5 (blk_lt hK.out)))
        have R6 : Hid (((w5.setCell ⟨w.heap.size + 1, 0, none⟩ (.int .i64 st'.l)).setCell ⟨w.heap.size + 1, 1, none⟩ (.int .i64 st'.c)).heap[w.heap.size]? = some (.cells #[.int .i64 r.a, .int .i64 r.b, .int .i64 r.c, .int .i64 r.d] 25)) := Lib.hid ((blk_other2 (by omega)).trans (blk_keep hR.out t5 (blk_lt hR.out)))
        have o5 := owns_below HOW.out t5
        have O6 : Hid (((w5.setCell ⟨w.heap.size + 1, 0, none⟩ (.int .i64 st'.l)).setCell ⟨w.heap.size + 1, 1, none⟩ (.int .i64 st'.c)).ownsRow (w.heap.size + 3) 3 1 u8 lv.length (intVs lv)) := Lib.hid (own_by o5 (grown_all2 _ _ _ _) (fun e => by have := (o5.lt _ e).1; omega))
        have T6 : Hid (Below w.heap.size w ((w5.setCell ⟨w.heap.size + 1, 0, none⟩ (.int .i64 st'.l)).setCell ⟨w.heap.size + 1, 1, none⟩ (.int .i64 st'.c))) := Lib.hid (below_all2 (hbel.out.trans (t5.mono hbel.out.size)) (b := w.heap.size + 1) (by omega) _ _)
        have hz5 := t5.size
        have hs6 : w.heap.size + 3 ≤ ((w5.setCell ⟨w.heap.size + 1, 0, none⟩ (.int .i64 st'.l)).setCell ⟨w.heap.size + 1, 1, none⟩ (.int .i64 st'.c)).heap.size := by simp; omega
        generalize ((w5.setCell ⟨w.heap.size + 1, 0, none⟩ (.int .i64 st'.l)).setCell ⟨w.heap.size + 1, 1, none⟩ (.int .i64 st'.c)) = w6 at *
        clear J5 p0 p1 m0 m1 hl5 t5 t5' r0 r1 r2 r3 s0 s1 c0 o5
        obtain ⟨p0, p1⟩ := blk_cell2 J6.out
        have ho6 := O6.out
        go_wp2_with (at_builtin; (refine wpList_append_own _ rfl _ _ 28 rfl (w.heap.size + 3) 3 i0 (.int .i64 0) 1 8 Try.underlying28 hi hy0 hy1 hy2 rfl (by decide) _ _ _ rfl (ho6.alloc _) ⟨w6.heap.size, 0, none⟩ 1 1 [.int .i64 st'.l] rfl rfl (cell_one_new _ _ _) (by simp [Value.oneCell']) (by unfold maxLen; omega) (by omega) (by simp; omega) ?_; intro v' w7 hown' hgrow _))
        have hne := fun j hj => (ho6.lt j hj).1
        go_roundw
        case rel => exact ⟨k + 1, by omega, by go_num, by rw [HLV.out]; simpa [intVs] using hown', Lib.hid ((T6.out.alloc T6.out.size _).grown hgrow (by simp; omega) (fun j hj => by have := hne j hj; omega)), Lib.hid ((hgrow.block _ (by have := blk_lt R6.out; simp; omega) (fun e => by have := hne _ (by exact e.symm); omega)).trans (blk_stay R6.out)), Lib.hid (by rw [HST.out]; exact (hgrow.block _ (by have := blk_lt J6.out; simp; omega) (fun e => by have := hne _ (by exact e.symm); omega)).trans (blk_stay J6.out)), Lib.hid ((hgrow.block _ (by have := blk_lt K6.out; simp; omega) (fun e => by have := hne _ (by exact e.symm); omega)).trans (blk_stay K6.out)), by have h := hgrow.size; simp at h; omega⟩
        case measure => simp [intOf]; omega)
    · obtain rfl : k = l.length := by omega
      obtain ⟨s0, s1⟩ := blk_cell2 hJ.out
      obtain ⟨p0, p1⟩ := blk_cell2 hK.out
      obtain ⟨m0, m1⟩ := blk_froz2 hK.out
      have HOW := Lib.hid (own_mono (own_by hown (grown_all2 wr (w.heap.size + 2) (.int .i64 (stK r s l l.length).l) (.int .i64 (stK r s l l.length).c)) (fun e => by have := (hown.lt _ e).1; omega)) (by omega : w.heap.size ≤ w.heap.size + 3))
      obtain ⟨z0, z1⟩ := blk_cell2 (blk_all2 (x := .int .i64 (stK r s l l.length).l) (y := .int .i64 (stK r s l l.length).c) hK.out)
      have Z0 := Lib.hid z0
      have Z1 := Lib.hid z1
      clear z0 z1 hown
      generalize hse : stK r s l l.length = st at *
      have HSE := Lib.hid hse
      clear hse
      go_wp2
      go_region
      go_wp2
      refine bodyPost_ret (v := .tuple #[u8, .agg #[.int .i64 st.l, .int .i64 st.c]]) (by simp [results, Try.results57, go_sem, Z0.out, Z1.out]) rfl ⟨_, by rw [HSE.out], ?_, ?_⟩
      · exact HOW.out.drew
      · exact (below_all2 hbel.out (b := w.heap.size + 2) (by omega) _ _).drew
set_option maxRecDepth 100000 in
set_option maxHeartbeats 4000000 in
theorem specRunWind_c (r : Wru) (s : Wst) (v : Value) (l : List Int) (w : World) (hr : Rd w v (intVs l)) (hn : l.length ≤ 1048576) :
    Calls Try.prog 17 #[.agg #[.int .i64 r.a, .int .i64 r.b, .int .i64 r.c, .int .i64 r.d], .agg #[.int .i64 s.l, .int .i64 s.c], v] w fun e w' => ∃ g, e = .returned (.tuple #[g, .agg #[.int .i64 (rnS r s l).l, .int .i64 (rnS r s l).c], .bool (rnOk r s l)]) ∧ w'.ownsRow w.heap.size 3 1 g (rnL r s l).length (intVs (rnL r s l)) ∧ Below w.heap.size w w' := by
  have HN := Lib.hid (rn_no (r := r) (s := s) (l := l))
  have HY := Lib.hid (rn_yes (r := r) (s := s) (l := l))
  have hd : rnOk r s l = (wsV r s && vtL l) := rfl
  have E0 := Lib.hid (fun W => l12State_c r s W)
  have E1 := Lib.hid (fun W h => l12Votes_c v l W h hn)
  have E2 := Lib.hid (fun W h h2 h3 => l12Run_c r s v l W h h2 h3)
  have HV5 := Lib.hid (fun h => ((vtL_iff l).1 h).1)
  have HR := Lib.hid hr
  have HD := Lib.hid hd
  have K0 := Lib.hid (three_new w (.cells #[.int .i64 r.a, .int .i64 r.b, .int .i64 r.c, .int .i64 r.d] 25) (.cells #[.int .i64 s.l, .int .i64 s.c] 27) (.int .i64 0) (.int .i64 0) 27)
  have HC : Hid (∀ W, Below (w.heap.size + 3) (((w.alloc (.cells #[.int .i64 r.a, .int .i64 r.b, .int .i64 r.c, .int .i64 r.d] 25)).alloc (.cells #[.int .i64 s.l, .int .i64 s.c] 27)).alloc (.cells #[.int .i64 0, .int .i64 0] 27)) W → _) := Lib.hid (fun W h => box_rs w r s 25 27 W (((Below.refl _ _).alloc (by simp) _).trans (h.mono (by omega))))
  have HT0 := Lib.hid (l12_below3 w (.cells #[.int .i64 r.a, .int .i64 r.b, .int .i64 r.c, .int .i64 r.d] 25) (.cells #[.int .i64 s.l, .int .i64 s.c] 27) (.cells #[.int .i64 0, .int .i64 0] 27))
  have hs0 : (((w.alloc (.cells #[.int .i64 r.a, .int .i64 r.b, .int .i64 r.c, .int .i64 r.d] 25)).alloc (.cells #[.int .i64 s.l, .int .i64 s.c] 27)).alloc (.cells #[.int .i64 0, .int .i64 0] 27)).heap.size = w.heap.size + 3 := by simp
  clear hr hd
  generalize hb0 : wsV r s = b0 at *
  generalize hb1 : vtL l = b1 at *
  have HB0 := Lib.hid hb0
  have HB1 := Lib.hid hb1
  clear hb0 hb1
  go_enter Try.func17, Try.ntmps17
  go_wp2_with fail
  generalize ((w.alloc (.cells #[.int .i64 r.a, .int .i64 r.b, .int .i64 r.c, .int .i64 r.d] 25)).alloc (.cells #[.int .i64 s.l, .int .i64 s.c] 27)).alloc (.cells #[.int .i64 0, .int .i64 0] 27) = W0 at *
  refine (E0.out _).mono ?_
  rintro e w1 ⟨rfl, t1⟩
  have T1 := Lib.hid (HT0.out.trans (t1.mono (by omega)))
  have hz1 := t1.size
  have K1 := Lib.hid (blk_keep K0.out t1 (by omega))
  cases b0 with
  | false =>
    have HO : Hid (rnOk r s l = false) := Lib.hid (by rw [HD.out]; rfl)
    obtain ⟨p0, p1⟩ := blk_cell2 K1.out
    obtain ⟨m0, m1⟩ := blk_froz2 K1.out
    have hlt2 := blk_lt K1.out
    obtain ⟨z0, z1, ow, bw⟩ := zero_end (Q := w.heap.size + 1 + 1) K1.out (T1.out) (by omega)
    have Z0 := Lib.hid z0
    have Z1 := Lib.hid z1
    have OW := Lib.hid ow
    have BW := Lib.hid bw
    clear z0 z1 ow bw
    go_wp2
    refine bodyPost_ret (v := .tuple #[.slice (some ⟨w1.heap.size, 0, none⟩) 0 0, .agg #[.int .i64 0, .int .i64 0], .bool false]) (by simp [results, Try.results17, go_sem, Z0.out, Z1.out]) rfl ⟨_, ret_lsb (s := ⟨0, 0⟩) (by rw [(HN.out HO.out).2]) (HO.out).symm, ?_, ?_⟩
    · rw [(HN.out HO.out).1]; exact OW.out
    · exact BW.out
  | true =>
    obtain ⟨⟨c0, c1, c2, c3⟩, d0, d1⟩ := HC.out w1 (by rw [← hs0]; exact t1)
    go_wp2_with fail
    refine (E1.out _ (HR.out.below T1.out rfl)).mono ?_
    rintro e w2 ⟨rfl, t2⟩
    have T2 := Lib.hid (T1.out.trans (t2.mono T1.out.size))
    have K2 := Lib.hid (blk_keep K1.out t2 (blk_lt K1.out))
    have t12 := t1.trans (t2.mono hz1)
    cases b1 with
    | false =>
      have HO : Hid (rnOk r s l = false) := Lib.hid (by rw [HD.out]; rfl)
      clear t12
      obtain ⟨p0, p1⟩ := blk_cell2 K2.out
      obtain ⟨m0, m1⟩ := blk_froz2 K2.out
      have hlt2 := blk_lt K2.out
      obtain ⟨z0, z1, ow, bw⟩ := zero_end (Q := w.heap.size + 1 + 1) K2.out (T2.out) (by omega)
      have Z0 := Lib.hid z0
      have Z1 := Lib.hid z1
      have OW := Lib.hid ow
      have BW := Lib.hid bw
      clear z0 z1 ow bw
      go_wp2
      refine bodyPost_ret (v := .tuple #[.slice (some ⟨w2.heap.size, 0, none⟩) 0 0, .agg #[.int .i64 0, .int .i64 0], .bool false]) (by simp [results, Try.results17, go_sem, Z0.out, Z1.out]) rfl ⟨_, ret_lsb (s := ⟨0, 0⟩) (by rw [(HN.out HO.out).2]) (HO.out).symm, ?_, ?_⟩
      · rw [(HN.out HO.out).1]; exact OW.out
      · exact BW.out
    | true =>
      have HO : Hid (rnOk r s l = true) := Lib.hid (by rw [HD.out]; rfl)
      clear c0 c1 c2 c3 d0 d1
      obtain ⟨⟨c0, c1, c2, c3⟩, d0, d1⟩ := HC.out w2 (by rw [← hs0]; exact t12)
      clear t1 t2 t12 HC
      go_wp2_with fail
      refine (E2.out _ (HR.out.below T2.out rfl) (HV5.out (by simp)) (by simp)).mono ?_
      rintro e w4 ⟨g, rfl, og, t4⟩
      have HSE := Lib.hid ((HY.out HO.out).2)
      have HLE := Lib.hid ((HY.out HO.out).1)
      clear HY HN
      generalize stK r s l l.length = st at *
      have T5 : Hid (Below w.heap.size w (w4.alloc (.cells #[.int .i64 st.l, .int .i64 st.c] 27))) := Lib.hid ((T2.out.trans (t4.mono T2.out.size)).alloc (T2.out.trans (t4.mono T2.out.size)).size _)
      have K5 : Hid ((w4.alloc (.cells #[.int .i64 st.l, .int .i64 st.c] 27)).heap[w.heap.size + 2]? = some (.cells #[.int .i64 0, .int .i64 0] 27)) := Lib.hid (blk_stay (blk_keep K2.out t4 (blk_lt K2.out)))
      have Q5 : Hid ((w4.alloc (.cells #[.int .i64 st.l, .int .i64 st.c] 27)).heap[w4.heap.size]? = some (.cells #[.int .i64 st.l, .int .i64 st.c] 27)) := Lib.hid (heap_alloc_new w4 _)
      have O5 : Hid ((w4.alloc (.cells #[.int .i64 st.l, .int .i64 st.c] 27)).ownsRow w2.heap.size 3 1 g (lvK r s l l.length).length (intVs (lvK r s l l.length))) := Lib.hid (og.alloc _)
      have hl2 := blk_lt K2.out
      have hz2 := T2.out.size
      go_upto_region 4 with fail
      generalize (w4.alloc (.cells #[.int .i64 st.l, .int .i64 st.c] 27)) = w5 at *
      clear c0 c1 c2 c3 d0 d1 og t4
      have hne : w4.heap.size = w4.heap.size := rfl
      obtain ⟨s0, s1⟩ := blk_cell2 Q5.out
      obtain ⟨p0, p1⟩ := blk_cell2 K5.out
      obtain ⟨m0, m1⟩ := blk_froz2 K5.out
      have HOW := Lib.hid (own_mono (own_by O5.out (grown_all2 w5 (w.heap.size + 2) (.int .i64 st.l) (.int .i64 st.c)) (fun e => by have := (O5.out.lt _ e).1; omega)) hz2)
      obtain ⟨z0, z1⟩ := blk_cell2 (blk_all2 (x := .int .i64 st.l) (y := .int .i64 st.c) K5.out)
      have Z0 := Lib.hid z0
      have Z1 := Lib.hid z1
      clear z0 z1 hne
      go_region
      go_wp2
      refine bodyPost_ret (v := .tuple #[g, .agg #[.int .i64 st.l, .int .i64 st.c], .bool true]) (by simp [results, Try.results17, go_sem, Z0.out, Z1.out]) rfl ⟨_, ret_lsb HSE.out.symm HO.out.symm, ?_, ?_⟩
      · rw [HLE.out]; exact HOW.out.drew
      · exact (below_all2 T5.out (b := w.heap.size + 2) (by omega) _ _).drew
end Go.Proofs.Ytoamhbobcpljpaa
