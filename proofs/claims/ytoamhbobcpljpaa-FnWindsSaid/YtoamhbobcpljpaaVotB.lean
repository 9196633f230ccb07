/- spec.VoteOf and BrokenSensors. Condition: sizes. -/
import Derived.Test.YtoamhbobcpljpaaVotS
namespace Go.Proofs.Ytoamhbobcpljpaa
open Go.RowKit
set_option linter.unusedVariables false
set_option maxRecDepth 100000 in
set_option maxHeartbeats 2000000 in
theorem specVoteOf_c (v : Value) (l : List Int) (w : World) (hr : Rd w v (intVs l)) (hn : l.length ≤ 1048576) :
    Calls Try.prog 30 #[v] w fun e w' => e = .returned (.tuple #[.int .i64 (voV l), .bool (snL l)]) ∧ Below w.heap.size w w' := by
  have HN := Lib.hid (vo_no (l := l))
  have HY := Lib.hid (vo_yes (l := l))
  have HSI := Lib.hid (fun h => ((snL_iff l).1 h).1)
  have E0 := Lib.hid (fun W h => l12Sensors_c v l W h hn)
  have E1 := Lib.hid (fun W h h2 => l12Of_c v l W h h2)
  have HR := Lib.hid hr
  clear hr
  generalize vtO l = V at *
  generalize voV l = X at *
  generalize snL l = b at *
  go_enter Try.func30, Try.ntmps30
  go_wp2_with fail
  refine (E0.out _ HR.out).mono ?_
  rintro e w1 ⟨rfl, t1⟩
  cases b with
  | false =>
    go_wp2
    go_ret2
    exact ⟨ret_ib9 (by rw [HN.out (by simp)]) rfl, t1⟩
  | true =>
    have T1 := Lib.hid t1
    clear t1
    go_wp2_with fail
    refine (E1.out _ (HR.out.below T1.out rfl) (HSI.out (by simp))).mono ?_
    rintro e w2 ⟨rfl, t2⟩
    go_wp2
    go_ret2
    exact ⟨ret_ib9 (by rw [HY.out (by simp)]) rfl, T1.out.trans (t2.mono T1.out.size)⟩
theorem q_abs (n : Int) (h : -100 ≤ n ∧ n ≤ 100) (w : World) (k : Nat) :
    Calls Try.prog 77 #[.int .i64 n] (w.drewN k) fun e w'' => e = .returned (.int .i64 (iabs9 n)) ∧ ∃ m, w'' = w.drewN m :=
  (abs9_c n _ (by omega) (by omega)).mono fun _ _ ⟨he, hw⟩ => ⟨he, k, hw⟩
set_option maxRecDepth 100000 in
set_option maxHeartbeats 2000000 in
theorem clo76_c (pa pb : Nat) (t p x : Int) (w : World) (ha : w.cell? ⟨pa, 0, none⟩ = some (.int .i64 t)) (hb : w.cell? ⟨pb, 0, none⟩ = some (.int .i64 p)) (hx : inR x (-1) 60 = true) (ht : 0 ≤ t ∧ t ≤ 60) :
    Calls Try.prog 76 #[.int .i64 x, .pointer (some ⟨pa, 0, none⟩), .pointer (some ⟨pb, 0, none⟩)] w fun e w' => e = .returned (.bool (brk12 t p x)) ∧ Drew w w' := by
  have hx := (inR_iff _ _ _).1 hx
  by_cases h : x = -1
  · have t1 : (x == -1) = true := by simp [h]
    have HX : Hid (true = brk12 t p x) := Lib.hid (by rw [h]; rfl)
    clear h hx
    go_enter Try.func76, Try.ntmps76
    go_wp2
    go_quiet (fail)
    go_wp2
    go_ret
    exact ⟨ret_b HX.out, nq, rfl⟩
  · have t1 : (x == -1) = false := by simp [h]
    have HX : Hid (decide (p < iabs9 (x - t)) = brk12 t p x) := Lib.hid (by unfold brk12; rw [decide_eq_false (show ¬ x < 0 by omega)]; rfl)
    have q1 : IntKind.i64.wrap (x - t) = x - t := IntWalk.i64_in _ (by omega)
    have HQ := Lib.hid (fun W k => q_abs (x - t) (by omega) W k)
    clear h hx ht
    generalize iabs9 (x - t) = A at *
    go_enter Try.func76, Try.ntmps76
    go_wp2
    go_quiet ((go_at_call 77; exact HQ.out _ _))
    go_wp2
    go_ret
    exact ⟨ret_b HX.out, nq, rfl⟩
set_option maxRecDepth 100000 in
set_option maxHeartbeats 2000000 in
theorem iwhereB_c (q : Int → Bool) (pa : Nat) (pb : Nat) (v : Value) (l : List Int) (w : World) (hr : Rd w v (intVs l)) (hn : l.length ≤ 1048576)
    (hq : ∀ k W, k < l.length → Below w.heap.size w W → Calls Try.prog 76 #[.int .i64 (l.getD k 0), .pointer (some ⟨pa, 0, none⟩), .pointer (some ⟨pb, 0, none⟩)] W fun e w' => e = .returned (.bool (q (l.getD k 0))) ∧ Drew W w') :
    Calls Try.prog 62 #[v, .func (.func 76) #[] #[.pointer (some ⟨pa, 0, none⟩), .pointer (some ⟨pb, 0, none⟩)]] w fun e w' => ∃ g, e = .returned g ∧ w'.ownsRow w.heap.size 3 1 g (idxI q l l.length).length (intVs (idxI q l l.length)) ∧ Below w.heap.size w w' := by
  obtain ⟨i0, hi, hz0, hz1, hz2⟩ := info_parts Try.infoIntR
  obtain ⟨ao, a, oa, ca, rfl, hao, hat⟩ := hr.formR
  have HA := Lib.hid hao
  have HL := Lib.hid hat
  have HQ := Lib.hid hq
  clear hr hao hat hq
  go_enter Try.func62, Try.ntmps62
  go_wp2
  go_loopw [5, 11] (fun o i wr => ∃ k : Nat, k ≤ l.length ∧ i = .int .i64 k ∧ wr.ownsRow w.heap.size 3 1 o (idxI q l k).length (intVs (idxI q l k)) ∧ Hid (Below w.heap.size w wr)) (fun _ i _ => l.length - (intOf i).toNat)
  case atStart => exact ⟨0, by omega, rfl, World.ownsRow_made w #[] 0 (Nat.le_refl _) (by decide) rfl, Lib.hid ((Below.refl _ _).alloc (Nat.le_refl _) _)⟩
  case round =>
    obtain ⟨k, hk, rfl, hown, hbel⟩ := hrel
    have hkl := idxI_len q l k
    by_cases hlt : k < l.length
    · obtain ⟨rfl, hla, hlm⟩ := HA.out (by omega)
      have c0 := (HL.out.below hbel.out hla) k hlt
      have hbs := hbel.out.size
      have HY := Lib.hid (idxI_yes (q := q) (l := l) (k := k))
      have HN := Lib.hid (idxI_no (q := q) (l := l) (k := k))
      have HC := Lib.hid (HQ.out k wr hlt hbel.out)
      generalize l.getD k 0 = X at *
      generalize q X = b at *
      generalize idxI q l k = L at *
      go_wp2_with fail
      refine (HC.out).mono ?_
      rintro e w2 ⟨rfl, d2⟩
      have HB2 := Lib.hid (Drew.below_trans hbel.out d2)
      have hown2 := own_drew hown d2
      have hs2 := HB2.out.size
      clear d2 hown HC
      cases b with
      | true =>
        have HS := Lib.hid (HY.out rfl)
        go_wp2_with (at_builtin; refine wpList_append_own _ rfl _ _ 28 rfl w.heap.size 3 i0 (.int .i64 0) 1 8 Try.underlying28 hi hz0 hz1 hz2 rfl (by decide) _ _ _ rfl (hown2.alloc _) ⟨w2.heap.size, 0, none⟩ 1 1 [.int .i64 (k : Int)] rfl rfl (cell_one_new _ _ _) (by simp [Value.oneCell']) (by unfold maxLen; omega) (by omega) (by simp; omega) ?_; intro v' w3 hown' hgrow _)
        go_roundw
        case rel => exact ⟨k + 1, by omega, by go_num, by rw [HS.out]; simpa [intVs] using hown', Lib.hid ((HB2.out.alloc HB2.out.size _).grown hgrow (by simp; omega) (fun j hj => (hown2.lt j hj).1))⟩
        case measure => simp [intOf]; omega
      | false =>
        have HS := Lib.hid (HN.out rfl)
        go_wp2
        go_roundw
        case rel => exact ⟨k + 1, by omega, by go_num, by rw [HS.out]; exact hown2, HB2⟩
        case measure => simp [intOf]; omega
    · obtain rfl : k = l.length := by omega
      go_wp2
      go_ret
      exact ⟨_, rfl, hown, hbel.out⟩
theorem blk_cell1 {w : World} {b : Nat} {a : Value} {t : TypeId} (h : w.heap[b]? = some (.cells #[a] t (0, 0))) : w.cell? ⟨b, 0, none⟩ = some a := by
  have h0 := cell_of_row w b 0 _ _ _ h
  simpa using h0
set_option maxRecDepth 100000 in
set_option maxHeartbeats 4000000 in
theorem implBrokenSensors_c (v : Value) (l : List Int) (p : Int) (w : World) (hr : Rd w v (intVs l)) (hn : l.length ≤ 1048576) :
    Calls Try.prog 33 #[v, .int .i64 p] w fun e w' => ∃ g, e = .returned (.tuple #[g, .bool (bsOk l p)]) ∧ w'.ownsRow w.heap.size 3 1 g (bsR l p).length (intVs (bsR l p)) ∧ Below w.heap.size w w' := by
  have HN := Lib.hid (bs_no (l := l) (p := p))
  have HY := Lib.hid (bs_yes (l := l) (p := p))
  have HD : Hid (bsOk l p = (snL l && decide (0 ≤ p))) := Lib.hid rfl
  have HVO := Lib.hid (vo_yes (l := l))
  have HVB := Lib.hid (vt_bd (l := l))
  have HSI := Lib.hid (fun h => ((snL_iff l).1 h).2)
  have E0 := Lib.hid (fun W h => implVoteOf_c v l W h hn)
  have HR := Lib.hid hr
  have B0 : Hid (Below w.heap.size w (w.alloc (.cells #[.int .i64 p] 3))) := Lib.hid ((Below.refl _ _).alloc (Nat.le_refl _) _)
  have P0 : Hid ((w.alloc (.cells #[.int .i64 p] 3)).heap[w.heap.size]? = some (.cells #[.int .i64 p] 3)) := Lib.hid (heap_alloc_new w _)
  clear hr
  go_enter Try.func33, Try.ntmps33
  go_wp2_with fail
  refine (E0.out _ (HR.out.below B0.out rfl)).mono ?_
  rintro e w1 ⟨rfl, t1⟩
  have T1 := Lib.hid (B0.out.trans (t1.mono (by simp)))
  have P1 := Lib.hid (blk_keep P0.out t1 (by simp))
  clear t1
  have T2 := Lib.hid (T1.out.alloc T1.out.size (.cells #[.int .i64 (voV l)] 3))
  have P2 : Hid ((w1.alloc (.cells #[.int .i64 (voV l)] 3)).heap[w.heap.size]? = some (.cells #[.int .i64 p] 3)) := Lib.hid (blk_stay P1.out)
  have Q2 : Hid ((w1.alloc (.cells #[.int .i64 (voV l)] 3)).heap[w1.heap.size]? = some (.cells #[.int .i64 (voV l)] 3)) := Lib.hid (heap_alloc_new w1 _)
  have hz1 := T1.out.size
  go_upto_region 2 with fail
  have hw2 : w1.heap.size < (w1.alloc (.cells #[.int .i64 (voV l)] 3)).heap.size := by simp
  generalize w1.alloc (.cells #[.int .i64 (voV l)] 3) = w2 at *
  have p0 := blk_cell1 P2.out
  cases hs : snL l with
  | false =>
    have HO : Hid (bsOk l p = false) := Lib.hid (by rw [HD.out, hs]; rfl)
    have hb := HN.out HO.out
    have OW := Lib.hid (own_none (w := w2) (B := w.heap.size) (P := w2.heap.size) rfl T2.out.size)
    have HBE := Lib.hid hb
    clear hs hb
    go_wp2
    go_ret2
    exact ⟨_, ret_vR HO.out.symm, by rw [HBE.out]; exact OW.out, T2.out.alloc T2.out.size _⟩
  | true =>
    by_cases hp : p < 0
    · have t5 : decide (p < 0) = true := by simpa using hp
      have HO : Hid (bsOk l p = false) := Lib.hid (by rw [HD.out, decide_eq_false (show ¬ 0 ≤ p by omega), Bool.and_false])
      have hb := HN.out HO.out
      have OW := Lib.hid (own_none (w := w2) (B := w.heap.size) (P := w2.heap.size) rfl T2.out.size)
      have HBE := Lib.hid hb
      clear hs hb hp
      go_wp2
      go_ret2
      exact ⟨_, ret_vR HO.out.symm, by rw [HBE.out]; exact OW.out, T2.out.alloc T2.out.size _⟩
    · have t5 : decide (p < 0) = false := by simpa using hp
      have HO : Hid (bsOk l p = true) := Lib.hid (by rw [HD.out, hs, decide_eq_true (show 0 ≤ p by omega)]; rfl)
      have hb := HY.out HO.out
      have hvo := HVO.out hs
      have hvb := HVB.out hs
      have hsi := HSI.out hs
      have HBE := Lib.hid hb
      rw [hvo] at Q2
      have HCL : Hid (∀ k W, k < l.length → Below w2.heap.size w2 W → Calls Try.prog 76 #[.int .i64 (l.getD k 0), .pointer (some ⟨w1.heap.size, 0, none⟩), .pointer (some ⟨w.heap.size, 0, none⟩)] W fun e w' => e = .returned (.bool (brk12 (vtO l) p (l.getD k 0))) ∧ Drew W w') := Lib.hid (fun k W hk h => clo76_c _ _ _ _ _ W (blk_cell1 (blk_keep Q2.out h (by omega))) (blk_cell1 (blk_keep P2.out h (by omega))) (hsi k hk) hvb)
      clear hs hb hp hvo hvb hsi
      go_wp2_with fail
      refine (iwhereB_c (brk12 (vtO l) p) w1.heap.size w.heap.size v l w2 (HR.out.below T2.out rfl) hn HCL.out).mono ?_
      rintro e w3 ⟨g, rfl, og, t3⟩
      have T3 := Lib.hid (T2.out.trans (t3.mono T2.out.size))
      have OG := Lib.hid (own_mono og T2.out.size)
      clear t3 og
      go_wp2
      go_ret2
      exact ⟨_, ret_vR HO.out.symm, by rw [HBE.out]; exact OG.out, T3.out⟩
theorem most_abs (d : Int) : (if -d < d then d else -d) = iabs9 d := by unfold iabs9; split <;> split <;> omega
set_option maxRecDepth 100000 in
set_option maxHeartbeats 4000000 in
theorem specBrokenSensors_c (v : Value) (l : List Int) (p : Int) (w : World) (hr : Rd w v (intVs l)) (hn : l.length ≤ 1048576) :
    Calls Try.prog 34 #[v, .int .i64 p] w fun e w' => ∃ g, e = .returned (.tuple #[g, .bool (bsOk l p)]) ∧ w'.ownsRow w.heap.size 3 1 g (bsR l p).length (intVs (bsR l p)) ∧ Below w.heap.size w w' := by
  obtain ⟨i0, hi, hz0, hz1, hz2⟩ := info_parts Try.infoIntR
  have HN := Lib.hid (bs_no (l := l) (p := p))
  have HY := Lib.hid (bs_yes (l := l) (p := p))
  have HD : Hid (bsOk l p = (snL l && decide (0 ≤ p))) := Lib.hid rfl
  have HVB := Lib.hid (vt_bd (l := l))
  have HSI := Lib.hid (fun h => ((snL_iff l).1 h))
  have E0 := Lib.hid (fun W h => l12Sensors_c v l W h hn)
  have E1 := Lib.hid (fun W h h2 => l12Of_c v l W h h2)
  have HR := Lib.hid hr
  have B0 : Hid (Below w.heap.size w (w.alloc (.cells #[] 3))) := Lib.hid ((Below.refl _ _).alloc (Nat.le_refl _) _)
  have O0 := Lib.hid (own_none (w := w) (B := w.heap.size) (P := w.heap.size) rfl (Nat.le_refl _))
  have hs0 : (w.alloc (.cells #[] 3)).heap.size = w.heap.size + 1 := by simp
  clear hr
  go_enter Try.func34, Try.ntmps34
  go_wp2_with fail
  generalize w.alloc (.cells #[] 3) = W0 at *
  refine (E0.out _ (HR.out.below B0.out rfl)).mono ?_
  rintro e w1 ⟨rfl, t1⟩
  have T1 := Lib.hid (B0.out.trans (t1.mono (by omega)))
  have O1 := Lib.hid (owns_below O0.out t1)
  clear t1
  cases hs : snL l with
  | false =>
    have HO : Hid (bsOk l p = false) := Lib.hid (by rw [HD.out, hs]; rfl)
    have hb := HN.out HO.out
    have HBE := Lib.hid hb
    clear hs hb
    go_wp2
    go_ret2
    exact ⟨_, ret_vR HO.out.symm, by rw [HBE.out]; exact O1.out, T1.out⟩
  | true =>
    by_cases hp : p < 0
    · have t5 : decide (p < 0) = true := by simpa using hp
      have HO : Hid (bsOk l p = false) := Lib.hid (by rw [HD.out, decide_eq_false (show ¬ 0 ≤ p by omega), Bool.and_false])
      have hb := HN.out HO.out
      have HBE := Lib.hid hb
      clear hs hb hp
      go_wp2
      go_ret2
      exact ⟨_, ret_vR HO.out.symm, by rw [HBE.out]; exact O1.out, T1.out⟩
    · have t5 : decide (p < 0) = false := by simpa using hp
      have HO : Hid (bsOk l p = true) := Lib.hid (by rw [HD.out, hs, decide_eq_true (show 0 ≤ p by omega)]; rfl)
      have hb := HY.out HO.out
      have hvb := HVB.out hs
      have hsi := HSI.out hs
      have HXI := Lib.hid hsi.2
      have hl5 := hsi.1
      have HBE := Lib.hid hb
      clear hs hb hp hsi
      obtain ⟨ao, a, oa, ca, rfl, hao, hat⟩ := HR.out.formR
      have HA := Lib.hid hao
      have HL := Lib.hid hat
      clear hao hat
      go_wp2_with fail
      refine (E1.out _ (HR.out.below T1.out rfl) hl5).mono ?_
      rintro e w2 ⟨rfl, t2⟩
      have T2 := Lib.hid (T1.out.trans (t2.mono T1.out.size))
      have O2 := Lib.hid (owns_below O1.out t2)
      clear t2
      generalize vtO l = V at *
      have hz2' := T2.out.size
      go_wp2
      go_loopw [6, 8] (fun o i wr => ∃ k : Nat, k ≤ l.length ∧ i = .int .i64 k ∧ wr.ownsRow w.heap.size 3 1 o (idxI (brk12 V p) l k).length (intVs (idxI (brk12 V p) l k)) ∧ Hid (Below w.heap.size w wr)) (fun _ i _ => l.length - (intOf i).toNat)
      case atStart => exact ⟨0, by omega, rfl, O2.out, T2⟩
      case round =>
        obtain ⟨k, hk, rfl, hown, hbel⟩ := hrel
        have hkl := idxI_len (brk12 V p) l k
        by_cases hlt : k < l.length
        · obtain ⟨rfl, hla, hlm⟩ := HA.out (by omega)
          have c0 := (HL.out.below hbel.out hla) k hlt
          have hbs := hbel.out.size
          have hx := (inR_iff _ _ _).1 (HXI.out k hlt)
          have HYE := Lib.hid (idxI_yes (q := brk12 V p) (l := l) (k := k))
          have HNO := Lib.hid (idxI_no (q := brk12 V p) (l := l) (k := k))
          generalize l.getD k 0 = X at *
          generalize idxI (brk12 V p) l k = L at *
          have q1 : IntKind.i64.wrap (X - V) = X - V := IntWalk.i64_in _ (by omega)
          have q2 : IntKind.i64.wrap (-(X - V)) = -(X - V) := IntWalk.i64_in _ (by omega)
          by_cases hneg : X < 0
          · have t6 : decide (X < 0) = true := by simpa using hneg
            have HS := Lib.hid (HYE.out (by unfold brk12; rw [t6]; rfl))
            clear hneg hx
            go_wp2_with (at_builtin; refine wpList_append_own _ rfl _ _ 28 rfl w.heap.size 3 i0 (.int .i64 0) 1 8 Try.underlying28 hi hz0 hz1 hz2 rfl (by decide) _ _ _ rfl (hown.alloc _) ⟨wr.heap.size, 0, none⟩ 1 1 [.int .i64 (k : Int)] rfl rfl (cell_one_new _ _ _) (by simp [Value.oneCell']) (by unfold maxLen; omega) (by omega) (by simp; omega) ?_; intro v' w3 hown' hgrow _)
            go_roundw
            case rel => exact ⟨k + 1, by omega, by go_num, by rw [HS.out]; simpa [intVs] using hown', Lib.hid ((hbel.out.alloc hbel.out.size _).grown hgrow (by simp; omega) (fun j hj => (hown.lt j hj).1))⟩
            case measure => simp [intOf]; omega
          · have t6 : decide (X < 0) = false := by simpa using hneg
            have HBK : Hid (brk12 V p X = decide (p < iabs9 (X - V))) := Lib.hid (by unfold brk12; rw [t6]; rfl)
            have HMA := Lib.hid (most_abs (X - V))
            have HM := Lib.hid (fun W => most9_c (X - V) (-(X - V)) W)
            rw [HMA.out] at HM
            clear hneg hx HMA
            generalize iabs9 (X - V) = A at *
            go_wp2_with fail
            refine (HM.out _).mono ?_
            rintro e w4 ⟨rfl, rfl⟩
            by_cases hc : p < A
            · have t7 : decide (p < A) = true := by simpa using hc
              have HS := Lib.hid (HYE.out (by rw [HBK.out]; exact t7))
              clear hc
              go_wp2_with (at_builtin; refine wpList_append_own _ rfl _ _ 28 rfl w.heap.size 3 i0 (.int .i64 0) 1 8 Try.underlying28 hi hz0 hz1 hz2 rfl (by decide) _ _ _ rfl (hown.alloc _) ⟨w4.heap.size, 0, none⟩ 1 1 [.int .i64 (k : Int)] rfl rfl (cell_one_new _ _ _) (by simp [Value.oneCell']) (by unfold maxLen; omega) (by omega) (by simp; omega) ?_; intro v' w3 hown' hgrow _)
              go_roundw
              case rel => exact ⟨k + 1, by omega, by go_num, by rw [HS.out]; simpa [intVs] using hown', Lib.hid ((hbel.out.alloc hbel.out.size _).grown hgrow (by simp; omega) (fun j hj => (hown.lt j hj).1))⟩
              case measure => simp [intOf]; omega
            · have t7 : decide (p < A) = false := by simpa using hc
              have HS := Lib.hid (HNO.out (by rw [HBK.out]; exact t7))
              clear hc
              go_wp2
              go_roundw
              case rel => exact ⟨k + 1, by omega, by go_num, by rw [HS.out]; exact hown, hbel⟩
              case measure => simp [intOf]; omega
        · obtain rfl : k = l.length := by omega
          go_wp2
          go_ret2
          exact ⟨_, ret_vR HO.out.symm, by rw [HBE.out]; exact hown, hbel.out⟩
end Go.Proofs.Ytoamhbobcpljpaa
