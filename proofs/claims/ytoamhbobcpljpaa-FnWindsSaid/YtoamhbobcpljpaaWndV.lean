/- CompareRules. Condition: sizes. -/
import Derived.Test.YtoamhbobcpljpaaWndU
namespace Go.Proofs.Ytoamhbobcpljpaa
open Go.RowKit
set_option linter.unusedVariables false
theorem box_ab (w : World) (a b : Wru) (ta tb : TypeId) (W : World) (h : Below (w.heap.size + 2) ((w.alloc (.cells #[.int .i64 a.a, .int .i64 a.b, .int .i64 a.c, .int .i64 a.d] ta)).alloc (.cells #[.int .i64 b.a, .int .i64 b.b, .int .i64 b.c, .int .i64 b.d] tb)) W) :
    (W.cell? ⟨w.heap.size, 0, none⟩ = some (.int .i64 a.a) ∧ W.cell? ⟨w.heap.size, 1, none⟩ = some (.int .i64 a.b) ∧ W.cell? ⟨w.heap.size, 2, none⟩ = some (.int .i64 a.c) ∧ W.cell? ⟨w.heap.size, 3, none⟩ = some (.int .i64 a.d)) ∧ (W.cell? ⟨w.heap.size + 1, 0, none⟩ = some (.int .i64 b.a) ∧ W.cell? ⟨w.heap.size + 1, 1, none⟩ = some (.int .i64 b.b) ∧ W.cell? ⟨w.heap.size + 1, 2, none⟩ = some (.int .i64 b.c) ∧ W.cell? ⟨w.heap.size + 1, 3, none⟩ = some (.int .i64 b.d)) :=
  ⟨box_Wru w a ta _ rfl W (((Below.refl _ _).alloc (by simp) _).trans (h.mono (by simp))), box_Wru _ b tb _ (by simp) W h⟩
theorem cm_of (a b : Wru) (l : List Int) : cmOk a b l = (tsOk a l && tsOk b l) := by
  unfold cmOk tsOk
  cases wrV a <;> cases wrV b <;> cases vtL l <;> rfl
/-- two rows of levels, as they read -/
theorem lv_at {W : World} {g : Value} {r : Wru} {l : List Int} {B : Nat} (h : W.ownsRow B 3 1 g (lvK r ⟨0, 0⟩ l l.length).length (intVs (lvK r ⟨0, 0⟩ l l.length))) :
    ∃ ao b off cap, g = .slice ao l.length cap ∧ (0 < l.length → ao = some ⟨b, off, none⟩ ∧ b < W.heap.size) ∧ ∀ k, k < l.length → W.cell? ⟨b, off + k, none⟩ = some (.int .i64 (stK r ⟨0, 0⟩ l (k + 1)).l) := by
  obtain ⟨ao, b, off, cap, hg, hao, hat⟩ := (Rd.of_own h).formR
  rw [lvK_len] at hg hao
  exact ⟨ao, b, off, cap, hg, fun h => ⟨(hao h).1, (hao h).2.1⟩, fun k hk => (hat k (by rw [lvK_len]; exact hk)).trans (by rw [lvK_at hk])⟩
set_option maxRecDepth 100000 in
set_option maxHeartbeats 4000000 in
theorem implCompareRules_c (a b : Wru) (v : Value) (l : List Int) (w : World) (hr : Rd w v (intVs l)) (hn : l.length ≤ 1048576) :
    Calls Try.prog 40 #[.agg #[.int .i64 a.a, .int .i64 a.b, .int .i64 a.c, .int .i64 a.d], .agg #[.int .i64 b.a, .int .i64 b.b, .int .i64 b.c, .int .i64 b.d], v] w fun e w' => e = .returned (.tuple #[.int .i64 (cmV a b l), .bool (cmOk a b l)]) ∧ Below w.heap.size w w' := by
  have HN := Lib.hid (cm_no (a := a) (b := b) (l := l))
  have HY := Lib.hid (cm_yes (a := a) (b := b) (l := l))
  have HD := Lib.hid (cm_of a b l)
  have E0 : Hid (∀ (r : Wru) W, Rd W v (intVs l) → Calls Try.prog 16 #[.agg #[.int .i64 r.a, .int .i64 r.b, .int .i64 r.c, .int .i64 r.d], .agg #[.int .i64 0, .int .i64 0], v] W fun e w' => ∃ g, e = .returned (.tuple #[g, .agg #[.int .i64 (rnS r ⟨0, 0⟩ l).l, .int .i64 (rnS r ⟨0, 0⟩ l).c], .bool (tsOk r l)]) ∧ w'.ownsRow W.heap.size 3 1 g (rnL r ⟨0, 0⟩ l).length (intVs (rnL r ⟨0, 0⟩ l)) ∧ Below W.heap.size W w') := Lib.hid (fun r W h => by
    have h2 := implRunWind_c r ⟨0, 0⟩ v l W h hn
    rw [ts_rn] at h2
    exact h2)
  have HLA := Lib.hid (fun h : tsOk a l = true => (rn_yes (s := ⟨0, 0⟩) (show rnOk a ⟨0, 0⟩ l = true by rw [ts_rn]; exact h)).1)
  have HLB := Lib.hid (fun h : tsOk b l = true => (rn_yes (s := ⟨0, 0⟩) (show rnOk b ⟨0, 0⟩ l = true by rw [ts_rn]; exact h)).1)
  have HV5 := Lib.hid (fun h : tsOk a l = true => show l.length ≤ 50 by unfold tsOk at h; rw [Bool.and_eq_true] at h; exact ((vtL_iff l).1 h.2).1)
  have HR := Lib.hid hr
  have HC : Hid (∀ W, Below (w.heap.size + 3) (((w.alloc (.cells #[.int .i64 a.a, .int .i64 a.b, .int .i64 a.c, .int .i64 a.d] 25)).alloc (.cells #[.int .i64 b.a, .int .i64 b.b, .int .i64 b.c, .int .i64 b.d] 25)).alloc (.cells #[.int .i64 0, .int .i64 0] 27)) W → _) := Lib.hid (fun W h => box_ab w a b 25 25 W (((Below.refl _ _).alloc (by simp) _).trans (h.mono (by omega))))
  have HT0 := Lib.hid (l12_below3 w (.cells #[.int .i64 a.a, .int .i64 a.b, .int .i64 a.c, .int .i64 a.d] 25) (.cells #[.int .i64 b.a, .int .i64 b.b, .int .i64 b.c, .int .i64 b.d] 25) (.cells #[.int .i64 0, .int .i64 0] 27))
  have K0 := Lib.hid (three_new w (.cells #[.int .i64 a.a, .int .i64 a.b, .int .i64 a.c, .int .i64 a.d] 25) (.cells #[.int .i64 b.a, .int .i64 b.b, .int .i64 b.c, .int .i64 b.d] 25) (.int .i64 0) (.int .i64 0) 27)
  have hs0 : (((w.alloc (.cells #[.int .i64 a.a, .int .i64 a.b, .int .i64 a.c, .int .i64 a.d] 25)).alloc (.cells #[.int .i64 b.a, .int .i64 b.b, .int .i64 b.c, .int .i64 b.d] 25)).alloc (.cells #[.int .i64 0, .int .i64 0] 27)).heap.size = w.heap.size + 3 := by simp
  clear hr
  go_enter Try.func40, Try.ntmps40
  go_wp2_with fail
  generalize ((w.alloc (.cells #[.int .i64 a.a, .int .i64 a.b, .int .i64 a.c, .int .i64 a.d] 25)).alloc (.cells #[.int .i64 b.a, .int .i64 b.b, .int .i64 b.c, .int .i64 b.d] 25)).alloc (.cells #[.int .i64 0, .int .i64 0] 27) = W0 at *
  refine (E0.out a _ (HR.out.below HT0.out rfl)).mono ?_
  rintro e w1 ⟨g, rfl, og, t1⟩
  have T1 := Lib.hid (HT0.out.trans (t1.mono (by omega)))
  have U1 := Lib.hid (t1.alloc t1.size (.cells #[.int .i64 (rnS a ⟨0, 0⟩ l).l, .int .i64 (rnS a ⟨0, 0⟩ l).c] 27))
  have TA := Lib.hid (T1.out.alloc T1.out.size (.cells #[.int .i64 (rnS a ⟨0, 0⟩ l).l, .int .i64 (rnS a ⟨0, 0⟩ l).c] 27))
  have OA := Lib.hid (og.alloc (.cells #[.int .i64 (rnS a ⟨0, 0⟩ l).l, .int .i64 (rnS a ⟨0, 0⟩ l).c] 27))
  have hz1 := t1.size
  clear t1 og
  go_upto_region 3 with fail
  generalize w1.alloc (.cells #[.int .i64 (rnS a ⟨0, 0⟩ l).l, .int .i64 (rnS a ⟨0, 0⟩ l).c] 27) = w2 at *
  generalize rnS a ⟨0, 0⟩ l = sa at *
  obtain ⟨⟨c0, c1, c2, c3⟩, d0, d1, d2, d3⟩ := HC.out w2 (by rw [← hs0]; exact U1.out)
  obtain ⟨p0, p1⟩ := blk_cell2 (blk_keep K0.out U1.out (by omega))
  have hz2 := U1.out.size
  go_wp2_with fail
  refine (E0.out b _ (HR.out.below TA.out rfl)).mono ?_
  rintro e w3 ⟨g2, rfl, og2, t3⟩
  have TB := Lib.hid ((TA.out.trans (t3.mono TA.out.size)).alloc (TA.out.trans (t3.mono TA.out.size)).size (.cells #[.int .i64 (rnS b ⟨0, 0⟩ l).l, .int .i64 (rnS b ⟨0, 0⟩ l).c] 27))
  have OB := Lib.hid (og2.alloc (.cells #[.int .i64 (rnS b ⟨0, 0⟩ l).l, .int .i64 (rnS b ⟨0, 0⟩ l).c] 27))
  have OA2 := Lib.hid ((owns_below OA.out t3).alloc (.cells #[.int .i64 (rnS b ⟨0, 0⟩ l).l, .int .i64 (rnS b ⟨0, 0⟩ l).c] 27))
  clear t3 og2 OA c0 c1 c2 c3 d0 d1 d2 d3 p0 p1
  go_upto_region 4 with fail
  generalize w3.alloc (.cells #[.int .i64 (rnS b ⟨0, 0⟩ l).l, .int .i64 (rnS b ⟨0, 0⟩ l).c] 27) = w4 at *
  generalize rnS b ⟨0, 0⟩ l = sb at *
  cases ha : tsOk a l with
  | false =>
    have HO : Hid (cmOk a b l = false) := Lib.hid (by rw [HD.out, ha]; rfl)
    clear ha
    go_wp2
    go_ret2
    exact ⟨ret_ib9 (by rw [HN.out HO.out]) HO.out.symm, TB.out⟩
  | true =>
    cases hb : tsOk b l with
    | false =>
      have HO : Hid (cmOk a b l = false) := Lib.hid (by rw [HD.out, hb, Bool.and_false])
      clear ha hb
      go_wp2
      go_ret2
      exact ⟨ret_ib9 (by rw [HN.out HO.out]) HO.out.symm, TB.out⟩
    | true =>
      have HO : Hid (cmOk a b l = true) := Lib.hid (by rw [HD.out, ha, hb]; rfl)
      have oa := OA2.out
      have ob := OB.out
      rw [HLA.out ha] at oa
      rw [HLB.out hb] at ob
      have h50 := HV5.out ha
      have HYY := Lib.hid (HY.out HO.out)
      obtain ⟨ao, ba, fa, ca, rfl, hao, hat⟩ := lv_at oa
      obtain ⟨bo, bb, fb, cb, rfl, hbo, hbt⟩ := lv_at ob
      have HA := Lib.hid hao
      have HB := Lib.hid hbo
      have HAT := Lib.hid hat
      have HBT := Lib.hid hbt
      clear ha hb oa ob hao hbo hat hbt OA2 OB HN HY HD HLA HLB HV5 HC K0 E0
      go_wp2
      go_loopw [15, 43] (fun n i wr => ∃ k : Nat, k ≤ l.length ∧ i = .int .i64 k ∧ n = .int .i64 (cmK a b l k : Int) ∧ wr = w4) (fun _ i _ => l.length - (intOf i).toNat)
      case atStart => exact ⟨0, by omega, rfl, rfl, (by first | rfl | trivial)⟩
      case round =>
        obtain ⟨k, hk, rfl, rfl, rfl⟩ := hrel
        have hkl := cmK_le a b l k
        by_cases hlt : k < l.length
        · obtain ⟨rfl, hla⟩ := HA.out (by omega)
          obtain ⟨rfl, hlb⟩ := HB.out (by omega)
          have c0 := HAT.out k hlt
          have c1 := HBT.out k hlt
          have HTY := Lib.hid (cmK_yes (a := a) (b := b) (l := l) (k := k))
          have HTN := Lib.hid (cmK_no (a := a) (b := b) (l := l) (k := k))
          generalize (stK a ⟨0, 0⟩ l (k + 1)).l = X at *
          generalize (stK b ⟨0, 0⟩ l (k + 1)).l = Y at *
          generalize cmK a b l k = m at *
          have i1 : (0 : Int) ≤ (k : Int) := by omega
          have i2 : (k : Int) < (l.length : Int) := by omega
          by_cases hx : Y < X
          · have t2 : decide (Y < X) = true := by simpa using hx
            have HS := Lib.hid (HTY.out hx)
            clear hx
            go_wp2
            go_roundw
            case rel => exact ⟨k + 1, by omega, by go_num, by rw [HS.out]; go_num, (by first | rfl | trivial)⟩
            case measure => simp [intOf]; omega
          · have t2 : decide (Y < X) = false := by simpa using hx
            have HS := Lib.hid (HTN.out hx)
            clear hx
            go_wp2
            go_roundw
            case rel => exact ⟨k + 1, by omega, by go_num, by rw [HS.out], (by first | rfl | trivial)⟩
            case measure => simp [intOf]; omega
        · obtain rfl : k = l.length := by omega
          go_wp2
          go_ret2
          exact ⟨ret_ib9 HYY.out.symm HO.out.symm, TB.out⟩
set_option maxRecDepth 100000 in
set_option maxHeartbeats 4000000 in
theorem specCompareRules_c (a b : Wru) (v : Value) (l : List Int) (w : World) (hr : Rd w v (intVs l)) (hn : l.length ≤ 1048576) :
    Calls Try.prog 41 #[.agg #[.int .i64 a.a, .int .i64 a.b, .int .i64 a.c, .int .i64 a.d], .agg #[.int .i64 b.a, .int .i64 b.b, .int .i64 b.c, .int .i64 b.d], v] w fun e w' => e = .returned (.tuple #[.int .i64 (cmV a b l), .bool (cmOk a b l)]) ∧ Below w.heap.size w w' := by
  have HN := Lib.hid (cm_no (a := a) (b := b) (l := l))
  have HY := Lib.hid (cm_yes (a := a) (b := b) (l := l))
  have HD : Hid (cmOk a b l = ((wrV a && wrV b) && vtL l)) := Lib.hid rfl
  have E0 := Lib.hid (fun r W => l12Rule_c r W)
  have E1 := Lib.hid (fun W h => l12Votes_c v l W h hn)
  have E2 : Hid (∀ (r : Wru) W, Rd W v (intVs l) → l.length ≤ 50 → wrV r = true → Calls Try.prog 57 #[.agg #[.int .i64 r.a, .int .i64 r.b, .int .i64 r.c, .int .i64 r.d], .agg #[.int .i64 0, .int .i64 0], v] W fun e w' => ∃ g, e = .returned (.tuple #[g, .agg #[.int .i64 (stK r ⟨0, 0⟩ l l.length).l, .int .i64 (stK r ⟨0, 0⟩ l l.length).c]]) ∧ w'.ownsRow W.heap.size 3 1 g (lvK r ⟨0, 0⟩ l l.length).length (intVs (lvK r ⟨0, 0⟩ l l.length)) ∧ Below W.heap.size W w') := Lib.hid (fun r W h h2 h3 => l12Run_c r ⟨0, 0⟩ v l W h h2 (zero_ok h3))
  have HV5 := Lib.hid (fun h => ((vtL_iff l).1 h).1)
  have HR := Lib.hid hr
  have HC : Hid (∀ W, Below (w.heap.size + 2) ((w.alloc (.cells #[.int .i64 a.a, .int .i64 a.b, .int .i64 a.c, .int .i64 a.d] 25)).alloc (.cells #[.int .i64 b.a, .int .i64 b.b, .int .i64 b.c, .int .i64 b.d] 25)) W → _) := Lib.hid (fun W h => box_ab w a b 25 25 W h)
  have HT0 := Lib.hid (rs_below w (.cells #[.int .i64 a.a, .int .i64 a.b, .int .i64 a.c, .int .i64 a.d] 25) (.cells #[.int .i64 b.a, .int .i64 b.b, .int .i64 b.c, .int .i64 b.d] 25))
  have hs0 : ((w.alloc (.cells #[.int .i64 a.a, .int .i64 a.b, .int .i64 a.c, .int .i64 a.d] 25)).alloc (.cells #[.int .i64 b.a, .int .i64 b.b, .int .i64 b.c, .int .i64 b.d] 25)).heap.size = w.heap.size + 2 := by simp
  have Ea := Lib.hid (E0.out a)
  have Eb := Lib.hid (E0.out b)
  clear hr E0
  cases ha : wrV a with
  | false =>
    rw [ha] at Ea
    have HO : Hid (cmOk a b l = false) := Lib.hid (by rw [HD.out, ha]; rfl)
    clear ha
    go_enter Try.func41, Try.ntmps41
    go_wp2_with fail
    generalize (w.alloc (.cells #[.int .i64 a.a, .int .i64 a.b, .int .i64 a.c, .int .i64 a.d] 25)).alloc (.cells #[.int .i64 b.a, .int .i64 b.b, .int .i64 b.c, .int .i64 b.d] 25) = W0 at *
    refine (Ea.out _).mono ?_
    rintro e w1 ⟨rfl, t1⟩
    have T1 := Lib.hid (HT0.out.trans (t1.mono (by omega)))
    go_wp2
    go_ret2
    exact ⟨ret_ib9 (by rw [HN.out HO.out]) HO.out.symm, T1.out⟩
  | true =>
    rw [ha] at Ea
    cases hb : wrV b with
    | false =>
      rw [hb] at Eb
      have HO : Hid (cmOk a b l = false) := Lib.hid (by rw [HD.out, hb, Bool.and_false]; rfl)
      clear ha hb
      go_enter Try.func41, Try.ntmps41
      go_wp2_with fail
      generalize (w.alloc (.cells #[.int .i64 a.a, .int .i64 a.b, .int .i64 a.c, .int .i64 a.d] 25)).alloc (.cells #[.int .i64 b.a, .int .i64 b.b, .int .i64 b.c, .int .i64 b.d] 25) = W0 at *
      refine (Ea.out _).mono ?_
      rintro e w1 ⟨rfl, t1⟩
      obtain ⟨⟨c0, c1, c2, c3⟩, d0, d1, d2, d3⟩ := HC.out w1 (by rw [← hs0]; exact t1)
      have T1 := Lib.hid (HT0.out.trans (t1.mono (by omega)))
      go_wp2_with fail
      refine (Eb.out _).mono ?_
      rintro e w2 ⟨rfl, t2⟩
      have T2 := Lib.hid (T1.out.trans (t2.mono T1.out.size))
      go_wp2
      go_ret2
      exact ⟨ret_ib9 (by rw [HN.out HO.out]) HO.out.symm, T2.out⟩
    | true =>
      rw [hb] at Eb
      have Ra := Lib.hid (fun W h h2 => E2.out a W h h2 ha)
      have Rb := Lib.hid (fun W h h2 => E2.out b W h h2 hb)
      have HDD : Hid (cmOk a b l = vtL l) := Lib.hid (by rw [HD.out, ha, hb]; rfl)
      clear ha hb E2 HD
      go_enter Try.func41, Try.ntmps41
      go_wp2_with fail
      generalize (w.alloc (.cells #[.int .i64 a.a, .int .i64 a.b, .int .i64 a.c, .int .i64 a.d] 25)).alloc (.cells #[.int .i64 b.a, .int .i64 b.b, .int .i64 b.c, .int .i64 b.d] 25) = W0 at *
      refine (Ea.out _).mono ?_
      rintro e w1 ⟨rfl, t1⟩
      obtain ⟨⟨c0, c1, c2, c3⟩, d0, d1, d2, d3⟩ := HC.out w1 (by rw [← hs0]; exact t1)
      have T1 := Lib.hid (HT0.out.trans (t1.mono (by omega)))
      go_wp2_with fail
      refine (Eb.out _).mono ?_
      rintro e w2 ⟨rfl, t2⟩
      have T2 := Lib.hid (T1.out.trans (t2.mono T1.out.size))
      have t12 := t1.trans (t2.mono t1.size)
      clear c0 c1 c2 c3 d0 d1 d2 d3
      go_wp2_with fail
      refine (E1.out _ (HR.out.below T2.out rfl)).mono ?_
      rintro e w3 ⟨rfl, t3⟩
      have T3 := Lib.hid (T2.out.trans (t3.mono T2.out.size))
      have t13 := t12.trans (t3.mono t12.size)
      obtain ⟨⟨c0, c1, c2, c3⟩, d0, d1, d2, d3⟩ := HC.out w3 (by rw [← hs0]; exact t13)
      cases hv : vtL l with
      | false =>
        have HO : Hid (cmOk a b l = false) := Lib.hid (by rw [HDD.out, hv])
        clear hv t1 t2 t3 t12 t13
        go_wp2
        go_ret2
        exact ⟨ret_ib9 (by rw [HN.out HO.out]) HO.out.symm, T3.out⟩
      | true =>
        have HO : Hid (cmOk a b l = true) := Lib.hid (by rw [HDD.out, hv])
        have h50 := HV5.out hv
        have HT13 := Lib.hid t13
        have hz13 := t13.size
        clear hv t1 t2 t3 t12 t13
        go_wp2_with fail
        refine (Ra.out _ (HR.out.below T3.out rfl) h50).mono ?_
        rintro e w4 ⟨g, rfl, og, t4⟩
        have T4 := Lib.hid (T3.out.trans (t4.mono T3.out.size))
        have U4 := Lib.hid ((HT13.out.trans (t4.mono hz13)).alloc (HT13.out.trans (t4.mono hz13)).size (.cells #[.int .i64 (stK a ⟨0, 0⟩ l l.length).l, .int .i64 (stK a ⟨0, 0⟩ l l.length).c] 27))
        have TA := Lib.hid (T4.out.alloc T4.out.size (.cells #[.int .i64 (stK a ⟨0, 0⟩ l l.length).l, .int .i64 (stK a ⟨0, 0⟩ l l.length).c] 27))
        have OA := Lib.hid (og.alloc (.cells #[.int .i64 (stK a ⟨0, 0⟩ l l.length).l, .int .i64 (stK a ⟨0, 0⟩ l l.length).c] 27))
        clear t4 og c0 c1 c2 c3 d0 d1 d2 d3
        go_upto_region 4 with fail
        generalize w4.alloc (.cells #[.int .i64 (stK a ⟨0, 0⟩ l l.length).l, .int .i64 (stK a ⟨0, 0⟩ l l.length).c] 27) = w5 at *
        generalize stK a ⟨0, 0⟩ l l.length = sa at *
        obtain ⟨⟨c0, c1, c2, c3⟩, d0, d1, d2, d3⟩ := HC.out w5 (by rw [← hs0]; exact U4.out)
        go_wp2_with fail
        refine (Rb.out _ (HR.out.below TA.out rfl) h50).mono ?_
        rintro e w6 ⟨g2, rfl, og2, t6⟩
        have T6 := Lib.hid (TA.out.trans (t6.mono TA.out.size))
        have TB := Lib.hid (T6.out.alloc T6.out.size (.cells #[.int .i64 (stK b ⟨0, 0⟩ l l.length).l, .int .i64 (stK b ⟨0, 0⟩ l l.length).c] 27))
        have OB := Lib.hid (og2.alloc (.cells #[.int .i64 (stK b ⟨0, 0⟩ l l.length).l, .int .i64 (stK b ⟨0, 0⟩ l l.length).c] 27))
        have OA2 := Lib.hid ((owns_below OA.out t6).alloc (.cells #[.int .i64 (stK b ⟨0, 0⟩ l l.length).l, .int .i64 (stK b ⟨0, 0⟩ l l.length).c] 27))
        clear t6 og2 OA c0 c1 c2 c3 d0 d1 d2 d3
        go_upto_region 5 with fail
        generalize w6.alloc (.cells #[.int .i64 (stK b ⟨0, 0⟩ l l.length).l, .int .i64 (stK b ⟨0, 0⟩ l l.length).c] 27) = w7 at *
        generalize stK b ⟨0, 0⟩ l l.length = sb at *
        have HYY := Lib.hid (HY.out HO.out)
        obtain ⟨ao, ba, fa, ca, rfl, hao, hat⟩ := lv_at OA2.out
        obtain ⟨bo, bb, fb, cb, rfl, hbo, hbt⟩ := lv_at OB.out
        have HA := Lib.hid hao
        have HB := Lib.hid hbo
        have HAT := Lib.hid hat
        have HBT := Lib.hid hbt
        clear hao hbo hat hbt OA2 OB HN HY HC
        go_wp2
        go_loopw [12, 13] (fun n i wr => ∃ k m : Nat, k ≤ l.length ∧ i = .int .i64 k ∧ n = .int .i64 (cmK a b l k : Int) ∧ wr = w7.drewN m) (fun _ i _ => l.length - (intOf i).toNat)
        case atStart => exact ⟨0, 0, by omega, rfl, rfl, rfl⟩
        case round =>
          obtain ⟨k, m, hk, rfl, rfl, rfl⟩ := hrel
          have hkl := cmK_le a b l k
          by_cases hlt : k < l.length
          · obtain ⟨rfl, hla⟩ := HA.out (by omega)
            obtain ⟨rfl, hlb⟩ := HB.out (by omega)
            have c0 := HAT.out k hlt
            have c1 := HBT.out k hlt
            have HTY := Lib.hid (cmK_yes (a := a) (b := b) (l := l) (k := k))
            have HTN := Lib.hid (cmK_no (a := a) (b := b) (l := l) (k := k))
            generalize (stK a ⟨0, 0⟩ l (k + 1)).l = X at *
            generalize (stK b ⟨0, 0⟩ l (k + 1)).l = Y at *
            generalize cmK a b l k = mm at *
            have i1 : (0 : Int) ≤ (k : Int) := by omega
            have i2 : (k : Int) < (l.length : Int) := by omega
            by_cases hx : Y < X
            · have t2 : decide (Y < X) = true := by simpa using hx
              have HS := Lib.hid (HTY.out hx)
              clear hx
              go_wp2
              go_quiet (fail)
              go_wp2
              go_roundw
              case rel => exact ⟨k + 1, m + nq, by omega, by go_num, by rw [HS.out]; go_num, rfl⟩
              case measure => simp [intOf]; omega
            · have t2 : decide (Y < X) = false := by simpa using hx
              have HS := Lib.hid (HTN.out hx)
              clear hx
              go_wp2
              go_quiet (fail)
              go_wp2
              go_roundw
              case rel => exact ⟨k + 1, m + nq, by omega, by go_num, by rw [HS.out], rfl⟩
              case measure => simp [intOf]; omega
          · obtain rfl : k = l.length := by omega
            go_wp2
            go_ret2
            exact ⟨ret_ib9 HYY.out.symm HO.out.symm, below_drewN TB.out m⟩
end Go.Proofs.Ytoamhbobcpljpaa
