/- EarliestFree, GreatestFree and CompareRules. Condition: sizes. -/
import Derived.Test.YtoamhbobcpljpaaWndT
namespace Go.Proofs.Ytoamhbobcpljpaa
open Go.RowKit
set_option linter.unusedVariables false
theorem ef_pos {r : Wru} {s : Wst} (h : wsV r s = true) (h0 : 0 < s.l) : 1 ≤ s.l * r.d - s.c := by
  obtain ⟨h1, h2⟩ := (wsV_iff r s).1 h
  have h3 := (wrV_iff r).1 h1
  have h4 : s.l = 1 ∨ s.l = 2 := by omega
  rcases h4 with h | h <;> rw [h] at h2 ⊢ <;> omega
set_option maxRecDepth 100000 in
set_option maxHeartbeats 2000000 in
theorem implGreatestFree_c (r : Wru) (w : World) :
    Calls Try.prog 37 #[.agg #[.int .i64 r.a, .int .i64 r.b, .int .i64 r.c, .int .i64 r.d]] w fun e w' => e = .returned (.tuple #[.int .i64 (gfV r), .bool (wrV r)]) ∧ Below w.heap.size w w' := by
  have E0 := Lib.hid (fun W => implIsWindRule_c r W)
  have HI := Lib.hid (wrV_iff r)
  have HG : Hid (gfV r = if wrV r then r.a - 1 else 0) := Lib.hid rfl
  have HC : Hid (∀ W, Below (w.heap.size + 1) (w.alloc (.cells #[.int .i64 r.a, .int .i64 r.b, .int .i64 r.c, .int .i64 r.d] 25)) W → _) := Lib.hid (fun W h => box_Wru w r 25 _ rfl W h)
  have B0 := Lib.hid ((Below.refl w.heap.size w).alloc (Nat.le_refl _) (.cells #[.int .i64 r.a, .int .i64 r.b, .int .i64 r.c, .int .i64 r.d] 25))
  have hs0 : (w.alloc (.cells #[.int .i64 r.a, .int .i64 r.b, .int .i64 r.c, .int .i64 r.d] 25)).heap.size = w.heap.size + 1 := by simp
  generalize gfV r = V at *
  generalize wrV r = b at *
  go_enter Try.func37, Try.ntmps37
  go_wp2_with fail
  generalize w.alloc (.cells #[.int .i64 r.a, .int .i64 r.b, .int .i64 r.c, .int .i64 r.d] 25) = W0 at *
  refine (E0.out _).mono ?_
  rintro e w1 ⟨rfl, t1⟩
  have T1 := Lib.hid (B0.out.trans (t1.mono (by omega)))
  cases b with
  | false =>
    go_wp2
    go_ret2
    exact ⟨ret_ib9 (by rw [HG.out]; rfl) rfl, T1.out⟩
  | true =>
    obtain ⟨c0, c1, c2, c3⟩ := HC.out w1 (by rw [← hs0]; exact t1)
    have hr := HI.out.1 (by simp)
    have q1 : IntKind.i64.wrap (r.a - 1) = r.a - 1 := IntWalk.i64_in _ (by omega)
    clear hr HI t1
    go_wp2
    go_ret2
    exact ⟨ret_ib9 (by rw [HG.out]; rfl) rfl, T1.out⟩
set_option maxRecDepth 100000 in
set_option maxHeartbeats 2000000 in
theorem specGreatestFree_c (r : Wru) (w : World) :
    Calls Try.prog 38 #[.agg #[.int .i64 r.a, .int .i64 r.b, .int .i64 r.c, .int .i64 r.d]] w fun e w' => e = .returned (.tuple #[.int .i64 (gfV r), .bool (wrV r)]) ∧ Below w.heap.size w w' := by
  have E0 := Lib.hid (fun W => l12Rule_c r W)
  have HI := Lib.hid (wrV_iff r)
  have HG : Hid (gfV r = if wrV r then r.a - 1 else 0) := Lib.hid rfl
  have HC : Hid (∀ W, Below (w.heap.size + 1) (w.alloc (.cells #[.int .i64 r.a, .int .i64 r.b, .int .i64 r.c, .int .i64 r.d] 25)) W → _) := Lib.hid (fun W h => box_Wru w r 25 _ rfl W h)
  have B0 := Lib.hid ((Below.refl w.heap.size w).alloc (Nat.le_refl _) (.cells #[.int .i64 r.a, .int .i64 r.b, .int .i64 r.c, .int .i64 r.d] 25))
  have hs0 : (w.alloc (.cells #[.int .i64 r.a, .int .i64 r.b, .int .i64 r.c, .int .i64 r.d] 25)).heap.size = w.heap.size + 1 := by simp
  generalize gfV r = V at *
  generalize wrV r = b at *
  go_enter Try.func38, Try.ntmps38
  go_wp2_with fail
  generalize w.alloc (.cells #[.int .i64 r.a, .int .i64 r.b, .int .i64 r.c, .int .i64 r.d] 25) = W0 at *
  refine (E0.out _).mono ?_
  rintro e w1 ⟨rfl, t1⟩
  have T1 := Lib.hid (B0.out.trans (t1.mono (by omega)))
  cases b with
  | false =>
    go_wp2
    go_ret2
    exact ⟨ret_ib9 (by rw [HG.out]; rfl) rfl, T1.out⟩
  | true =>
    obtain ⟨c0, c1, c2, c3⟩ := HC.out w1 (by rw [← hs0]; exact t1)
    have hr := HI.out.1 (by simp)
    have q1 : IntKind.i64.wrap (r.a - 1) = r.a - 1 := IntWalk.i64_in _ (by omega)
    clear hr HI t1
    go_wp2
    go_ret2
    exact ⟨ret_ib9 (by rw [HG.out]; rfl) rfl, T1.out⟩
set_option maxRecDepth 100000 in
set_option maxHeartbeats 4000000 in
theorem implEarliestFree_c (r : Wru) (s : Wst) (w : World) :
    Calls Try.prog 26 #[.agg #[.int .i64 r.a, .int .i64 r.b, .int .i64 r.c, .int .i64 r.d], .agg #[.int .i64 s.l, .int .i64 s.c]] w fun e w' => e = .returned (.tuple #[.int .i64 (efV r s), .bool (wsV r s)]) ∧ Below w.heap.size w w' := by
  have HN := Lib.hid (ef_no (r := r) (s := s))
  have HY := Lib.hid (ef_yes (r := r) (s := s))
  have HBD := Lib.hid (ef_bd (r := r) (s := s))
  have HD : Hid (wsV r s = (wrV r && wsX r s)) := Lib.hid rfl
  have E0 := Lib.hid (fun W => implIsWindRule_c r W)
  have E1 := Lib.hid (fun W h => isWindState_c r s W h)
  have HIS := Lib.hid (wsV_iff r s)
  have HC : Hid (∀ W, Below (w.heap.size + 2) ((w.alloc (.cells #[.int .i64 r.a, .int .i64 r.b, .int .i64 r.c, .int .i64 r.d] 25)).alloc (.cells #[.int .i64 s.l, .int .i64 s.c] 27)) W → _) := Lib.hid (fun W h => box_rs w r s 25 27 W h)
  have HT0 := Lib.hid (rs_below w (.cells #[.int .i64 r.a, .int .i64 r.b, .int .i64 r.c, .int .i64 r.d] 25) (.cells #[.int .i64 s.l, .int .i64 s.c] 27))
  have hs0 : ((w.alloc (.cells #[.int .i64 r.a, .int .i64 r.b, .int .i64 r.c, .int .i64 r.d] 25)).alloc (.cells #[.int .i64 s.l, .int .i64 s.c] 27)).heap.size = w.heap.size + 2 := by simp
  generalize efV r s = V at *
  generalize wsV r s = K at *
  generalize wrV r = b0 at *
  generalize wsX r s = b1 at *
  go_enter Try.func26, Try.ntmps26
  go_wp2_with fail
  generalize (w.alloc (.cells #[.int .i64 r.a, .int .i64 r.b, .int .i64 r.c, .int .i64 r.d] 25)).alloc (.cells #[.int .i64 s.l, .int .i64 s.c] 27) = W0 at *
  refine (E0.out _).mono ?_
  rintro e w1 ⟨rfl, t1⟩
  have T1 := Lib.hid (HT0.out.trans (t1.mono (by omega)))
  cases b0 with
  | false =>
    go_wp2
    go_ret2
    exact ⟨ret_ib9 (by rw [HN.out (by rw [HD.out]; rfl)]) (by rw [HD.out]; rfl), T1.out⟩
  | true =>
    obtain ⟨⟨c0, c1, c2, c3⟩, d0, d1⟩ := HC.out w1 (by rw [← hs0]; exact t1)
    go_wp2_with fail
    refine (E1.out _ (by simp)).mono ?_
    rintro e w2 ⟨rfl, t2⟩
    have T2 := Lib.hid (T1.out.trans (t2.mono T1.out.size))
    have t12 := t1.trans (t2.mono t1.size)
    cases b1 with
    | false =>
      go_wp2
      go_ret2
      exact ⟨ret_ib9 (by rw [HN.out (by rw [HD.out]; rfl)]) (by rw [HD.out]; rfl), T2.out⟩
    | true =>
      have hK : K = true := by rw [HD.out]; rfl
      have hb := HBD.out hK
      have hs := (HIS.out.1 hK).2
      have HVV := Lib.hid (HY.out hK)
      have HKK := Lib.hid hK
      have hd1 : s.c ≤ 20 ∧ 0 ≤ s.c := by omega
      clear c0 c1 c2 c3 d0 d1
      obtain ⟨⟨c0, c1, c2, c3⟩, d0, d1⟩ := HC.out w2 (by rw [← hs0]; exact t12)
      have q1 : IntKind.i64.wrap (s.l * r.d) = s.l * r.d := IntWalk.i64_in _ (by omega)
      have q2 : IntKind.i64.wrap (s.l * r.d - s.c) = s.l * r.d - s.c := IntWalk.i64_in _ (by omega)
      clear t1 t2 t12 HC hb hs hd1 hK HIS HBD HN HY HD
      go_wp2
      go_ret2
      exact ⟨ret_ib9 HVV.out.symm HKK.out.symm, T2.out⟩
set_option maxRecDepth 100000 in
set_option maxHeartbeats 4000000 in
theorem specEarliestFree_c (r : Wru) (s : Wst) (w : World) :
    Calls Try.prog 27 #[.agg #[.int .i64 r.a, .int .i64 r.b, .int .i64 r.c, .int .i64 r.d], .agg #[.int .i64 s.l, .int .i64 s.c]] w fun e w' => e = .returned (.tuple #[.int .i64 (efV r s), .bool (wsV r s)]) ∧ Below w.heap.size w w' := by
  have HN := Lib.hid (ef_no (r := r) (s := s))
  have HY := Lib.hid (ef_yes (r := r) (s := s))
  have HBD := Lib.hid (ef_bd (r := r) (s := s))
  have E0 := Lib.hid (fun W => l12State_c r s W)
  have HC : Hid (∀ W, Below (w.heap.size + 2) ((w.alloc (.cells #[.int .i64 r.a, .int .i64 r.b, .int .i64 r.c, .int .i64 r.d] 25)).alloc (.cells #[.int .i64 s.l, .int .i64 s.c] 27)) W → _) := Lib.hid (fun W h => box_rs w r s 25 27 W h)
  have HT0 := Lib.hid (rs_below w (.cells #[.int .i64 r.a, .int .i64 r.b, .int .i64 r.c, .int .i64 r.d] 25) (.cells #[.int .i64 s.l, .int .i64 s.c] 27))
  have hs0 : ((w.alloc (.cells #[.int .i64 r.a, .int .i64 r.b, .int .i64 r.c, .int .i64 r.d] 25)).alloc (.cells #[.int .i64 s.l, .int .i64 s.c] 27)).heap.size = w.heap.size + 2 := by simp
  have J0 : Hid (((w.alloc (.cells #[.int .i64 r.a, .int .i64 r.b, .int .i64 r.c, .int .i64 r.d] 25)).alloc (.cells #[.int .i64 s.l, .int .i64 s.c] 27)).heap[w.heap.size + 1]? = some (.cells #[.int .i64 s.l, .int .i64 s.c] 27)) := Lib.hid (by
    have h := blk_new2 (w.alloc (.cells #[.int .i64 r.a, .int .i64 r.b, .int .i64 r.c, .int .i64 r.d] 25)) (.int .i64 s.l) (.int .i64 s.c) 27
    rw [show (w.alloc (.cells #[.int .i64 r.a, .int .i64 r.b, .int .i64 r.c, .int .i64 r.d] 25)).heap.size = w.heap.size + 1 by simp] at h
    exact h)
  have R0 : Hid (((w.alloc (.cells #[.int .i64 r.a, .int .i64 r.b, .int .i64 r.c, .int .i64 r.d] 25)).alloc (.cells #[.int .i64 s.l, .int .i64 s.c] 27)).heap[w.heap.size]? = some (.cells #[.int .i64 r.a, .int .i64 r.b, .int .i64 r.c, .int .i64 r.d] 25)) := Lib.hid (blk_stay (heap_alloc_new w _))
  cases hk : wsV r s with
  | false =>
    rw [hk] at E0
    have HVV := Lib.hid (HN.out hk)
    clear hk
    go_enter Try.func27, Try.ntmps27
    go_wp2_with fail
    generalize (w.alloc (.cells #[.int .i64 r.a, .int .i64 r.b, .int .i64 r.c, .int .i64 r.d] 25)).alloc (.cells #[.int .i64 s.l, .int .i64 s.c] 27) = W0 at *
    refine (E0.out _).mono ?_
    rintro e w1 ⟨rfl, t1⟩
    have T1 := Lib.hid (HT0.out.trans (t1.mono (by omega)))
    go_wp2
    go_ret2
    exact ⟨ret_ib9 HVV.out.symm rfl, T1.out⟩
  | true =>
    rw [hk] at E0
    have HVV := Lib.hid (HY.out hk)
    have hb := HBD.out hk
    have HKK := Lib.hid hk
    clear hk HN HY HBD
    generalize hE : s.l * r.d - s.c = E at *
    have HE := Lib.hid hE
    clear hE
    have hE20 : E ≤ 20 ∧ 0 ≤ E := by omega
    clear hb
    go_enter Try.func27, Try.ntmps27
    go_wp2_with fail
    generalize (w.alloc (.cells #[.int .i64 r.a, .int .i64 r.b, .int .i64 r.c, .int .i64 r.d] 25)).alloc (.cells #[.int .i64 s.l, .int .i64 s.c] 27) = W0 at *
    refine (E0.out _).mono ?_
    rintro e w1 ⟨rfl, t1⟩
    have T1 := Lib.hid (HT0.out.trans (t1.mono (by omega)))
    have J1 := Lib.hid (blk_keep J0.out t1 (by omega))
    have R1 := Lib.hid (blk_keep R0.out t1 (by omega))
    clear t1
    go_wp2
    go_loopw [6] (fun n wr => ∃ (k : Nat) (st : Wst), n = .int .i64 (k : Int) ∧ wsV r st = true ∧ Hid (st.l * r.d - st.c + (k : Int) = E) ∧ Hid (Below w.heap.size w wr) ∧ Hid (wr.heap[w.heap.size]? = some (.cells #[.int .i64 r.a, .int .i64 r.b, .int .i64 r.c, .int .i64 r.d] 25)) ∧ Hid (wr.heap[w.heap.size + 1]? = some (.cells #[.int .i64 st.l, .int .i64 st.c] 27))) (fun n _ => E.toNat - (intOf n).toNat)
    case atStart => exact ⟨0, s, rfl, HKK.out, Lib.hid (by rw [HE.out]; simp), T1, R1, J1⟩
    case round =>
      obtain ⟨k, st, rfl, hv, hE, hbel, hR, hJ⟩ := hrel
      obtain ⟨r0, r1, r2, r3⟩ := blk_cell4 hR.out
      obtain ⟨s0, s1⟩ := blk_cell2 hJ.out
      have HV := Lib.hid hv
      by_cases h0 : 0 < st.l
      · have t0 : decide (0 < st.l) = true := by simpa using h0
        have hp := ef_pos hv h0
        have HST := Lib.hid (ef_step hv h0)
        have HOK := Lib.hid (wnx_ok hv 0)
        have hEo := hE.out
        have hk20 : (k : Int) + 1 ≤ E := by omega
        have HC2 := Lib.hid (fun W => l12Next_c r st 0 W HV.out)
        have HE2 : Hid ((wnx r st 0).l * r.d - (wnx r st 0).c + ((k + 1 : Nat) : Int) = E) := Lib.hid (by have := HST.out; have := hE.out; omega)
        clear hv h0 hp hEo HST
        generalize wnx r st 0 = st' at *
        go_wp2_with fail
        refine (HC2.out _).mono ?_
        rintro e w5 ⟨rfl, t5⟩
        have J5 := blk_keep hJ.out t5 (blk_lt hJ.out)
        have R5 := blk_keep hR.out t5 (blk_lt hR.out)
        have J6 : Hid (((w5.setCell ⟨w.heap.size + 1, 0, none⟩ (.int .i64 st'.l)).setCell ⟨w.heap.size + 1, 1, none⟩ (.int .i64 st'.c)).heap[w.heap.size + 1]? = some (.cells #[.int .i64 st'.l, .int .i64 st'.c] 27)) := Lib.hid (blk_all2 J5)
        have R6 : Hid (((w5.setCell ⟨w.heap.size + 1, 0, none⟩ (.int .i64 st'.l)).setCell ⟨w.heap.size + 1, 1, none⟩ (.int .i64 st'.c)).heap[w.heap.size]? = some (.cells #[.int .i64 r.a, .int .i64 r.b, .int .i64 r.c, .int .i64 r.d] 25)) := Lib.hid ((blk_other2 (by omega)).trans R5)
        have T6 : Hid (Below w.heap.size w ((w5.setCell ⟨w.heap.size + 1, 0, none⟩ (.int .i64 st'.l)).setCell ⟨w.heap.size + 1, 1, none⟩ (.int .i64 st'.c))) := Lib.hid (below_all2 (hbel.out.trans (t5.mono hbel.out.size)) (b := w.heap.size + 1) (by omega) _ _)
        obtain ⟨p0, p1⟩ := blk_cell2 J5
        obtain ⟨m0, m1⟩ := blk_froz2 J5
        clear t5 R5 J5 r0 r1 r2 r3 s0 s1
        have q3 : IntKind.i64.wrap ((k : Int) + 1) = ((k + 1 : Nat) : Int) := by rw [IntWalk.i64_in _ (by omega)]; omega
        have hmm : E.toNat - (k + 1) < E.toNat - k := by omega
        go_wp2
        go_roundw
        case rel => exact ⟨k + 1, st', by first | rfl | (congr 1; omega), HOK.out, HE2, T6, R6, J6⟩
        case measure => simp [intOf]; omega
      · have t0 : decide (0 < st.l) = false := by simpa using h0
        have HX : Hid ((k : Int) = E) := Lib.hid (by
          have h1 := hE.out
          obtain ⟨_, h2⟩ := (wsV_iff r st).1 hv
          have h3 := ef_zero hv (by omega)
          omega)
        clear h0 hv
        go_wp2
        go_ret2
        exact ⟨ret_ib9 (by rw [HVV.out]; exact HX.out) rfl, hbel.out⟩
end Go.Proofs.Ytoamhbobcpljpaa
