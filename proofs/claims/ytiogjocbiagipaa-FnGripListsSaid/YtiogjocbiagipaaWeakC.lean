/- WeakestGrip: the program's and the specification's answer as one function. Condition: sizes. -/
import Derived.Test.YtiogjocbiagipaaMinC
namespace Go.Proofs.Ytiogjocbiagipaa
open Go.RowKit
set_option linter.unusedVariables false
set_option maxRecDepth 100000 in
set_option maxHeartbeats 4000000 in
theorem implWeakestGrip_c (v : Value) (l : List Grp) (w : World) (hr : Rs w v l.length (grps l)) (hn : l.length ≤ 1048576) :
    Calls Try.prog 41 #[v] w fun e w' => e = .returned (.tuple #[.int .i64 (wgV l), .bool (wgOk l)]) ∧ Below w.heap.size w w' := by
  have E0 := Lib.hid (fun W h => implAreGrips_c v l W h hn)
  have HR := Lib.hid hr
  have hd : wgOk l = (grpL l && decide (0 < l.length)) := rfl
  obtain ⟨ao, a, oa, ca, rfl, hao, hat⟩ := hr.form_Grp
  have HA := Lib.hid hao
  have HL := Lib.hid hat
  clear hr hao hat
  cases hk : grpL l with
  | false =>
    rw [hk] at E0 hd
    have HD : Hid (wgOk l = false) := Lib.hid (by rw [hd]; rfl)
    have HN := Lib.hid (wg_no HD.out)
    clear hk hd
    go_enter Try.func41, Try.ntmps41
    go_wp2_with fail
    refine (E0.out _ HR.out).mono ?_
    rintro e w1 ⟨rfl, b1⟩
    go_wp2
    go_ret2
    exact ⟨ret_p HN.out.symm HD.out.symm, b1⟩
  | true =>
    have h12 := (grpL_yes hk).len
    by_cases h0 : l.length = 0
    · rw [hk] at E0 hd
      have HD : Hid (wgOk l = false) := Lib.hid (by rw [hd, h0]; rfl)
      have HN := Lib.hid (wg_no HD.out)
      have t0 : ((l.length : Int) == 0) = true := by simpa using h0
      clear hk hd h0
      go_enter Try.func41, Try.ntmps41
      go_wp2_with fail
      refine (E0.out _ HR.out).mono ?_
      rintro e w1 ⟨rfl, b1⟩
      go_wp2
      go_ret2
      exact ⟨ret_p HN.out.symm HD.out.symm, b1⟩
    · rw [hk] at E0 hd
      have HD : Hid (wgOk l = true) := Lib.hid (by rw [hd]; simp; omega)
      have HN := Lib.hid (wg_yes HD.out)
      have hp : 0 < l.length := by omega
      have t0 : ((l.length : Int) == 0) = false := by simpa using h0
      clear hk hd h0
      go_enter Try.func41, Try.ntmps41
      go_wp2_with fail
      refine (E0.out _ HR.out).mono ?_
      rintro e w1 ⟨rfl, b1⟩
      go_wp2_with fail
      refine (minF_c _ l _ (HR.out.below b1 rfl) hp h12).mono ?_
      rintro e w2 ⟨rfl, b2⟩
      have HB := Lib.hid (b1.trans (b2.mono b1.size))
      clear b1 b2
      go_wp2
      go_ret2
      exact ⟨ret_p HN.out.symm HD.out.symm, by first | exact HB.out | exact HB.out.alloc HB.out.size _⟩
set_option maxRecDepth 100000 in
set_option maxHeartbeats 4000000 in
theorem specWeakestGrip_c (v : Value) (l : List Grp) (w : World) (hr : Rs w v l.length (grps l)) (hn : l.length ≤ 1048576) :
    Calls Try.prog 42 #[v] w fun e w' => e = .returned (.tuple #[.int .i64 (wgV l), .bool (wgOk l)]) ∧ Below w.heap.size w w' := by
  have E0 := Lib.hid (fun W h => l7Good_c v l W h hn)
  have HR := Lib.hid hr
  have hd : wgOk l = (grpL l && decide (0 < l.length)) := rfl
  obtain ⟨ao, a, oa, ca, rfl, hao, hat⟩ := hr.form_Grp
  have HA := Lib.hid hao
  have HL := Lib.hid hat
  clear hr hao hat
  cases hk : grpL l with
  | false =>
    rw [hk] at E0 hd
    have HD : Hid (wgOk l = false) := Lib.hid (by rw [hd]; rfl)
    have HN := Lib.hid (wg_no HD.out)
    clear hk hd
    go_enter Try.func42, Try.ntmps42
    go_wp2_with fail
    refine (E0.out _ HR.out).mono ?_
    rintro e w1 ⟨rfl, b1⟩
    go_wp2
    go_ret2
    exact ⟨ret_p HN.out.symm HD.out.symm, b1⟩
  | true =>
    have h12 := (grpL_yes hk).len
    by_cases h0 : l.length = 0
    · rw [hk] at E0 hd
      have HD : Hid (wgOk l = false) := Lib.hid (by rw [hd, h0]; rfl)
      have HN := Lib.hid (wg_no HD.out)
      have t0 : ((l.length : Int) == 0) = true := by simpa using h0
      clear hk hd h0
      go_enter Try.func42, Try.ntmps42
      go_wp2_with fail
      refine (E0.out _ HR.out).mono ?_
      rintro e w1 ⟨rfl, b1⟩
      go_wp2
      go_ret2
      exact ⟨ret_p HN.out.symm HD.out.symm, b1⟩
    · rw [hk] at E0 hd
      have HD : Hid (wgOk l = true) := Lib.hid (by rw [hd]; simp; omega)
      have HN := Lib.hid (wg_yes HD.out)
      have hp : 0 < l.length := by omega
      have t0 : ((l.length : Int) == 0) = false := by simpa using h0
      clear hk hd h0
      go_enter Try.func42, Try.ntmps42
      go_wp2_with fail
      refine (E0.out _ HR.out).mono ?_
      rintro e w1 ⟨rfl, b1⟩
      obtain ⟨rfl, hla, hlm⟩ := HA.out hp
      have HB0 := Lib.hid b1
      obtain ⟨c0, c1, c2, c3, c4⟩ := (HL.out.below b1 hla).zero hp
      clear b1
      obtain ⟨P, hP⟩ : ∃ P, P = w1.heap.size := ⟨_, rfl⟩
      have hPw : w.heap.size ≤ P := by rw [hP]; exact HB0.out.size
      have HB1 := Lib.hid (HB0.out.alloc HB0.out.size (.cells #[.int .i64 (gth l 0).i, .int .i64 (gth l 0).s, .int .i64 (gth l 0).w, .int .i64 (gth l 0).g, .int .i64 (gth l 0).p] 25))
      have HP1 : Hid ((w1.alloc (.cells #[.int .i64 (gth l 0).i, .int .i64 (gth l 0).s, .int .i64 (gth l 0).w, .int .i64 (gth l 0).g, .int .i64 (gth l 0).p] 25)).heap[P]? = some (.cells #[.int .i64 (gth l 0).i, .int .i64 (gth l 0).s, .int .i64 (gth l 0).w, .int .i64 (gth l 0).g, .int .i64 (gth l 0).p] 25 (0, 0))) := Lib.hid (by rw [hP]; exact heap_alloc_new _ _)
      go_wp2
      rw [← hP]
      clear hP c0 c1 c2 c3 c4
      go_loopw [5] (fun i wr => ∃ k : Nat, 1 ≤ k ∧ k ≤ l.length ∧ i = .int .i64 (k : Int) ∧ wr.heap[P]? = some (.cells #[.int .i64 (gth l (wkN l k)).i, .int .i64 (gth l (wkN l k)).s, .int .i64 (gth l (wkN l k)).w, .int .i64 (gth l (wkN l k)).g, .int .i64 (gth l (wkN l k)).p] 25 (0, 0)) ∧ Hid (Below w.heap.size w wr)) (fun i _ => l.length - (intOf i).toNat)
      case atStart => exact ⟨1, by omega, by omega, rfl, HP1.out, HB1⟩
      case round =>
        obtain ⟨k, h1k, hk, rfl, hblk, hbel⟩ := hrel
        by_cases hlt : k < l.length
        · obtain ⟨c0, c1, c2, c3, c4⟩ := (HL.out.below hbel.out hla) k hlt
          have HWY := Lib.hid (wk_yes (l := l) (k := k) h1k)
          have HWN := Lib.hid (wk_no (l := l) (k := k) h1k)
          generalize hMM : gth l (wkN l k) = M at *
          generalize hAA : gth l k = A at *
          have HMM := Lib.hid hMM
          have HAA := Lib.hid hAA
          clear hMM hAA
          have hb2 := blk_old (o' := .cells #[.int .i64 A.i, .int .i64 A.s, .int .i64 A.w, .int .i64 A.g, .int .i64 A.p] 25) hblk
          have HB2 := Lib.hid (hbel.out.alloc hbel.out.size (.cells #[.int .i64 A.i, .int .i64 A.s, .int .i64 A.w, .int .i64 A.g, .int .i64 A.p] 25))
          have m0 := frozen_of_row _ P 0 _ _ hb2
          have m1 := frozen_of_row _ P 1 _ _ hb2
          have m2 := frozen_of_row _ P 2 _ _ hb2
          have m3 := frozen_of_row _ P 3 _ _ hb2
          have m4 := frozen_of_row _ P 4 _ _ hb2
          have p0 := cell_of_row _ P 0 _ _ _ hb2
          have p1 := cell_of_row _ P 1 _ _ _ hb2
          have p2 := cell_of_row _ P 2 _ _ _ hb2
          have p3 := cell_of_row _ P 3 _ _ _ hb2
          have p4 := cell_of_row _ P 4 _ _ _ hb2
          have HBN := Lib.hid hb2
          have HBS := Lib.hid (blk_all7 (y := A) hb2)
          have HGS := Lib.hid (below_set (below_set (below_set (below_set (below_set HB2.out hPw 0 (.int .i64 A.i)) hPw 1 (.int .i64 A.s)) hPw 2 (.int .i64 A.w)) hPw 3 (.int .i64 A.g)) hPw 4 (.int .i64 A.p))
          have hlw : ltW A M = (decide (A.s < M.s) || (decide (A.s = M.s) && decide (M.w < A.w))) := rfl
          clear hb2 hblk
          by_cases h1 : A.s < M.s
          · have HS := Lib.hid (HWY.out (by rw [hlw]; simp [h1]))
            have t1 : decide (A.s < M.s) = true := by simpa using h1
            clear hlw h1
            go_wp2
            go_roundw
            case rel => exact ⟨k + 1, by omega, by omega, by go_num, by rw [HS.out, HAA.out]; exact HBS.out, HGS⟩
            case measure => simp [intOf]; omega
          · have t1 : decide (A.s < M.s) = false := by simpa using h1
            by_cases h2 : A.s = M.s
            · have t2 : (A.s == M.s) = true := by simpa using h2
              by_cases h3 : M.w < A.w
              · have HS := Lib.hid (HWY.out (by rw [hlw]; simp [h2, h3]))
                have t3 : decide (M.w < A.w) = true := by simpa using h3
                clear hlw h1 h2 h3
                go_wp2
                go_roundw
                case rel => exact ⟨k + 1, by omega, by omega, by go_num, by rw [HS.out, HAA.out]; exact HBS.out, HGS⟩
                case measure => simp [intOf]; omega
              · have HS := Lib.hid (HWN.out (by rw [hlw]; simp [h2, h3]))
                have t3 : decide (M.w < A.w) = false := by simpa using h3
                clear hlw h1 h2 h3
                go_wp2
                go_roundw
                case rel => exact ⟨k + 1, by omega, by omega, by go_num, by rw [HS.out, HMM.out]; exact HBN.out, HB2⟩
                case measure => simp [intOf]; omega
            · have t2 : (A.s == M.s) = false := by simpa using h2
              have HS := Lib.hid (HWN.out (by rw [hlw]; simp [h1, h2]))
              clear hlw h1 h2
              go_wp2
              go_roundw
              case rel => exact ⟨k + 1, by omega, by omega, by go_num, by rw [HS.out, HMM.out]; exact HBN.out, HB2⟩
              case measure => simp [intOf]; omega
        · have hke : k = l.length := by omega
          have HE := Lib.hid hke
          skip
          have p0 := cell_of_row _ P 0 _ _ _ hblk
          clear hblk hke
          go_wp2
          go_ret2
          exact ⟨ret_p (by rw [HN.out, HE.out]) HD.out.symm, hbel.out⟩
end Go.Proofs.Ytiogjocbiagipaa
