/- Runs of events: what both sides' walks use, and the program's. Condition: sizes. -/
import Derived.Test.YtinlcbljpclccaaBpB
import Derived.Test.YtinlcbljpclccaaLawK
import Derived.Test.YtinlcbljpclccaaAft
import Derived.Deep.DeepCutAuto
import Derived.Deep.RegionHeld3
namespace Go.Proofs.Ytinlcbljpclccaa
open Go.RowKit
set_option linter.unusedVariables false
theorem duo_1 (w : World) (o1 o2 : Obj) : ((w.alloc o1).alloc o2).heap[w.heap.size]? = some o1 := blk_stay (heap_alloc_new w o1)
theorem duo_2 (w : World) (o1 o2 : Obj) : ((w.alloc o1).alloc o2).heap[w.heap.size + 1]? = some o2 := by
  have h := heap_alloc_new (w.alloc o1) o2
  have e : (w.alloc o1).heap.size = w.heap.size + 1 := by simp
  rw [e] at h; exact h
theorem duo_below (w : World) (o1 o2 : Obj) : Below w.heap.size w ((w.alloc o1).alloc o2) := ((Below.refl _ _).alloc (Nat.le_refl _) _).alloc (by simp) _
theorem ret_pnb {a c : Plt} {n m : Int} {x y : Bool} (h : a = c) (g : n = m) (k : x = y) : Ending.returned (.tuple #[.agg #[.int .i64 a.d, .int .i64 a.s, .int .i64 a.i, .int .i64 a.w, .bool a.l, .int .i64 a.g], .int .i64 n, .bool x]) = .returned (.tuple #[.agg #[.int .i64 c.d, .int .i64 c.s, .int .i64 c.i, .int .i64 c.w, .bool c.l, .int .i64 c.g], .int .i64 m, .bool y]) := by rw [h, g, k]
theorem rp_no {p : Plt} {l : List Bev} (h : plV p = false ∨ 20 < l.length) : rpP p l = plZ ∧ (rpN p l : Int) = 0 ∧ rpOk p l = false := by
  have : rpOk p l = false := by
    unfold rpOk
    rcases h with h | h
    · rw [h]; rfl
    · rw [show decide (l.length ≤ 20) = false by simp; omega]; simp
  simp [rpP, rpN, this]
theorem rp_len {p : Plt} {l : List Bev} (h : plV p = true) (h2 : l.length ≤ 20) : rpOk p l = true := by simp [rpOk, h, h2]
theorem rp_at {p : Plt} {l : List Bev} (h : rpOk p l = true) (k : Nat) (hk : k ≤ l.length) (ha : ∀ j, j < k → stOk (runK p l j) (gth l j) = true) (hz : k = l.length ∨ stOk (runK p l k) (gth l k) = false) : runK p l k = rpP p l ∧ (k : Int) = (rpN p l : Int) := by
  have := run_at l p k hk ha hz
  simp [rpP, rpN, h, this]
theorem implStepV_c (p : Plt) (e : Bev) (w : World) (h : plV p = true) :
    Calls Try.prog 17 #[.agg #[.int .i64 p.d, .int .i64 p.s, .int .i64 p.i, .int .i64 p.w, .bool p.l, .int .i64 p.g], .agg #[.string e.k, .int .i64 e.c]] w fun x w' => x = .returned (.tuple #[.agg #[.int .i64 (stR p e).d, .int .i64 (stR p e).s, .int .i64 (stR p e).i, .int .i64 (stR p e).w, .bool (stR p e).l, .int .i64 (stR p e).g], .bool (stOk p e)]) ∧ Below w.heap.size w w' := by
  have E := implStepPlatform_c p e w
  rw [show spR p e = stR p e by simp [spR, stR, spOk, h], show spOk p e = stOk p e by simp [spOk, h]] at E
  exact E
set_option maxRecDepth 100000 in
set_option maxHeartbeats 4000000 in
theorem implRunPlatform_c (p : Plt) (v : Value) (l : List Bev) (w : World) (hr : Rs w v l.length (bevs l)) (hn : l.length ≤ maxLen) :
    Calls Try.prog 14 #[.agg #[.int .i64 p.d, .int .i64 p.s, .int .i64 p.i, .int .i64 p.w, .bool p.l, .int .i64 p.g], v] w fun x w' => x = .returned (.tuple #[.agg #[.int .i64 (rpP p l).d, .int .i64 (rpP p l).s, .int .i64 (rpP p l).i, .int .i64 (rpP p l).w, .bool (rpP p l).l, .int .i64 (rpP p l).g], .int .i64 (rpN p l), .bool (rpOk p l)]) ∧ Below w.heap.size w w' := by
  unfold maxLen at hn
  have HF := Lib.hid (@rp_no p l)
  have HB := Lib.hid (@rp_len p l)
  have HY := Lib.hid (@rp_at p l)
  have HV := Lib.hid (fun (h : plV p = true) => @runK_ok l p h)
  have E0 := Lib.hid (fun W => implIsPlatform_c p W)
  obtain ⟨ao, a, oa, ca, rfl, hao, hat⟩ := hr.form_Bev
  have HA := Lib.hid hao
  have HL := Lib.hid hat
  clear hr hao hat
  have J0 := Lib.hid (duo_1 w (.cells #[.int .i64 p.d, .int .i64 p.s, .int .i64 p.i, .int .i64 p.w, .bool p.l, .int .i64 p.g] 25) (.cells #[.int .i64 0, .int .i64 0, .int .i64 0, .int .i64 0, .bool false, .int .i64 0] 25))
  have K0 := Lib.hid (duo_2 w (.cells #[.int .i64 p.d, .int .i64 p.s, .int .i64 p.i, .int .i64 p.w, .bool p.l, .int .i64 p.g] 25) (.cells #[.int .i64 0, .int .i64 0, .int .i64 0, .int .i64 0, .bool false, .int .i64 0] 25))
  have HT0 := Lib.hid (duo_below w (.cells #[.int .i64 p.d, .int .i64 p.s, .int .i64 p.i, .int .i64 p.w, .bool p.l, .int .i64 p.g] 25) (.cells #[.int .i64 0, .int .i64 0, .int .i64 0, .int .i64 0, .bool false, .int .i64 0] 25))
  have hs0 : ((w.alloc (.cells #[.int .i64 p.d, .int .i64 p.s, .int .i64 p.i, .int .i64 p.w, .bool p.l, .int .i64 p.g] 25)).alloc (.cells #[.int .i64 0, .int .i64 0, .int .i64 0, .int .i64 0, .bool false, .int .i64 0] 25)).heap.size = w.heap.size + 2 := by simp
  generalize rpP p l = A at *
  generalize rpN p l = N at *
  generalize rpOk p l = b at *
  generalize plV p = b1 at *
  go_enter Try.func14, Try.ntmps14
  go_wp2_with fail
  generalize ((w.alloc (.cells #[.int .i64 p.d, .int .i64 p.s, .int .i64 p.i, .int .i64 p.w, .bool p.l, .int .i64 p.g] 25)).alloc (.cells #[.int .i64 0, .int .i64 0, .int .i64 0, .int .i64 0, .bool false, .int .i64 0] 25)) = W0 at *
  refine (E0.out _).mono ?_
  rintro x w1 ⟨rfl, t1⟩
  have hz1 := t1.size
  have T1 := Lib.hid (HT0.out.trans (t1.mono (by omega)))
  have J1 := Lib.hid (blk_keep J0.out t1 (by omega))
  have K1 := Lib.hid (blk_keep K0.out t1 (by omega))
  clear t1 J0 K0 HT0 hs0
  cases b1 with
  | false =>
    have hz := Lib.hid (HF.out (.inl rfl))
    obtain ⟨k0, k1, k2, k3, k4, k5⟩ := blk_cell6 K1.out
    obtain ⟨m0, m1, m2, m3, m4, m5⟩ := blk_froz6 K1.out
    have hk1 := blk_lt K1.out
    obtain ⟨z0, z1, z2, z3, z4, z5⟩ := blk_cell6 (blk_all6 (x0 := .int .i64 0) (x1 := .int .i64 0) (x2 := .int .i64 0) (x3 := .int .i64 0) (x4 := .bool false) (x5 := .int .i64 0) K1.out)
    have Z0 := Lib.hid z0
    have Z1 := Lib.hid z1
    have Z2 := Lib.hid z2
    have Z3 := Lib.hid z3
    have Z4 := Lib.hid z4
    have Z5 := Lib.hid z5
    clear z0 z1 z2 z3 z4 z5
    go_wp2
    refine bodyPost_ret (v := .tuple #[.agg #[.int .i64 0, .int .i64 0, .int .i64 0, .int .i64 0, .bool false, .int .i64 0], .int .i64 0, .bool false]) (by simp [results, Try.results14, go_sem, Z0.out, Z1.out, Z2.out, Z3.out, Z4.out, Z5.out]) rfl ⟨ret_pnb (a := plZ) hz.out.1.symm hz.out.2.1.symm hz.out.2.2.symm, ?_⟩
    exact below_all6 T1.out (by omega) _ _ _ _ _ _
  | true =>
    have HVr := Lib.hid (HV.out rfl)
    clear HV
    by_cases h20 : 20 < l.length
    · have hg : (20 : Int) < (l.length : Int) := by omega
      have hz := Lib.hid (HF.out (.inr h20))
      obtain ⟨k0, k1, k2, k3, k4, k5⟩ := blk_cell6 K1.out
      obtain ⟨m0, m1, m2, m3, m4, m5⟩ := blk_froz6 K1.out
      have hk1 := blk_lt K1.out
      obtain ⟨z0, z1, z2, z3, z4, z5⟩ := blk_cell6 (blk_all6 (x0 := .int .i64 0) (x1 := .int .i64 0) (x2 := .int .i64 0) (x3 := .int .i64 0) (x4 := .bool false) (x5 := .int .i64 0) K1.out)
      have Z0 := Lib.hid z0
      have Z1 := Lib.hid z1
      have Z2 := Lib.hid z2
      have Z3 := Lib.hid z3
      have Z4 := Lib.hid z4
      have Z5 := Lib.hid z5
      clear z0 z1 z2 z3 z4 z5
      go_wp2
      refine bodyPost_ret (v := .tuple #[.agg #[.int .i64 0, .int .i64 0, .int .i64 0, .int .i64 0, .bool false, .int .i64 0], .int .i64 0, .bool false]) (by simp [results, Try.results14, go_sem, Z0.out, Z1.out, Z2.out, Z3.out, Z4.out, Z5.out]) rfl ⟨ret_pnb (a := plZ) hz.out.1.symm hz.out.2.1.symm hz.out.2.2.symm, ?_⟩
      exact below_all6 T1.out (by omega) _ _ _ _ _ _
    · have hg : ¬ (20 : Int) < (l.length : Int) := by omega
      have hb : Hid (b = true) := Lib.hid (HB.out rfl (by omega))
      have HYr := Lib.hid (HY.out hb.out)
      clear HF HB HY
      go_wp2
      go_loopw [22] (fun i wr => ∃ (j : Nat) (q : Plt), j ≤ l.length ∧ i = .int .i64 j ∧ Hid (q = runK p l j) ∧ Hid (wr.heap[w.heap.size]? = some (.cells #[.int .i64 q.d, .int .i64 q.s, .int .i64 q.i, .int .i64 q.w, .bool q.l, .int .i64 q.g] 25 (0, 0))) ∧ Hid (wr.heap[w.heap.size + 1]? = some (.cells #[.int .i64 0, .int .i64 0, .int .i64 0, .int .i64 0, .bool false, .int .i64 0] 25 (0, 0))) ∧ Hid (∀ m, m < j → stOk (runK p l m) (gth l m) = true) ∧ Hid (Below w.heap.size w wr)) (fun i _ => l.length - (intOf i).toNat)
      case atStart => exact ⟨0, p, Nat.zero_le _, rfl, Lib.hid rfl, J1, K1, Lib.hid (fun m hm => by omega), T1⟩
      case round =>
        obtain ⟨j, q, hj, rfl, HQ, J2, K2, HG, HB2⟩ := hrel
        have hbs := HB2.out.size
        have hjP := blk_lt J2.out
        have hjK := blk_lt K2.out
        clear T1 J1 K1 hz1
        by_cases hlt : j < l.length
        · obtain ⟨rfl, hla, hlm⟩ := HA.out (by omega)
          obtain ⟨d0, d1⟩ := (HL.out.below HB2.out hla) j hlt
          obtain ⟨c0, c1, c2, c3, c4, c5⟩ := blk_cell6 J2.out
          have hvq : Hid (plV q = true) := Lib.hid (by rw [HQ.out]; exact HVr.out j HG.out)
          have E1 := Lib.hid (fun W => implStepV_c q (gth l j) W hvq.out)
          have HS : Hid (stOk q (gth l j) = true → stR q (gth l j) = runK p l (j + 1)) := Lib.hid (fun h => by rw [stR_yes h, HQ.out]; rfl)
          have HN : Hid (stOk q (gth l j) = false → q = A ∧ (j : Int) = N) := Lib.hid (fun h => by rw [HQ.out] at h ⊢; exact HYr.out j hj HG.out (.inr h))
          have HG1 : Hid (stOk q (gth l j) = true → ∀ m, m < j + 1 → stOk (runK p l m) (gth l m) = true) := Lib.hid (fun h m hm => by
            by_cases e : m = j
            · subst e; rw [HQ.out] at h; exact h
            · exact HG.out m (by omega))
          generalize stR q (gth l j) = S at *
          generalize stOk q (gth l j) = sb at *
          generalize gth l j = D at *
          obtain ⟨dk, dc⟩ := D
          try dsimp only at d0 d1
          have T3 := Lib.hid (HB2.out.alloc HB2.out.size (.cells #[.string dk, .int .i64 dc] 35))
          have J3 := Lib.hid (blk_stay (o' := .cells #[.string dk, .int .i64 dc] 35) J2.out)
          have K3 := Lib.hid (blk_stay (o' := .cells #[.string dk, .int .i64 dc] 35) K2.out)
          have hs3 : wr.heap.size + 1 ≤ (wr.alloc (.cells #[.string dk, .int .i64 dc] 35)).heap.size := by simp
          go_wp2_with fail
          refine (E1.out _).mono ?_
          rintro x w3 ⟨rfl, t⟩
          have T4 := Lib.hid (T3.out.trans (t.mono T3.out.size))
          have J4 := Lib.hid (blk_keep J3.out t (by omega))
          have K4 := Lib.hid (blk_keep K3.out t (by omega))
          have hs4 := t.size
          clear t T3 J3 K3 c0 c1 c2 c3 c4 c5 d0 d1
          have N5 := Lib.hid (blk_new6 w3 (.int .i64 S.d) (.int .i64 S.s) (.int .i64 S.i) (.int .i64 S.w) (.bool S.l) (.int .i64 S.g) 25)
          have J5 := Lib.hid (blk_stay (o' := .cells #[.int .i64 S.d, .int .i64 S.s, .int .i64 S.i, .int .i64 S.w, .bool S.l, .int .i64 S.g] 25) J4.out)
          have K5 := Lib.hid (blk_stay (o' := .cells #[.int .i64 S.d, .int .i64 S.s, .int .i64 S.i, .int .i64 S.w, .bool S.l, .int .i64 S.g] 25) K4.out)
          have T5 := Lib.hid (T4.out.alloc T4.out.size (.cells #[.int .i64 S.d, .int .i64 S.s, .int .i64 S.i, .int .i64 S.w, .bool S.l, .int .i64 S.g] 25))
          have hn5 : (w3.alloc (.cells #[.int .i64 S.d, .int .i64 S.s, .int .i64 S.i, .int .i64 S.w, .bool S.l, .int .i64 S.g] 25)).heap.size = w3.heap.size + 1 := by simp
          go_upto_region 7 with fail
          generalize (w3.alloc (.cells #[.int .i64 S.d, .int .i64 S.s, .int .i64 S.i, .int .i64 S.w, .bool S.l, .int .i64 S.g] 25)) = w5 at *
          obtain ⟨P, hP⟩ : ∃ P, P = w3.heap.size := ⟨_, rfl⟩
          rw [← hP] at N5 hn5 ⊢
          have hP1 : w.heap.size + 1 < P := by omega
          clear hP hn5 hs3 hs4 hbs J4 K4 T4
          have hlP := blk_lt N5.out
          have hlJ := blk_lt J5.out
          have hlK := blk_lt K5.out
          cases sb with
          | false =>
            have hn := Lib.hid (HN.out rfl)
            obtain ⟨c0, c1, c2, c3, c4, c5⟩ := blk_cell6 J5.out
            obtain ⟨q0, q1, q2, q3, q4, q5⟩ := blk_cell6 K5.out
            obtain ⟨n0, n1, n2, n3, n4, n5⟩ := blk_froz6 K5.out
            obtain ⟨z0, z1, z2, z3, z4, z5⟩ := blk_cell6 (blk_all6 (x0 := .int .i64 q.d) (x1 := .int .i64 q.s) (x2 := .int .i64 q.i) (x3 := .int .i64 q.w) (x4 := .bool q.l) (x5 := .int .i64 q.g) K5.out)
            have Z0 := Lib.hid z0
            have Z1 := Lib.hid z1
            have Z2 := Lib.hid z2
            have Z3 := Lib.hid z3
            have Z4 := Lib.hid z4
            have Z5 := Lib.hid z5
            clear z0 z1 z2 z3 z4 z5
            go_wp2
            refine bodyPost_ret (v := .tuple #[.agg #[.int .i64 q.d, .int .i64 q.s, .int .i64 q.i, .int .i64 q.w, .bool q.l, .int .i64 q.g], .int .i64 j, .bool true]) (by simp [results, Try.results14, go_sem, Z0.out, Z1.out, Z2.out, Z3.out, Z4.out, Z5.out]) rfl ⟨ret_pnb (a := q) hn.out.1 hn.out.2 hb.out.symm, ?_⟩
            exact below_all6 T5.out (by omega) _ _ _ _ _ _
          | true =>
            have hn := Lib.hid (HS.out rfl)
            have HG2 := Lib.hid (HG1.out rfl)
            obtain ⟨c0, c1, c2, c3, c4, c5⟩ := blk_cell6 J5.out
            obtain ⟨n0, n1, n2, n3, n4, n5⟩ := blk_froz6 J5.out
            obtain ⟨r0, r1, r2, r3, r4, r5⟩ := blk_cell6 N5.out
            have J6 := Lib.hid (blk_all6 (x0 := .int .i64 S.d) (x1 := .int .i64 S.s) (x2 := .int .i64 S.i) (x3 := .int .i64 S.w) (x4 := .bool S.l) (x5 := .int .i64 S.g) J5.out)
            have K6 : Hid (((((((w5.setCell ⟨w.heap.size, 0, none⟩ (.int .i64 S.d)).setCell ⟨w.heap.size, 1, none⟩ (.int .i64 S.s)).setCell ⟨w.heap.size, 2, none⟩ (.int .i64 S.i)).setCell ⟨w.heap.size, 3, none⟩ (.int .i64 S.w)).setCell ⟨w.heap.size, 4, none⟩ (.bool S.l)).setCell ⟨w.heap.size, 5, none⟩ (.int .i64 S.g)).heap[w.heap.size + 1]? = some (.cells #[.int .i64 0, .int .i64 0, .int .i64 0, .int .i64 0, .bool false, .int .i64 0] 25 (0, 0))) := Lib.hid ((blk_other6 (by omega)).trans K5.out)
            have T6 := Lib.hid (below_all6 T5.out (Nat.le_refl _) (.int .i64 S.d) (.int .i64 S.s) (.int .i64 S.i) (.int .i64 S.w) (.bool S.l) (.int .i64 S.g))
            clear J2 K2 J5 K5 N5 T5 HB2
            go_wp2
            go_roundw
            case rel => exact ⟨j + 1, S, by omega, by go_num, hn, J6, K6, HG2, T6⟩
            case measure => simp [intOf]; omega
        · obtain rfl : j = l.length := by omega
          have hn := Lib.hid (HYr.out _ (Nat.le_refl _) HG.out (.inl rfl))
          rw [← HQ.out] at hn
          obtain ⟨c0, c1, c2, c3, c4, c5⟩ := blk_cell6 J2.out
          obtain ⟨q0, q1, q2, q3, q4, q5⟩ := blk_cell6 K2.out
          obtain ⟨n0, n1, n2, n3, n4, n5⟩ := blk_froz6 K2.out
          obtain ⟨z0, z1, z2, z3, z4, z5⟩ := blk_cell6 (blk_all6 (x0 := .int .i64 q.d) (x1 := .int .i64 q.s) (x2 := .int .i64 q.i) (x3 := .int .i64 q.w) (x4 := .bool q.l) (x5 := .int .i64 q.g) K2.out)
          have Z0 := Lib.hid z0
          have Z1 := Lib.hid z1
          have Z2 := Lib.hid z2
          have Z3 := Lib.hid z3
          have Z4 := Lib.hid z4
          have Z5 := Lib.hid z5
          clear z0 z1 z2 z3 z4 z5
          go_wp2
          refine bodyPost_ret (v := .tuple #[.agg #[.int .i64 q.d, .int .i64 q.s, .int .i64 q.i, .int .i64 q.w, .bool q.l, .int .i64 q.g], .int .i64 l.length, .bool true]) (by simp [results, Try.results14, go_sem, Z0.out, Z1.out, Z2.out, Z3.out, Z4.out, Z5.out]) rfl ⟨ret_pnb (a := q) hn.out.1 hn.out.2 hb.out.symm, ?_⟩
          exact below_all6 HB2.out (by omega) _ _ _ _ _ _
end Go.Proofs.Ytinlcbljpclccaa
