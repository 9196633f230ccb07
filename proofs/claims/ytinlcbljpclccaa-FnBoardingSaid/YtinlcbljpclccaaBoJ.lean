/- The quickest events: the specification's. Condition: sizes. -/
import Derived.Test.YtinlcbljpclccaaBpF
import Derived.Deep.DeepCutAuto
import Derived.Deep.AppendLies
namespace Go.Proofs.Ytinlcbljpclccaa
open Go.RowKit
set_option linter.unusedVariables false
set_option maxRecDepth 100000 in
set_option maxHeartbeats 8000000 in
theorem specQuickestGo_c (p : Plt) (w : World) :
    Calls Try.prog 42 #[.agg #[.int .i64 p.d, .int .i64 p.s, .int .i64 p.i, .int .i64 p.w, .bool p.l, .int .i64 p.g]] w fun x w' => ∃ v, x = .returned (.tuple #[v, .bool (qgV p)]) ∧ w'.ownsRow w.heap.size 35 2 v (qgL p).length (bevs (qgL p)) ∧ Below w.heap.size w w' := by
  obtain ⟨i0, hi, hy0, hy1, hy2⟩ := info_parts Try.infoBev
  have J0 := Lib.hid (heap_alloc_new w (.cells #[.int .i64 p.d, .int .i64 p.s, .int .i64 p.i, .int .i64 p.w, .bool p.l, .int .i64 p.g] 25))
  have HT0 := Lib.hid ((Below.refl w.heap.size w).alloc (Nat.le_refl _) (.cells #[.int .i64 p.d, .int .i64 p.s, .int .i64 p.i, .int .i64 p.w, .bool p.l, .int .i64 p.g] 25))
  have hs0 : (w.alloc (.cells #[.int .i64 p.d, .int .i64 p.s, .int .i64 p.i, .int .i64 p.w, .bool p.l, .int .i64 p.g] 25)).heap.size = w.heap.size + 1 := by simp
  have O0 : Hid (((w.alloc (.cells #[.int .i64 p.d, .int .i64 p.s, .int .i64 p.i, .int .i64 p.w, .bool p.l, .int .i64 p.g] 25)).alloc (.cells #[] 35)).ownsRow w.heap.size 35 2 (.slice (some ⟨w.heap.size + 1, 0, none⟩) 0 0) 0 []) := Lib.hid (by
    have h := own_mono (World.ownsRow_made (w.alloc (.cells #[.int .i64 p.d, .int .i64 p.s, .int .i64 p.i, .int .i64 p.w, .bool p.l, .int .i64 p.g] 25)) (e := 35) (size := 2) #[] 0 (Nat.le_refl _) (by decide) rfl) (show w.heap.size ≤ (w.alloc (.cells #[.int .i64 p.d, .int .i64 p.s, .int .i64 p.i, .int .i64 p.w, .bool p.l, .int .i64 p.g] 25)).heap.size by omega)
    rw [hs0] at h; exact h)
  have J0b := Lib.hid (blk_stay (o' := .cells #[] 35) J0.out)
  have HT0b := Lib.hid (HT0.out.alloc HT0.out.size (.cells #[] 35))
  have hs0b : ((w.alloc (.cells #[.int .i64 p.d, .int .i64 p.s, .int .i64 p.i, .int .i64 p.w, .bool p.l, .int .i64 p.g] 25)).alloc (.cells #[] 35)).heap.size = w.heap.size + 2 := by simp
  cases hb : plV p with
  | false =>
    have E0 := Lib.hid (fun W => by have h := l14Good_c p W; rw [hb] at h; exact h)
    have hqv : qgV p = false := by simp [qgV, hb]
    rw [hqv, qg_no hqv]
    clear hb hqv
    go_enter Try.func42, Try.ntmps42
    go_wp2_with fail
    generalize (w.alloc (.cells #[.int .i64 p.d, .int .i64 p.s, .int .i64 p.i, .int .i64 p.w, .bool p.l, .int .i64 p.g] 25)).alloc (.cells #[] 35) = W0 at *
    refine (E0.out _).mono ?_
    rintro x w1 ⟨rfl, t1⟩
    have T2 := Lib.hid (HT0b.out.trans (t1.mono (by omega)))
    have J2 := Lib.hid (blk_keep J0b.out t1 (by omega))
    have O2 := Lib.hid (owns_below O0.out t1)
    clear t1 J0 HT0 hs0 J0b HT0b hs0b O0
    go_wp2
    go_ret2
    exact ⟨_, rfl, O2.out, T2.out⟩
  | true =>
    have E0 := Lib.hid (fun W => by have h := l14Good_c p W; rw [hb] at h; exact h)
    have Hb := Lib.hid hb
    by_cases hs : p.s = 0
    · have hqv : qgV p = false := by simp [qgV, hs]
      rw [hqv, qg_no hqv]
      have q1 : (p.s == 0) = true := by simpa using hs
      clear hs hqv hb
      go_enter Try.func42, Try.ntmps42
      go_wp2_with fail
      generalize (w.alloc (.cells #[.int .i64 p.d, .int .i64 p.s, .int .i64 p.i, .int .i64 p.w, .bool p.l, .int .i64 p.g] 25)).alloc (.cells #[] 35) = W0 at *
      refine (E0.out _).mono ?_
      rintro x w1 ⟨rfl, t1⟩
      have T2 := Lib.hid (HT0b.out.trans (t1.mono (by omega)))
      have J2 := Lib.hid (blk_keep J0b.out t1 (by omega))
      have O2 := Lib.hid (owns_below O0.out t1)
      clear t1 J0 HT0 hs0 J0b HT0b hs0b O0
      obtain ⟨c0, c1, c2, c3, c4, c5⟩ := blk_cell6 J2.out
      go_wp2
      go_ret2
      exact ⟨_, rfl, O2.out, T2.out⟩
    · by_cases hg : p.g = 9999
      · have hqv : qgV p = false := by simp [qgV, hg]
        rw [hqv, qg_no hqv]
        have q1 : (p.s == 0) = false := by simpa using hs
        have q2 : (p.g == 9999) = true := by simpa using hg
        clear hs hg hqv hb
        go_enter Try.func42, Try.ntmps42
        go_wp2_with fail
        generalize (w.alloc (.cells #[.int .i64 p.d, .int .i64 p.s, .int .i64 p.i, .int .i64 p.w, .bool p.l, .int .i64 p.g] 25)).alloc (.cells #[] 35) = W0 at *
        refine (E0.out _).mono ?_
        rintro x w1 ⟨rfl, t1⟩
        have T2 := Lib.hid (HT0b.out.trans (t1.mono (by omega)))
        have J2 := Lib.hid (blk_keep J0b.out t1 (by omega))
        have O2 := Lib.hid (owns_below O0.out t1)
        clear t1 J0 HT0 hs0 J0b HT0b hs0b O0
        obtain ⟨c0, c1, c2, c3, c4, c5⟩ := blk_cell6 J2.out
        go_wp2
        go_ret2
        exact ⟨_, rfl, O2.out, T2.out⟩
      · have hqv0 : qgV p = true := by simp [qgV, hs, hg, hb]
        have hqv := Lib.hid hqv0
        rw [hqv0]
        clear hqv0
        have q1 : (p.s == 0) = false := by simpa using hs
        have q2 : (p.g == 9999) = false := by simpa using hg
        have HO := Lib.hid (opP_ok hb hs)
        clear hs hg hb
        have HL1 := Lib.hid (fun h => @qg_open p h)
        have HL2 := Lib.hid (fun h => @qg_shut p h)
        have hway : (opB p = true ∧ (p.d == 0) = true ∧ 0 < p.w ∧ p.i < p.s) ∨ (opB p = false ∧ ((p.d == 0) = false ∨ ((p.d == 0) = true ∧ ¬ 0 < p.w) ∨ ((p.d == 0) = true ∧ 0 < p.w ∧ ¬ p.i < p.s))) := by
          by_cases h1 : p.d = 0 <;> by_cases h2 : 0 < p.w <;> by_cases h3 : p.i < p.s <;> simp [opB, h1, h2, h3]
        go_enter Try.func42, Try.ntmps42
        go_wp2_with fail
        generalize (w.alloc (.cells #[.int .i64 p.d, .int .i64 p.s, .int .i64 p.i, .int .i64 p.w, .bool p.l, .int .i64 p.g] 25)).alloc (.cells #[] 35) = W0 at *
        refine (E0.out _).mono ?_
        rintro x w1 ⟨rfl, t1⟩
        have T2 := Lib.hid (HT0b.out.trans (t1.mono (by omega)))
        have J2 := Lib.hid (blk_keep J0b.out t1 (by omega))
        have O2 := Lib.hid (owns_below O0.out t1)
        clear t1 J0 HT0 hs0 J0b HT0b hs0b O0
        obtain ⟨c0, c1, c2, c3, c4, c5⟩ := blk_cell6 J2.out
        rcases hway with ⟨hob1, q4, q5, q6⟩ | ⟨hob1, hguard⟩
        · have HLr := Lib.hid (HL1.out hob1)
          clear hob1 HL1 HL2
          have hown := O2.out.alloc (.cells #[.string kOpen, .int .i64 0] 35)
          have hlt5 := fun j hj => (O2.out.lt j hj).1
          have hsz5 := T2.out.size
          go_upto_region 6 with (at_builtin; go_loud (refine wpList_append_any _ rfl _ _ 26 rfl w.heap.size 35 i0 (.agg #[.string ⟨#[]⟩, .int .i64 0]) 2 24 Try.underlying26 hi hy0 hy1 hy2 rfl (by decide) _ _ _ rfl hown (some ⟨w1.heap.size, 0, none⟩) 1 1 [.string kOpen, .int .i64 0] rfl rfl (fun _ => ⟨_, rfl, World.news_of_block (cs := #[.string kOpen, .int .i64 0]) (t := 35) (fr := (0, 0)) (heap_alloc_new w1 _)⟩) (by simp [Value.oneCell']) (by unfold maxLen; omega) (by omega) (by simp; omega) ?_; intro v9 w9 hown' hgrow hob))
          have hg2 : (w1.alloc (.cells #[.string kOpen, .int .i64 0] 35)).grownBy w9 (Value.slice (some ⟨w.heap.size + 1, 0, none⟩) 0 0).ownBlock := hgrow
          have J9 := Lib.hid (grow_keep hown hg2 (blk_stay (o' := .cells #[.string kOpen, .int .i64 0] 35) J2.out) (by decide))
          have T9 := Lib.hid ((T2.out.alloc T2.out.size (.cells #[.string kOpen, .int .i64 0] 35)).grown hg2 (by simp; omega) (fun j hj => by have := hlt5 j hj; omega))
          have O9 : Hid (w9.ownsRow w.heap.size 35 2 v9 ([(⟨kOpen, 0⟩ : Bev)]).length (bevs ([(⟨kOpen, 0⟩ : Bev)]))) := Lib.hid (by exact hown')
          clear hown hown' hgrow hg2 hob hlt5 J2 T2 O2 c0 c1 c2 c3 c4 c5
          obtain ⟨n0, n1, n2, n3, n4, n5⟩ := blk_froz6 J9.out
          obtain ⟨o0, o1, o2, o3, o4, o5⟩ := blk_cell6 J9.out
          have JB : Hid ((w9.setCell ⟨w.heap.size, 0, none⟩ (.int .i64 1)).heap[w.heap.size]? = some (.cells #[.int .i64 (opP p).d, .int .i64 (opP p).s, .int .i64 (opP p).i, .int .i64 (opP p).w, .bool (opP p).l, .int .i64 (opP p).g] 25 (0, 0))) := Lib.hid (blk_put6_0 (x := .int .i64 1) J9.out)
          have OB := Lib.hid (own_by O9.out (grown_put w9 ⟨w.heap.size, 0, none⟩ (.int .i64 1)) (own_ne O9.out J9.out (by decide)))
          have TB := Lib.hid (T9.out.setCell (p := ⟨w.heap.size, 0, none⟩) (Nat.le_refl _) (.int .i64 1))
          go_upto_region 7 with fail
          generalize w9.setCell ⟨w.heap.size, 0, none⟩ (.int .i64 1) = w5 at *
          clear n0 n1 n2 n3 n4 n5 o0 o1 o2 o3 o4 o5 J9 O9 T9
          obtain ⟨q, hq⟩ : ∃ q, q = opP p := ⟨_, rfl⟩
          rw [← hq] at JB HO
          have HQ : Hid (q = qgS p) := Lib.hid (by rw [hq, HLr.out.2])
          clear hq
          obtain ⟨l0, hl⟩ : ∃ l0, l0 = [(⟨kOpen, 0⟩ : Bev)] := ⟨_, rfl⟩
          rw [← hl] at OB
          have HL0 : Hid (l0 = qgO p) := Lib.hid (by rw [hl, HLr.out.1])
          have hl0 : l0.length ≤ 1 := by rw [hl]; simp
          clear hl
          have hvq := HO
          have J5 := JB
          have O5 := OB
          have T5 := TB
          clear JB OB TB
          go_wp2
          go_loopw [4] (fun out wr => ∃ (l : List Bev) (q2 : Plt), Hid (plV q2 = true) ∧ Hid (l ++ enL q2 = l0 ++ enL q ∧ enP q2 = enP q) ∧ Hid (wr.ownsRow w.heap.size 35 2 out (l).length (bevs (l))) ∧ Hid (wr.heap[w.heap.size]? = some (.cells #[.int .i64 q2.d, .int .i64 q2.s, .int .i64 q2.i, .int .i64 q2.w, .bool q2.l, .int .i64 q2.g] 25 (0, 0))) ∧ Hid (Below w.heap.size w wr)) (fun out _ => 8 - lenE out)
          case atStart => exact ⟨l0, q, hvq, Lib.hid ⟨rfl, rfl⟩, O5, J5, T5⟩
          case round =>
            obtain ⟨l, q2, hv, HE, O7, J7, T7⟩ := hrel
            obtain ⟨va, vc, hvs⟩ := (Rs.of_own O7.out).shape
            subst hvs
            have hll := qg_fit HE.out hl0
            have hbs := T7.out.size
            have EL := Lib.hid (fun W => l14Entering_c q2 W hv.out)
            obtain ⟨c0, c1, c2, c3, c4, c5⟩ := blk_cell6 J7.out
            go_wp2_with fail
            refine (EL.out _).mono ?_
            rintro x w7b ⟨rfl, t⟩
            have J7b := Lib.hid (blk_keep J7.out t (blk_lt J7.out))
            have O7b := Lib.hid (owns_below O7.out t)
            have T7b := Lib.hid (T7.out.trans (t.mono T7.out.size))
            clear t c0 c1 c2 c3 c4 c5
            by_cases he : 0 < entP q2
            · have HP := Lib.hid (enL_pos hv.out he)
              have HSV := Lib.hid (enS_ok hv.out he)
              have E2 := Lib.hid (fun W => specStepE_c q2 W hv.out he)
              have HE2 : Hid ((l ++ [⟨kEnter, entP q2⟩]) ++ enL (enS q2) = l0 ++ enL q ∧ enP (enS q2) = enP q) := Lib.hid (by have h1 := HE.out; rw [HP.out.1, HP.out.2] at h1; exact ⟨by rw [← h1.1]; simp, h1.2⟩)
              clear HP HE
              generalize enS q2 = S at *
              generalize entP q2 = m at *
              obtain ⟨c0, c1, c2, c3, c4, c5⟩ := blk_cell6 J7b.out
              go_wp2_with fail
              refine (EL.out _).mono ?_
              rintro x w7c ⟨rfl, t⟩
              have J7c := Lib.hid (blk_keep J7b.out t (blk_lt J7b.out))
              have O7c := Lib.hid (owns_below O7b.out t)
              have T7c := Lib.hid (T7b.out.trans (t.mono T7b.out.size))
              clear t c0 c1 c2 c3 c4 c5
              have J8 := Lib.hid (blk_stay (o' := .cells #[.string kEnter, .int .i64 m] 35) J7c.out)
              have O8 := Lib.hid (O7c.out.alloc (.cells #[.string kEnter, .int .i64 m] 35))
              have T8 := Lib.hid (T7c.out.alloc T7c.out.size (.cells #[.string kEnter, .int .i64 m] 35))
              have N8 := Lib.hid (heap_alloc_new w7c (.cells #[.string kEnter, .int .i64 m] 35))
              have hn8 : Hid ((Value.slice va l.length vc).ownBlock ≠ some w7c.heap.size) := Lib.hid (fun e => by have := (O7c.out.lt _ e).2; omega)
              go_upto_region 9 with fail
              generalize w7c.alloc (.cells #[.string kEnter, .int .i64 m] 35) = w8 at *
              obtain ⟨P, hP⟩ : ∃ P, P = w7c.heap.size := ⟨_, rfl⟩
              rw [← hP] at N8 hn8 ⊢
              have hPl := blk_lt N8.out
              clear hP
              obtain ⟨d0, d1⟩ := blk_cell2 N8.out
              have hown := O8.out.alloc (.cells #[.string kEnter, .int .i64 m] 35)
              have hlt5 := fun j hj => (O8.out.lt j hj).1
              have hsz5 := T8.out.size
              go_upto_region 10 with (at_builtin; go_loud (refine wpList_append_any _ rfl _ _ 26 rfl w.heap.size 35 i0 (.agg #[.string ⟨#[]⟩, .int .i64 0]) 2 24 Try.underlying26 hi hy0 hy1 hy2 rfl (by decide) _ _ _ rfl hown (some ⟨w8.heap.size, 0, none⟩) 1 1 [.string kEnter, .int .i64 m] rfl rfl (fun _ => ⟨_, rfl, World.news_of_block (cs := #[.string kEnter, .int .i64 m]) (t := 35) (fr := (0, 0)) (heap_alloc_new w8 _)⟩) (by simp [Value.oneCell']) (by unfold maxLen; omega) (by omega) (by simp; omega) ?_; intro v9 w9 hown' hgrow hob))
              have hg2 : (w8.alloc (.cells #[.string kEnter, .int .i64 m] 35)).grownBy w9 (Value.slice va l.length vc).ownBlock := hgrow
              have J9 := Lib.hid (grow_keep hown hg2 (blk_stay (o' := .cells #[.string kEnter, .int .i64 m] 35) J8.out) (by decide))
              have N9 := Lib.hid (grow_other hg2 (blk_stay (o' := .cells #[.string kEnter, .int .i64 m] 35) N8.out) hn8.out)
              have T9 := Lib.hid ((T8.out.alloc T8.out.size (.cells #[.string kEnter, .int .i64 m] 35)).grown hg2 (by simp; omega) (fun j hj => by have := hlt5 j hj; omega))
              have O9 : Hid (w9.ownsRow w.heap.size 35 2 v9 (l ++ [(⟨kEnter, m⟩ : Bev)]).length (bevs (l ++ [(⟨kEnter, m⟩ : Bev)]))) := Lib.hid (by rw [bevs_snocE, List.length_append]; exact hown')
              clear hown hown' hgrow hg2 hob hlt5
              clear J8 O8 T8 N8 hn8 d0 d1 J7 O7 T7 hbs
              obtain ⟨v9a, v9c, hv9⟩ := (Rs.of_own O9.out).shape
              subst hv9
              obtain ⟨c0, c1, c2, c3, c4, c5⟩ := blk_cell6 J9.out
              obtain ⟨d0, d1⟩ := blk_cell2 N9.out
              go_wp2_with fail
              refine (E2.out _).mono ?_
              rintro x wA ⟨rfl, t⟩
              have JA := Lib.hid (blk_keep J9.out t (blk_lt J9.out))
              have OA := Lib.hid (owns_below O9.out t)
              have TA := Lib.hid (T9.out.trans (t.mono T9.out.size))
              clear t c0 c1 c2 c3 c4 c5 d0 d1
              obtain ⟨n0, n1, n2, n3, n4, n5⟩ := blk_froz6 JA.out
              obtain ⟨o0, o1, o2, o3, o4, o5⟩ := blk_cell6 JA.out
              have JB := Lib.hid (blk_all6 (x0 := .int .i64 S.d) (x1 := .int .i64 S.s) (x2 := .int .i64 S.i) (x3 := .int .i64 S.w) (x4 := .bool S.l) (x5 := .int .i64 S.g) JA.out)
              have OB := Lib.hid (own6 OA.out JA.out (by decide) (.int .i64 S.d) (.int .i64 S.s) (.int .i64 S.i) (.int .i64 S.w) (.bool S.l) (.int .i64 S.g))
              have TB := Lib.hid (below_all6 TA.out (Nat.le_refl _) (.int .i64 S.d) (.int .i64 S.s) (.int .i64 S.i) (.int .i64 S.w) (.bool S.l) (.int .i64 S.g))
              go_wp2
              go_roundw
              case rel => exact ⟨l ++ [⟨kEnter, m⟩], S, HSV, HE2, Lib.hid (by have h := OB.out; rw [List.length_append] at h; rw [List.length_append]; exact h), JB, TB⟩
              case measure => simp [lenE]; omega
            · have HP := Lib.hid (enL_neg he)
              have HLL : Hid (l = qgO p ++ enL (qgS p) ∧ q2 = enP (qgS p)) := Lib.hid (by have h1 := HE.out; rw [HP.out.1, HP.out.2, List.append_nil, HQ.out, HL0.out] at h1; exact h1)
              clear HP HE
              obtain ⟨c0, c1, c2, c3, c4, c5⟩ := blk_cell6 J7b.out
              by_cases hd : q2.d = 1
              · have q3 : (q2.d == 1) = true := by simpa using hd
                have HF := Lib.hid (qg_two hqv.out HLL.out.1 HLL.out.2 hd)
                clear hd
                have hown := O7b.out.alloc (.cells #[.string kShut, .int .i64 0] 35)
                have hlt5 := fun j hj => (O7b.out.lt j hj).1
                have hsz5 := T7b.out.size
                go_upto_region 13 with (at_builtin; go_loud (refine wpList_append_any _ rfl _ _ 26 rfl w.heap.size 35 i0 (.agg #[.string ⟨#[]⟩, .int .i64 0]) 2 24 Try.underlying26 hi hy0 hy1 hy2 rfl (by decide) _ _ _ rfl hown (some ⟨w7b.heap.size, 0, none⟩) 1 1 [.string kShut, .int .i64 0] rfl rfl (fun _ => ⟨_, rfl, World.news_of_block (cs := #[.string kShut, .int .i64 0]) (t := 35) (fr := (0, 0)) (heap_alloc_new w7b _)⟩) (by simp [Value.oneCell']) (by unfold maxLen; omega) (by omega) (by simp; omega) ?_; intro v9 w9 hown' hgrow hob))
                have hg2 : (w7b.alloc (.cells #[.string kShut, .int .i64 0] 35)).grownBy w9 (Value.slice va l.length vc).ownBlock := hgrow
                have J9 := Lib.hid (grow_keep hown hg2 (blk_stay (o' := .cells #[.string kShut, .int .i64 0] 35) J7b.out) (by decide))
                have T9 := Lib.hid ((T7b.out.alloc T7b.out.size (.cells #[.string kShut, .int .i64 0] 35)).grown hg2 (by simp; omega) (fun j hj => by have := hlt5 j hj; omega))
                have O9 : Hid (w9.ownsRow w.heap.size 35 2 v9 (l ++ [(⟨kShut, 0⟩ : Bev)]).length (bevs (l ++ [(⟨kShut, 0⟩ : Bev)]))) := Lib.hid (by rw [bevs_snocE, List.length_append]; exact hown')
                clear hown hown' hgrow hg2 hob hlt5
                have hln : (l ++ [(⟨kShut, 0⟩ : Bev)]).length ≤ 4 := by simp; omega
                clear c0 c1 c2 c3 c4 c5
                obtain ⟨wx, hwx⟩ : ∃ wx, wx = w9 := ⟨_, rfl⟩
                obtain ⟨vx, hvx⟩ : ∃ vx, vx = v9 := ⟨_, rfl⟩
                rw [← hwx, ← hvx] at O9
                rw [← hwx] at J9 T9
                rw [← hwx, ← hvx]
                clear hwx hvx
                generalize hl1 : l ++ [(⟨kShut, 0⟩ : Bev)] = l1 at *
                clear hl1
                have hown := O9.out.alloc (.cells #[.string kGo, .int .i64 0] 35)
                have hlt5 := fun j hj => (O9.out.lt j hj).1
                have hsz5 := T9.out.size
                go_wp2_with (at_builtin; go_loud (refine wpList_append_any _ rfl _ _ 26 rfl w.heap.size 35 i0 (.agg #[.string ⟨#[]⟩, .int .i64 0]) 2 24 Try.underlying26 hi hy0 hy1 hy2 rfl (by decide) _ _ _ rfl hown (some ⟨wx.heap.size, 0, none⟩) 1 1 [.string kGo, .int .i64 0] rfl rfl (fun _ => ⟨_, rfl, World.news_of_block (cs := #[.string kGo, .int .i64 0]) (t := 35) (fr := (0, 0)) (heap_alloc_new wx _)⟩) (by simp [Value.oneCell']) (by unfold maxLen; omega) (by omega) (by simp; omega) ?_; intro v9 w9 hown' hgrow hob))
                have hg2 : (wx.alloc (.cells #[.string kGo, .int .i64 0] 35)).grownBy w9 vx.ownBlock := hgrow
                have TF := Lib.hid ((T9.out.alloc T9.out.size (.cells #[.string kGo, .int .i64 0] 35)).grown hg2 (by simp; omega) (fun j hj => by have := hlt5 j hj; omega))
                have OF : Hid (w9.ownsRow w.heap.size 35 2 v9 (l1 ++ [(⟨kGo, 0⟩ : Bev)]).length (bevs (l1 ++ [(⟨kGo, 0⟩ : Bev)]))) := Lib.hid (by rw [bevs_snocE, List.length_append]; exact hown')
                clear hown hown' hgrow hg2 hob hlt5
                go_ret2
                exact ⟨_, rfl, by rw [← HF.out]; exact OF.out, TF.out⟩
              · have q3 : (q2.d == 1) = false := by simpa using hd
                have HF := Lib.hid (qg_one hqv.out HLL.out.1 HLL.out.2 hd)
                clear hd
                have hown := O7b.out.alloc (.cells #[.string kGo, .int .i64 0] 35)
                have hlt5 := fun j hj => (O7b.out.lt j hj).1
                have hsz5 := T7b.out.size
                go_wp2_with (at_builtin; go_loud (refine wpList_append_any _ rfl _ _ 26 rfl w.heap.size 35 i0 (.agg #[.string ⟨#[]⟩, .int .i64 0]) 2 24 Try.underlying26 hi hy0 hy1 hy2 rfl (by decide) _ _ _ rfl hown (some ⟨w7b.heap.size, 0, none⟩) 1 1 [.string kGo, .int .i64 0] rfl rfl (fun _ => ⟨_, rfl, World.news_of_block (cs := #[.string kGo, .int .i64 0]) (t := 35) (fr := (0, 0)) (heap_alloc_new w7b _)⟩) (by simp [Value.oneCell']) (by unfold maxLen; omega) (by omega) (by simp; omega) ?_; intro v9 w9 hown' hgrow hob))
                have hg2 : (w7b.alloc (.cells #[.string kGo, .int .i64 0] 35)).grownBy w9 (Value.slice va l.length vc).ownBlock := hgrow
                have J9 := Lib.hid (grow_keep hown hg2 (blk_stay (o' := .cells #[.string kGo, .int .i64 0] 35) J7b.out) (by decide))
                have T9 := Lib.hid ((T7b.out.alloc T7b.out.size (.cells #[.string kGo, .int .i64 0] 35)).grown hg2 (by simp; omega) (fun j hj => by have := hlt5 j hj; omega))
                have O9 : Hid (w9.ownsRow w.heap.size 35 2 v9 (l ++ [(⟨kGo, 0⟩ : Bev)]).length (bevs (l ++ [(⟨kGo, 0⟩ : Bev)]))) := Lib.hid (by rw [bevs_snocE, List.length_append]; exact hown')
                clear hown hown' hgrow hg2 hob hlt5
                go_ret2
                exact ⟨_, rfl, by rw [← HF.out]; exact O9.out, T9.out⟩
        · have HLr := Lib.hid (HL2.out hob1)
          clear hob1 HL1 HL2
          have hvq := Hb
          obtain ⟨q, hq⟩ : ∃ q, q = p := ⟨_, rfl⟩
          have HQ : Hid (q = qgS p) := Lib.hid (by rw [hq, HLr.out.2])
          obtain ⟨l0, hl⟩ : ∃ l0, l0 = ([] : List Bev) := ⟨_, rfl⟩
          have HL0 : Hid (l0 = qgO p) := Lib.hid (by rw [hl, HLr.out.1])
          have hl0 : l0.length ≤ 1 := by rw [hl]; simp
          have J5q : Hid (w1.heap[w.heap.size]? = some (.cells #[.int .i64 q.d, .int .i64 q.s, .int .i64 q.i, .int .i64 q.w, .bool q.l, .int .i64 q.g] 25 (0, 0))) := Lib.hid (by rw [hq]; exact J2.out)
          have hvqq : Hid (plV q = true) := Lib.hid (by rw [hq]; exact hvq.out)
          have O5q : Hid (w1.ownsRow w.heap.size 35 2 (.slice (some ⟨w.heap.size + 1, 0, none⟩) 0 0) l0.length (bevs l0)) := Lib.hid (by rw [hl]; exact O2.out)
          clear hl hq hvq O2
          rcases hguard with q4 | ⟨q4, q5⟩ | ⟨q4, q5, q6⟩
          all_goals
            go_upto_region 7 with fail
            clear c0 c1 c2 c3 c4 c5 J2 q4
            have J5 := J5q
            have O5 := O5q
            have hvq := hvqq
            have T5 := T2
            clear J5q O5q hvqq T2
            generalize w1 = w5 at *
            go_wp2
            go_loopw [4] (fun out wr => ∃ (l : List Bev) (q2 : Plt), Hid (plV q2 = true) ∧ Hid (l ++ enL q2 = l0 ++ enL q ∧ enP q2 = enP q) ∧ Hid (wr.ownsRow w.heap.size 35 2 out (l).length (bevs (l))) ∧ Hid (wr.heap[w.heap.size]? = some (.cells #[.int .i64 q2.d, .int .i64 q2.s, .int .i64 q2.i, .int .i64 q2.w, .bool q2.l, .int .i64 q2.g] 25 (0, 0))) ∧ Hid (Below w.heap.size w wr)) (fun out _ => 8 - lenE out)
            case atStart => exact ⟨l0, q, hvq, Lib.hid ⟨rfl, rfl⟩, O5, J5, T5⟩
            case round =>
              obtain ⟨l, q2, hv, HE, O7, J7, T7⟩ := hrel
              obtain ⟨va, vc, hvs⟩ := (Rs.of_own O7.out).shape
              subst hvs
              have hll := qg_fit HE.out hl0
              have hbs := T7.out.size
              have EL := Lib.hid (fun W => l14Entering_c q2 W hv.out)
              obtain ⟨c0, c1, c2, c3, c4, c5⟩ := blk_cell6 J7.out
              go_wp2_with fail
              refine (EL.out _).mono ?_
              rintro x w7b ⟨rfl, t⟩
              have J7b := Lib.hid (blk_keep J7.out t (blk_lt J7.out))
              have O7b := Lib.hid (owns_below O7.out t)
              have T7b := Lib.hid (T7.out.trans (t.mono T7.out.size))
              clear t c0 c1 c2 c3 c4 c5
              by_cases he : 0 < entP q2
              · have HP := Lib.hid (enL_pos hv.out he)
                have HSV := Lib.hid (enS_ok hv.out he)
                have E2 := Lib.hid (fun W => specStepE_c q2 W hv.out he)
                have HE2 : Hid ((l ++ [⟨kEnter, entP q2⟩]) ++ enL (enS q2) = l0 ++ enL q ∧ enP (enS q2) = enP q) := Lib.hid (by have h1 := HE.out; rw [HP.out.1, HP.out.2] at h1; exact ⟨by rw [← h1.1]; simp, h1.2⟩)
                clear HP HE
                generalize enS q2 = S at *
                generalize entP q2 = m at *
                obtain ⟨c0, c1, c2, c3, c4, c5⟩ := blk_cell6 J7b.out
                go_wp2_with fail
                refine (EL.out _).mono ?_
                rintro x w7c ⟨rfl, t⟩
                have J7c := Lib.hid (blk_keep J7b.out t (blk_lt J7b.out))
                have O7c := Lib.hid (owns_below O7b.out t)
                have T7c := Lib.hid (T7b.out.trans (t.mono T7b.out.size))
                clear t c0 c1 c2 c3 c4 c5
                have J8 := Lib.hid (blk_stay (o' := .cells #[.string kEnter, .int .i64 m] 35) J7c.out)
                have O8 := Lib.hid (O7c.out.alloc (.cells #[.string kEnter, .int .i64 m] 35))
                have T8 := Lib.hid (T7c.out.alloc T7c.out.size (.cells #[.string kEnter, .int .i64 m] 35))
                have N8 := Lib.hid (heap_alloc_new w7c (.cells #[.string kEnter, .int .i64 m] 35))
                have hn8 : Hid ((Value.slice va l.length vc).ownBlock ≠ some w7c.heap.size) := Lib.hid (fun e => by have := (O7c.out.lt _ e).2; omega)
                go_upto_region 9 with fail
                generalize w7c.alloc (.cells #[.string kEnter, .int .i64 m] 35) = w8 at *
                obtain ⟨P, hP⟩ : ∃ P, P = w7c.heap.size := ⟨_, rfl⟩
                rw [← hP] at N8 hn8 ⊢
                have hPl := blk_lt N8.out
                clear hP
                obtain ⟨d0, d1⟩ := blk_cell2 N8.out
                have hown := O8.out.alloc (.cells #[.string kEnter, .int .i64 m] 35)
                have hlt5 := fun j hj => (O8.out.lt j hj).1
                have hsz5 := T8.out.size
                go_upto_region 10 with (at_builtin; go_loud (refine wpList_append_any _ rfl _ _ 26 rfl w.heap.size 35 i0 (.agg #[.string ⟨#[]⟩, .int .i64 0]) 2 24 Try.underlying26 hi hy0 hy1 hy2 rfl (by decide) _ _ _ rfl hown (some ⟨w8.heap.size, 0, none⟩) 1 1 [.string kEnter, .int .i64 m] rfl rfl (fun _ => ⟨_, rfl, World.news_of_block (cs := #[.string kEnter, .int .i64 m]) (t := 35) (fr := (0, 0)) (heap_alloc_new w8 _)⟩) (by simp [Value.oneCell']) (by unfold maxLen; omega) (by omega) (by simp; omega) ?_; intro v9 w9 hown' hgrow hob))
                have hg2 : (w8.alloc (.cells #[.string kEnter, .int .i64 m] 35)).grownBy w9 (Value.slice va l.length vc).ownBlock := hgrow
                have J9 := Lib.hid (grow_keep hown hg2 (blk_stay (o' := .cells #[.string kEnter, .int .i64 m] 35) J8.out) (by decide))
                have N9 := Lib.hid (grow_other hg2 (blk_stay (o' := .cells #[.string kEnter, .int .i64 m] 35) N8.out) hn8.out)
                have T9 := Lib.hid ((T8.out.alloc T8.out.size (.cells #[.string kEnter, .int .i64 m] 35)).grown hg2 (by simp; omega) (fun j hj => by have := hlt5 j hj; omega))
                have O9 : Hid (w9.ownsRow w.heap.size 35 2 v9 (l ++ [(⟨kEnter, m⟩ : Bev)]).length (bevs (l ++ [(⟨kEnter, m⟩ : Bev)]))) := Lib.hid (by rw [bevs_snocE, List.length_append]; exact hown')
                clear hown hown' hgrow hg2 hob hlt5
                clear J8 O8 T8 N8 hn8 d0 d1 J7 O7 T7 hbs
                obtain ⟨v9a, v9c, hv9⟩ := (Rs.of_own O9.out).shape
                subst hv9
                obtain ⟨c0, c1, c2, c3, c4, c5⟩ := blk_cell6 J9.out
                obtain ⟨d0, d1⟩ := blk_cell2 N9.out
                go_wp2_with fail
                refine (E2.out _).mono ?_
                rintro x wA ⟨rfl, t⟩
                have JA := Lib.hid (blk_keep J9.out t (blk_lt J9.out))
                have OA := Lib.hid (owns_below O9.out t)
                have TA := Lib.hid (T9.out.trans (t.mono T9.out.size))
                clear t c0 c1 c2 c3 c4 c5 d0 d1
                obtain ⟨n0, n1, n2, n3, n4, n5⟩ := blk_froz6 JA.out
                obtain ⟨o0, o1, o2, o3, o4, o5⟩ := blk_cell6 JA.out
                have JB := Lib.hid (blk_all6 (x0 := .int .i64 S.d) (x1 := .int .i64 S.s) (x2 := .int .i64 S.i) (x3 := .int .i64 S.w) (x4 := .bool S.l) (x5 := .int .i64 S.g) JA.out)
                have OB := Lib.hid (own6 OA.out JA.out (by decide) (.int .i64 S.d) (.int .i64 S.s) (.int .i64 S.i) (.int .i64 S.w) (.bool S.l) (.int .i64 S.g))
                have TB := Lib.hid (below_all6 TA.out (Nat.le_refl _) (.int .i64 S.d) (.int .i64 S.s) (.int .i64 S.i) (.int .i64 S.w) (.bool S.l) (.int .i64 S.g))
                go_wp2
                go_roundw
                case rel => exact ⟨l ++ [⟨kEnter, m⟩], S, HSV, HE2, Lib.hid (by have h := OB.out; rw [List.length_append] at h; rw [List.length_append]; exact h), JB, TB⟩
                case measure => simp [lenE]; omega
              · have HP := Lib.hid (enL_neg he)
                have HLL : Hid (l = qgO p ++ enL (qgS p) ∧ q2 = enP (qgS p)) := Lib.hid (by have h1 := HE.out; rw [HP.out.1, HP.out.2, List.append_nil, HQ.out, HL0.out] at h1; exact h1)
                clear HP HE
                obtain ⟨c0, c1, c2, c3, c4, c5⟩ := blk_cell6 J7b.out
                by_cases hd : q2.d = 1
                · have q3 : (q2.d == 1) = true := by simpa using hd
                  have HF := Lib.hid (qg_two hqv.out HLL.out.1 HLL.out.2 hd)
                  clear hd
                  have hown := O7b.out.alloc (.cells #[.string kShut, .int .i64 0] 35)
                  have hlt5 := fun j hj => (O7b.out.lt j hj).1
                  have hsz5 := T7b.out.size
                  go_upto_region 13 with (at_builtin; go_loud (refine wpList_append_any _ rfl _ _ 26 rfl w.heap.size 35 i0 (.agg #[.string ⟨#[]⟩, .int .i64 0]) 2 24 Try.underlying26 hi hy0 hy1 hy2 rfl (by decide) _ _ _ rfl hown (some ⟨w7b.heap.size, 0, none⟩) 1 1 [.string kShut, .int .i64 0] rfl rfl (fun _ => ⟨_, rfl, World.news_of_block (cs := #[.string kShut, .int .i64 0]) (t := 35) (fr := (0, 0)) (heap_alloc_new w7b _)⟩) (by simp [Value.oneCell']) (by unfold maxLen; omega) (by omega) (by simp; omega) ?_; intro v9 w9 hown' hgrow hob))
                  have hg2 : (w7b.alloc (.cells #[.string kShut, .int .i64 0] 35)).grownBy w9 (Value.slice va l.length vc).ownBlock := hgrow
                  have J9 := Lib.hid (grow_keep hown hg2 (blk_stay (o' := .cells #[.string kShut, .int .i64 0] 35) J7b.out) (by decide))
                  have T9 := Lib.hid ((T7b.out.alloc T7b.out.size (.cells #[.string kShut, .int .i64 0] 35)).grown hg2 (by simp; omega) (fun j hj => by have := hlt5 j hj; omega))
                  have O9 : Hid (w9.ownsRow w.heap.size 35 2 v9 (l ++ [(⟨kShut, 0⟩ : Bev)]).length (bevs (l ++ [(⟨kShut, 0⟩ : Bev)]))) := Lib.hid (by rw [bevs_snocE, List.length_append]; exact hown')
                  clear hown hown' hgrow hg2 hob hlt5
                  have hln : (l ++ [(⟨kShut, 0⟩ : Bev)]).length ≤ 4 := by simp; omega
                  clear c0 c1 c2 c3 c4 c5
                  obtain ⟨wx, hwx⟩ : ∃ wx, wx = w9 := ⟨_, rfl⟩
                  obtain ⟨vx, hvx⟩ : ∃ vx, vx = v9 := ⟨_, rfl⟩
                  rw [← hwx, ← hvx] at O9
                  rw [← hwx] at J9 T9
                  rw [← hwx, ← hvx]
                  clear hwx hvx
                  generalize hl1 : l ++ [(⟨kShut, 0⟩ : Bev)] = l1 at *
                  clear hl1
                  have hown := O9.out.alloc (.cells #[.string kGo, .int .i64 0] 35)
                  have hlt5 := fun j hj => (O9.out.lt j hj).1
                  have hsz5 := T9.out.size
                  go_wp2_with (at_builtin; go_loud (refine wpList_append_any _ rfl _ _ 26 rfl w.heap.size 35 i0 (.agg #[.string ⟨#[]⟩, .int .i64 0]) 2 24 Try.underlying26 hi hy0 hy1 hy2 rfl (by decide) _ _ _ rfl hown (some ⟨wx.heap.size, 0, none⟩) 1 1 [.string kGo, .int .i64 0] rfl rfl (fun _ => ⟨_, rfl, World.news_of_block (cs := #[.string kGo, .int .i64 0]) (t := 35) (fr := (0, 0)) (heap_alloc_new wx _)⟩) (by simp [Value.oneCell']) (by unfold maxLen; omega) (by omega) (by simp; omega) ?_; intro v9 w9 hown' hgrow hob))
                  have hg2 : (wx.alloc (.cells #[.string kGo, .int .i64 0] 35)).grownBy w9 vx.ownBlock := hgrow
                  have TF := Lib.hid ((T9.out.alloc T9.out.size (.cells #[.string kGo, .int .i64 0] 35)).grown hg2 (by simp; omega) (fun j hj => by have := hlt5 j hj; omega))
                  have OF : Hid (w9.ownsRow w.heap.size 35 2 v9 (l1 ++ [(⟨kGo, 0⟩ : Bev)]).length (bevs (l1 ++ [(⟨kGo, 0⟩ : Bev)]))) := Lib.hid (by rw [bevs_snocE, List.length_append]; exact hown')
                  clear hown hown' hgrow hg2 hob hlt5
                  go_ret2
                  exact ⟨_, rfl, by rw [← HF.out]; exact OF.out, TF.out⟩
                · have q3 : (q2.d == 1) = false := by simpa using hd
                  have HF := Lib.hid (qg_one hqv.out HLL.out.1 HLL.out.2 hd)
                  clear hd
                  have hown := O7b.out.alloc (.cells #[.string kGo, .int .i64 0] 35)
                  have hlt5 := fun j hj => (O7b.out.lt j hj).1
                  have hsz5 := T7b.out.size
                  go_wp2_with (at_builtin; go_loud (refine wpList_append_any _ rfl _ _ 26 rfl w.heap.size 35 i0 (.agg #[.string ⟨#[]⟩, .int .i64 0]) 2 24 Try.underlying26 hi hy0 hy1 hy2 rfl (by decide) _ _ _ rfl hown (some ⟨w7b.heap.size, 0, none⟩) 1 1 [.string kGo, .int .i64 0] rfl rfl (fun _ => ⟨_, rfl, World.news_of_block (cs := #[.string kGo, .int .i64 0]) (t := 35) (fr := (0, 0)) (heap_alloc_new w7b _)⟩) (by simp [Value.oneCell']) (by unfold maxLen; omega) (by omega) (by simp; omega) ?_; intro v9 w9 hown' hgrow hob))
                  have hg2 : (w7b.alloc (.cells #[.string kGo, .int .i64 0] 35)).grownBy w9 (Value.slice va l.length vc).ownBlock := hgrow
                  have J9 := Lib.hid (grow_keep hown hg2 (blk_stay (o' := .cells #[.string kGo, .int .i64 0] 35) J7b.out) (by decide))
                  have T9 := Lib.hid ((T7b.out.alloc T7b.out.size (.cells #[.string kGo, .int .i64 0] 35)).grown hg2 (by simp; omega) (fun j hj => by have := hlt5 j hj; omega))
                  have O9 : Hid (w9.ownsRow w.heap.size 35 2 v9 (l ++ [(⟨kGo, 0⟩ : Bev)]).length (bevs (l ++ [(⟨kGo, 0⟩ : Bev)]))) := Lib.hid (by rw [bevs_snocE, List.length_append]; exact hown')
                  clear hown hown' hgrow hg2 hob hlt5
                  go_ret2
                  exact ⟨_, rfl, by rw [← HF.out]; exact O9.out, T9.out⟩
end Go.Proofs.Ytinlcbljpclccaa
