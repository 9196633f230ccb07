/- The quickest events: the program's. Condition: sizes. -/
import Derived.Test.YtinlcbljpclccaaBpD
import Derived.Test.YtinlcbljpclccaaBpE
import Derived.Deep.DeepCutAuto
import Derived.Deep.AppendLies
namespace Go.Proofs.Ytinlcbljpclccaa
open Go.RowKit
set_option linter.unusedVariables false
theorem grown_all6 (w : World) (b : Nat) (x0 x1 x2 x3 x4 x5 : Value) : w.grownBy ((((((w.setCell ⟨b, 0, none⟩ x0).setCell ⟨b, 1, none⟩ x1).setCell ⟨b, 2, none⟩ x2).setCell ⟨b, 3, none⟩ x3).setCell ⟨b, 4, none⟩ x4).setCell ⟨b, 5, none⟩ x5) (some b) := ((((((grown_put w ⟨b, 0, none⟩ x0).trans (grown_put _ ⟨b, 1, none⟩ x1)).trans (grown_put _ ⟨b, 2, none⟩ x2)).trans (grown_put _ ⟨b, 3, none⟩ x3)).trans (grown_put _ ⟨b, 4, none⟩ x4)).trans (grown_put _ ⟨b, 5, none⟩ x5))
theorem own6 {w : World} {B e size n b : Nat} {v : Value} {xs : List Value} {cs : Array Value} {t : TypeId} {fr : Nat × Nat} (h : w.ownsRow B e size v n xs) (hb : w.heap[b]? = some (.cells cs t fr)) (ht : t ≠ e) (x0 x1 x2 x3 x4 x5 : Value) : ((((((w.setCell ⟨b, 0, none⟩ x0).setCell ⟨b, 1, none⟩ x1).setCell ⟨b, 2, none⟩ x2).setCell ⟨b, 3, none⟩ x3).setCell ⟨b, 4, none⟩ x4).setCell ⟨b, 5, none⟩ x5).ownsRow B e size v n xs := own_by h (grown_all6 _ _ _ _ _ _ _ _) (own_ne h hb ht)
def lenE : Value → Nat
  | .slice _ n _ => n
  | _ => 0
theorem bevs_snocE (l : List Bev) (x : Bev) : bevs (l ++ [x]) = bevs l ++ [.string x.k, .int .i64 x.c] := by rw [bevs_append, bevs_one]
theorem qg_no {p : Plt} (h : qgV p = false) : qgL p = [] := by simp [qgL, h]
theorem qg_two {p q : Plt} {l : List Bev} (h : qgV p = true) (hl : l = qgO p ++ enL (qgS p)) (hq : q = enP (qgS p)) (hd : q.d = 1) : l ++ [⟨kShut, 0⟩] ++ [⟨kGo, 0⟩] = qgL p := by
  subst hq
  rw [hl, qgL, if_pos h, qgX, qgE, if_pos hd]; simp
theorem qg_one {p q : Plt} {l : List Bev} (h : qgV p = true) (hl : l = qgO p ++ enL (qgS p)) (hq : q = enP (qgS p)) (hd : q.d ≠ 1) : l ++ [⟨kGo, 0⟩] = qgL p := by
  subst hq
  rw [hl, qgL, if_pos h, qgX, qgE, if_neg hd]; simp
theorem qg_open {p : Plt} (h : opB p = true) : qgO p = [⟨kOpen, 0⟩] ∧ qgS p = opP p := by simp [qgO, qgS, h]
theorem qg_shut {p : Plt} (h : opB p = false) : qgO p = [] ∧ qgS p = p := by simp [qgO, qgS, h]
theorem qg_fit {l l0 : List Bev} {q q' : Plt} (h : l ++ enL q' = l0 ++ enL q ∧ enP q' = enP q) (h0 : l0.length ≤ 1) : l.length ≤ 3 := by
  have h1 := congrArg List.length h.1
  rw [List.length_append, List.length_append] at h1
  have := enL_len q
  omega
theorem ret_qg {v : Value} {x y : Bool} (k : x = y) : Ending.returned (.tuple #[v, .bool x]) = .returned (.tuple #[v, .bool y]) := by rw [k]
theorem implMostV_c (p : Plt) (w : World) (h : plV p = true) :
    Calls Try.prog 41 #[.agg #[.int .i64 p.d, .int .i64 p.s, .int .i64 p.i, .int .i64 p.w, .bool p.l, .int .i64 p.g]] w fun x w' => x = .returned (.tuple #[.int .i64 (entP p), .bool true]) ∧ Below w.heap.size w w' := by
  have E := implMostEntering_c p w
  rw [show meR p = entP p by simp [meR, h], h] at E
  exact E
theorem implStepE_c (q : Plt) (w : World) (h : plV q = true) (he : 0 < entP q) :
    Calls Try.prog 17 #[.agg #[.int .i64 q.d, .int .i64 q.s, .int .i64 q.i, .int .i64 q.w, .bool q.l, .int .i64 q.g], .agg #[.string kEnter, .int .i64 (entP q)]] w fun x w' => x = .returned (.tuple #[.agg #[.int .i64 (enS q).d, .int .i64 (enS q).s, .int .i64 (enS q).i, .int .i64 (enS q).w, .bool (enS q).l, .int .i64 (enS q).g], .bool true]) ∧ Below w.heap.size w w' := by
  have E := implStepV_c q ⟨kEnter, entP q⟩ w h
  have e1 := en_ok h he
  rw [stR_yes e1, e1, show stP q (kd (Bev.mk kEnter (entP q)).k) (Bev.mk kEnter (entP q)).c = enS q by show stP q (kd kEnter) _ = _; rw [kd_3]; rfl] at E
  exact E
theorem specStepE_c (q : Plt) (w : World) (h : plV q = true) (he : 0 < entP q) :
    Calls Try.prog 50 #[.agg #[.int .i64 q.d, .int .i64 q.s, .int .i64 q.i, .int .i64 q.w, .bool q.l, .int .i64 q.g], .agg #[.string kEnter, .int .i64 (entP q)]] w fun x w' => x = .returned (.tuple #[.agg #[.int .i64 (enS q).d, .int .i64 (enS q).s, .int .i64 (enS q).i, .int .i64 (enS q).w, .bool (enS q).l, .int .i64 (enS q).g], .bool true]) ∧ Below w.heap.size w w' := by
  have E := l14Step_c q ⟨kEnter, entP q⟩ w h
  have e1 := en_ok h he
  rw [stR_yes e1, e1, show stP q (kd (Bev.mk kEnter (entP q)).k) (Bev.mk kEnter (entP q)).c = enS q by show stP q (kd kEnter) _ = _; rw [kd_3]; rfl] at E
  exact E
set_option maxRecDepth 100000 in
set_option maxHeartbeats 8000000 in
theorem implQuickestGo_c (p : Plt) (w : World) :
    Calls Try.prog 43 #[.agg #[.int .i64 p.d, .int .i64 p.s, .int .i64 p.i, .int .i64 p.w, .bool p.l, .int .i64 p.g]] w fun x w' => ∃ v, x = .returned (.tuple #[v, .bool (qgV p)]) ∧ w'.ownsRow w.heap.size 35 2 v (qgL p).length (bevs (qgL p)) ∧ Below w.heap.size w w' := by
  obtain ⟨i0, hi, hy0, hy1, hy2⟩ := info_parts Try.infoBev
  have J0 := Lib.hid (heap_alloc_new w (.cells #[.int .i64 p.d, .int .i64 p.s, .int .i64 p.i, .int .i64 p.w, .bool p.l, .int .i64 p.g] 25))
  have HT0 := Lib.hid ((Below.refl w.heap.size w).alloc (Nat.le_refl _) (.cells #[.int .i64 p.d, .int .i64 p.s, .int .i64 p.i, .int .i64 p.w, .bool p.l, .int .i64 p.g] 25))
  have hs0 : (w.alloc (.cells #[.int .i64 p.d, .int .i64 p.s, .int .i64 p.i, .int .i64 p.w, .bool p.l, .int .i64 p.g] 25)).heap.size = w.heap.size + 1 := by simp
  cases hb : plV p with
  | false =>
    have E0 := Lib.hid (fun W => by have h := implIsPlatform_c p W; rw [hb] at h; exact h)
    have hqv : qgV p = false := by simp [qgV, hb]
    rw [hqv, qg_no hqv]
    clear hb hqv
    go_enter Try.func43, Try.ntmps43
    go_wp2_with fail
    generalize w.alloc (.cells #[.int .i64 p.d, .int .i64 p.s, .int .i64 p.i, .int .i64 p.w, .bool p.l, .int .i64 p.g] 25) = W0 at *
    refine (E0.out _).mono ?_
    rintro x w1 ⟨rfl, t1⟩
    have T1 := Lib.hid (HT0.out.trans (t1.mono (by omega)))
    have J1 := Lib.hid (blk_keep J0.out t1 (by omega))
    have hz1 : w.heap.size + 1 ≤ w1.heap.size := by have := t1.size; omega
    clear t1 J0 HT0 hs0
    have O2 : Hid ((w1.alloc (.cells #[] 35)).ownsRow w.heap.size 35 2 (.slice (some ⟨w1.heap.size, 0, none⟩) 0 0) 0 []) := Lib.hid (own_mono (World.ownsRow_made w1 (e := 35) (size := 2) #[] 0 (Nat.le_refl _) (by decide) rfl) (by omega))
    have T2 := Lib.hid (T1.out.alloc T1.out.size (.cells #[] 35))
    go_wp2
    go_ret2
    exact ⟨_, rfl, O2.out, T2.out⟩
  | true =>
    have E0 := Lib.hid (fun W => by have h := implIsPlatform_c p W; rw [hb] at h; exact h)
    have Hb := Lib.hid hb
    by_cases hs : p.s = 0
    · have hqv : qgV p = false := by simp [qgV, hs]
      rw [hqv, qg_no hqv]
      have q1 : (p.s == 0) = true := by simpa using hs
      clear hs hqv hb
      go_enter Try.func43, Try.ntmps43
      go_wp2_with fail
      generalize w.alloc (.cells #[.int .i64 p.d, .int .i64 p.s, .int .i64 p.i, .int .i64 p.w, .bool p.l, .int .i64 p.g] 25) = W0 at *
      refine (E0.out _).mono ?_
      rintro x w1 ⟨rfl, t1⟩
      have T1 := Lib.hid (HT0.out.trans (t1.mono (by omega)))
      have J1 := Lib.hid (blk_keep J0.out t1 (by omega))
      have hz1 : w.heap.size + 1 ≤ w1.heap.size := by have := t1.size; omega
      clear t1 J0 HT0 hs0
      have O2 : Hid ((w1.alloc (.cells #[] 35)).ownsRow w.heap.size 35 2 (.slice (some ⟨w1.heap.size, 0, none⟩) 0 0) 0 []) := Lib.hid (own_mono (World.ownsRow_made w1 (e := 35) (size := 2) #[] 0 (Nat.le_refl _) (by decide) rfl) (by omega))
      have T2 := Lib.hid (T1.out.alloc T1.out.size (.cells #[] 35))
      obtain ⟨c0, c1, c2, c3, c4, c5⟩ := blk_cell6 J1.out
      go_wp2
      go_ret2
      exact ⟨_, rfl, O2.out, T2.out⟩
    · by_cases hg : p.g = 9999
      · have hqv : qgV p = false := by simp [qgV, hg]
        rw [hqv, qg_no hqv]
        have q1 : (p.s == 0) = false := by simpa using hs
        have q2 : (p.g == 9999) = true := by simpa using hg
        clear hs hg hqv hb
        go_enter Try.func43, Try.ntmps43
        go_wp2_with fail
        generalize w.alloc (.cells #[.int .i64 p.d, .int .i64 p.s, .int .i64 p.i, .int .i64 p.w, .bool p.l, .int .i64 p.g] 25) = W0 at *
        refine (E0.out _).mono ?_
        rintro x w1 ⟨rfl, t1⟩
        have T1 := Lib.hid (HT0.out.trans (t1.mono (by omega)))
        have J1 := Lib.hid (blk_keep J0.out t1 (by omega))
        have hz1 : w.heap.size + 1 ≤ w1.heap.size := by have := t1.size; omega
        clear t1 J0 HT0 hs0
        have O2 : Hid ((w1.alloc (.cells #[] 35)).ownsRow w.heap.size 35 2 (.slice (some ⟨w1.heap.size, 0, none⟩) 0 0) 0 []) := Lib.hid (own_mono (World.ownsRow_made w1 (e := 35) (size := 2) #[] 0 (Nat.le_refl _) (by decide) rfl) (by omega))
        have T2 := Lib.hid (T1.out.alloc T1.out.size (.cells #[] 35))
        obtain ⟨c0, c1, c2, c3, c4, c5⟩ := blk_cell6 J1.out
        go_wp2
        go_ret2
        exact ⟨_, rfl, O2.out, T2.out⟩
      · have hqv0 : qgV p = true := by simp [qgV, hs, hg, hb]
        have hqv := Lib.hid hqv0
        rw [hqv0]
        clear hqv0
        have q1 : (p.s == 0) = false := by simpa using hs
        have q2 : (p.g == 9999) = false := by simpa using hg
        have HO := Lib.hid (opP_ok hb hs)
        have HC := Lib.hid (op_most hb)
        clear hs hg hb
        have EM0 := Lib.hid (fun W => implMostV_c (opP p) W HO.out)
        have HL1 := Lib.hid (fun h => @qg_open p h)
        have HL2 := Lib.hid (fun h => @qg_shut p h)
        go_enter Try.func43, Try.ntmps43
        go_wp2_with fail
        generalize w.alloc (.cells #[.int .i64 p.d, .int .i64 p.s, .int .i64 p.i, .int .i64 p.w, .bool p.l, .int .i64 p.g] 25) = W0 at *
        refine (E0.out _).mono ?_
        rintro x w1 ⟨rfl, t1⟩
        have T1 := Lib.hid (HT0.out.trans (t1.mono (by omega)))
        have J1 := Lib.hid (blk_keep J0.out t1 (by omega))
        have hz1 : w.heap.size + 1 ≤ w1.heap.size := by have := t1.size; omega
        clear t1 J0 HT0 hs0
        have O2 : Hid ((w1.alloc (.cells #[] 35)).ownsRow w.heap.size 35 2 (.slice (some ⟨w1.heap.size, 0, none⟩) 0 0) 0 []) := Lib.hid (own_mono (World.ownsRow_made w1 (e := 35) (size := 2) #[] 0 (Nat.le_refl _) (by decide) rfl) (by omega))
        have T2 := Lib.hid (T1.out.alloc T1.out.size (.cells #[] 35))
        obtain ⟨c0, c1, c2, c3, c4, c5⟩ := blk_cell6 J1.out
        have hjP1 := blk_lt J1.out
        have J2 := Lib.hid (blk_stay (o' := .cells #[] 35) J1.out)
        have J3 := Lib.hid (blk_stay (o' := .cells #[.int .i64 p.d, .int .i64 p.s, .int .i64 p.i, .int .i64 p.w, .bool p.l, .int .i64 p.g] 25) J2.out)
        have N3 := Lib.hid (heap_alloc_new (w1.alloc (.cells #[] 35)) (.cells #[.int .i64 p.d, .int .i64 p.s, .int .i64 p.i, .int .i64 p.w, .bool p.l, .int .i64 p.g] 25))
        have O3 := Lib.hid (O2.out.alloc (.cells #[.int .i64 p.d, .int .i64 p.s, .int .i64 p.i, .int .i64 p.w, .bool p.l, .int .i64 p.g] 25))
        have T3 := Lib.hid (T2.out.alloc T2.out.size (.cells #[.int .i64 p.d, .int .i64 p.s, .int .i64 p.i, .int .i64 p.w, .bool p.l, .int .i64 p.g] 25))
        have hs3 : (w1.alloc (.cells #[] 35)).heap.size = w1.heap.size + 1 := by simp
        go_upto_region 5 with fail
        generalize (w1.alloc (.cells #[] 35)).alloc (.cells #[.int .i64 p.d, .int .i64 p.s, .int .i64 p.i, .int .i64 p.w, .bool p.l, .int .i64 p.g] 25) = w3 at *
        rw [hs3] at N3
        obtain ⟨Q, hQ⟩ : ∃ Q, Q = w1.heap.size + 1 := ⟨_, rfl⟩
        rw [← hQ] at N3 ⊢
        have hQ1 : w.heap.size ≠ Q := by omega
        have hQ2 : w.heap.size ≤ Q := by omega
        have hQ3 : Hid ((Value.slice (some ⟨w1.heap.size, 0, none⟩) 0 0).ownBlock ≠ some Q) := Lib.hid (by simp [Value.ownBlock]; omega)
        clear hjP1 hQ hs3 hz1 c0 c1 c2 c3 c4 c5 J1 J2 T1 T2 O2
        obtain ⟨n0, n1, n2, n3, n4, n5⟩ := blk_froz6 N3.out
        obtain ⟨o0, o1, o2, o3, o4, o5⟩ := blk_cell6 N3.out
        have N4 : Hid ((w3.setCell ⟨Q, 0, none⟩ (.int .i64 1)).heap[Q]? = some (.cells #[.int .i64 (opP p).d, .int .i64 (opP p).s, .int .i64 (opP p).i, .int .i64 (opP p).w, .bool (opP p).l, .int .i64 (opP p).g] 25 (0, 0))) := Lib.hid (blk_put6_0 (x := .int .i64 1) N3.out)
        have J4 := Lib.hid ((blk_by (w := w3) (i := 0) (v := .int .i64 1) (Ne.symm hQ1)).trans J3.out)
        have O4 := Lib.hid (own_by O3.out (grown_put w3 ⟨Q, 0, none⟩ (.int .i64 1)) hQ3.out)
        have T4 := Lib.hid (T3.out.setCell (p := ⟨Q, 0, none⟩) hQ2 (.int .i64 1))
        go_upto_region 6 with fail
        generalize w3.setCell ⟨Q, 0, none⟩ (.int .i64 1) = w4 at *
        clear n0 n1 n2 n3 n4 n5 o0 o1 o2 o3 o4 o5 N3 J3 O3 T3 hQ3
        generalize hop : opP p = OPP at *
        have HOP := Lib.hid hop
        clear hop
        obtain ⟨d0, d1, d2, d3, d4, d5⟩ := blk_cell6 N4.out
        go_wp2_with fail
        refine (EM0.out _).mono ?_
        rintro x w5 ⟨rfl, t⟩
        have J5 := Lib.hid (blk_keep J4.out t (blk_lt J4.out))
        have O5 := Lib.hid (owns_below O4.out t)
        have T5 := Lib.hid (T4.out.trans (t.mono T4.out.size))
        have N5 := Lib.hid (blk_keep N4.out t (blk_lt N4.out))
        clear t d0 d1 d2 d3 d4 d5 J4 O4 T4 N4
        obtain ⟨c0, c1, c2, c3, c4, c5⟩ := blk_cell6 J5.out
        generalize hmo : entP OPP = mo at *
        clear hmo
        have hQl := blk_lt N5.out
        by_cases hdd : p.d = 0 ∧ 0 < mo
        · have q4 : (p.d == 0) = true := by simpa using hdd.1
          have q5 : 0 < mo := hdd.2
          have hob1 : opB p = true := by rw [HC.out]; simp [hdd.1, hdd.2]
          have HLr := Lib.hid (HL1.out hob1)
          clear hdd hob1 HL1 HL2 HC
          obtain ⟨u1, hu1⟩ : ∃ u1, u1 = Value.slice (some ⟨w1.heap.size, 0, none⟩) 0 0 := ⟨_, rfl⟩
          have O5b := Lib.hid O5.out
          clear hu1 u1
          generalize w1.heap.size = z1 at *
          have hown := O5.out.alloc (.cells #[.string kOpen, .int .i64 0] 35)
          have hlt5 := fun j hj => (O5.out.lt j hj).1
          have hsz5 := T5.out.size
          go_upto_region 9 with (at_builtin; go_loud (refine wpList_append_any _ rfl _ _ 26 rfl w.heap.size 35 i0 (.agg #[.string ⟨#[]⟩, .int .i64 0]) 2 24 Try.underlying26 hi hy0 hy1 hy2 rfl (by decide) _ _ _ rfl hown (some ⟨w5.heap.size, 0, none⟩) 1 1 [.string kOpen, .int .i64 0] rfl rfl (fun _ => ⟨_, rfl, World.news_of_block (cs := #[.string kOpen, .int .i64 0]) (t := 35) (fr := (0, 0)) (heap_alloc_new w5 _)⟩) (by simp [Value.oneCell']) (by unfold maxLen; omega) (by omega) (by simp; omega) ?_; intro v9 w9 hown' hgrow hob))
          have hg2 : (w5.alloc (.cells #[.string kOpen, .int .i64 0] 35)).grownBy w9 (Value.slice (some ⟨z1, 0, none⟩) 0 0).ownBlock := hgrow
          have J9 := Lib.hid (grow_keep hown hg2 (blk_stay (o' := .cells #[.string kOpen, .int .i64 0] 35) J5.out) (by decide))
          have N9 := Lib.hid (grow_keep hown hg2 (blk_stay (o' := .cells #[.string kOpen, .int .i64 0] 35) N5.out) (by decide))
          have T9 := Lib.hid ((T5.out.alloc T5.out.size (.cells #[.string kOpen, .int .i64 0] 35)).grown hg2 (by simp; omega) (fun j hj => by have := hlt5 j hj; omega))
          have O9 : Hid (w9.ownsRow w.heap.size 35 2 v9 ([(⟨kOpen, 0⟩ : Bev)]).length (bevs ([(⟨kOpen, 0⟩ : Bev)]))) := Lib.hid (by exact hown')
          clear hown hown' hgrow hg2 hob hlt5 J5 N5 T5 O5 O5b c0 c1 c2 c3 c4 c5
          obtain ⟨n0, n1, n2, n3, n4, n5⟩ := blk_froz6 J9.out
          obtain ⟨o0, o1, o2, o3, o4, o5⟩ := blk_cell6 J9.out
          obtain ⟨d0, d1, d2, d3, d4, d5⟩ := blk_cell6 N9.out
          have JB := Lib.hid (blk_all6 (x0 := .int .i64 OPP.d) (x1 := .int .i64 OPP.s) (x2 := .int .i64 OPP.i) (x3 := .int .i64 OPP.w) (x4 := .bool OPP.l) (x5 := .int .i64 OPP.g) J9.out)
          have OB := Lib.hid (own6 O9.out J9.out (by decide) (.int .i64 OPP.d) (.int .i64 OPP.s) (.int .i64 OPP.i) (.int .i64 OPP.w) (.bool OPP.l) (.int .i64 OPP.g))
          have TB := Lib.hid (below_all6 T9.out (Nat.le_refl _) (.int .i64 OPP.d) (.int .i64 OPP.s) (.int .i64 OPP.i) (.int .i64 OPP.w) (.bool OPP.l) (.int .i64 OPP.g))
          go_upto_region 10 with fail
          generalize (((((w9.setCell ⟨w.heap.size, 0, none⟩ (.int .i64 OPP.d)).setCell ⟨w.heap.size, 1, none⟩ (.int .i64 OPP.s)).setCell ⟨w.heap.size, 2, none⟩ (.int .i64 OPP.i)).setCell ⟨w.heap.size, 3, none⟩ (.int .i64 OPP.w)).setCell ⟨w.heap.size, 4, none⟩ (.bool OPP.l)).setCell ⟨w.heap.size, 5, none⟩ (.int .i64 OPP.g) = w5b at *
          clear n0 n1 n2 n3 n4 n5 o0 o1 o2 o3 o4 o5 d0 d1 d2 d3 d4 d5 J9 O9 T9 N9 hQl
          obtain ⟨q, hq⟩ : ∃ q, q = OPP := ⟨_, rfl⟩
          rw [← hq] at JB HO
          have HQ : Hid (q = qgS p) := Lib.hid (by rw [hq, HLr.out.2])
          clear hq
          obtain ⟨l0, hl⟩ : ∃ l0, l0 = [(⟨kOpen, 0⟩ : Bev)] := ⟨_, rfl⟩
          rw [← hl] at OB
          have HL0 : Hid (l0 = qgO p) := Lib.hid (by rw [hl, HLr.out.1])
          have hl0 : l0.length ≤ 1 := by rw [hl]; simp
          clear hl
          have hvq := HO
          have J5 := JB
          have O5 := OB
          have T5 := TB
          clear JB OB TB
          have EM := Lib.hid (fun W => implMostV_c q W hvq.out)
          obtain ⟨c0, c1, c2, c3, c4, c5⟩ := blk_cell6 J5.out
          go_wp2_with fail
          refine (EM.out _).mono ?_
          rintro x w6 ⟨rfl, t⟩
          have J6 := Lib.hid (blk_keep J5.out t (blk_lt J5.out))
          have O6 := Lib.hid (owns_below O5.out t)
          have T6 := Lib.hid (T5.out.trans (t.mono T5.out.size))
          clear t c0 c1 c2 c3 c4 c5
          go_wp2
          go_loopw [4, 8] (fun out m wr => ∃ (l : List Bev) (q2 : Plt), m = .int .i64 (entP q2) ∧ Hid (plV q2 = true) ∧ Hid (l ++ enL q2 = l0 ++ enL q ∧ enP q2 = enP q) ∧ Hid (wr.ownsRow w.heap.size 35 2 out (l).length (bevs (l))) ∧ Hid (wr.heap[w.heap.size]? = some (.cells #[.int .i64 q2.d, .int .i64 q2.s, .int .i64 q2.i, .int .i64 q2.w, .bool q2.l, .int .i64 q2.g] 25 (0, 0))) ∧ Hid (Below w.heap.size w wr)) (fun out _ _ => 8 - lenE out)
          case atStart => exact ⟨l0, q, rfl, hvq, Lib.hid ⟨rfl, rfl⟩, O6, J6, T6⟩
          case round =>
            obtain ⟨l, q2, rfl, hv, HE, O7, J7, T7⟩ := hrel
            obtain ⟨va, vc, hvs⟩ := (Rs.of_own O7.out).shape
            subst hvs
            have hll := qg_fit HE.out hl0
            have hbs := T7.out.size
            by_cases he : 0 < entP q2
            · have HP := Lib.hid (enL_pos hv.out he)
              have HSV := Lib.hid (enS_ok hv.out he)
              have E2 := Lib.hid (fun W => implStepE_c q2 W hv.out he)
              have E3 := Lib.hid (fun W => implMostV_c (enS q2) W HSV.out)
              have HE2 : Hid ((l ++ [⟨kEnter, entP q2⟩]) ++ enL (enS q2) = l0 ++ enL q ∧ enP (enS q2) = enP q) := Lib.hid (by have h1 := HE.out; rw [HP.out.1, HP.out.2] at h1; exact ⟨by rw [← h1.1]; simp, h1.2⟩)
              clear HP HE
              generalize enS q2 = S at *
              generalize entP q2 = m at *
              have J8 := Lib.hid (blk_stay (o' := .cells #[.string kEnter, .int .i64 m] 35) J7.out)
              have O8 := Lib.hid (O7.out.alloc (.cells #[.string kEnter, .int .i64 m] 35))
              have T8 := Lib.hid (T7.out.alloc T7.out.size (.cells #[.string kEnter, .int .i64 m] 35))
              have N8 := Lib.hid (heap_alloc_new wr (.cells #[.string kEnter, .int .i64 m] 35))
              have hn8 : Hid ((Value.slice va l.length vc).ownBlock ≠ some wr.heap.size) := Lib.hid (fun e => by have := (O7.out.lt _ e).2; omega)
              go_upto_region 14 with fail
              generalize wr.alloc (.cells #[.string kEnter, .int .i64 m] 35) = w8 at *
              obtain ⟨P, hP⟩ : ∃ P, P = wr.heap.size := ⟨_, rfl⟩
              rw [← hP] at N8 hn8 ⊢
              have hPl := blk_lt N8.out
              clear hP
              obtain ⟨d0, d1⟩ := blk_cell2 N8.out
              have hown := O8.out.alloc (.cells #[.string kEnter, .int .i64 m] 35)
              have hlt5 := fun j hj => (O8.out.lt j hj).1
              have hsz5 := T8.out.size
              go_upto_region 15 with (at_builtin; go_loud (refine wpList_append_any _ rfl _ _ 26 rfl w.heap.size 35 i0 (.agg #[.string ⟨#[]⟩, .int .i64 0]) 2 24 Try.underlying26 hi hy0 hy1 hy2 rfl (by decide) _ _ _ rfl hown (some ⟨w8.heap.size, 0, none⟩) 1 1 [.string kEnter, .int .i64 m] rfl rfl (fun _ => ⟨_, rfl, World.news_of_block (cs := #[.string kEnter, .int .i64 m]) (t := 35) (fr := (0, 0)) (heap_alloc_new w8 _)⟩) (by simp [Value.oneCell']) (by unfold maxLen; omega) (by omega) (by simp; omega) ?_; intro v9 w9 hown' hgrow hob))
              have hg2 : (w8.alloc (.cells #[.string kEnter, .int .i64 m] 35)).grownBy w9 (Value.slice va l.length vc).ownBlock := hgrow
              have J9 := Lib.hid (grow_keep hown hg2 (blk_stay (o' := .cells #[.string kEnter, .int .i64 m] 35) J8.out) (by decide))
              have N9 := Lib.hid (grow_other hg2 (blk_stay (o' := .cells #[.string kEnter, .int .i64 m] 35) N8.out) hn8.out)
              have T9 := Lib.hid ((T8.out.alloc T8.out.size (.cells #[.string kEnter, .int .i64 m] 35)).grown hg2 (by simp; omega) (fun j hj => by have := hlt5 j hj; omega))
              have O9 : Hid (w9.ownsRow w.heap.size 35 2 v9 (l ++ [(⟨kEnter, m⟩ : Bev)]).length (bevs (l ++ [(⟨kEnter, m⟩ : Bev)]))) := Lib.hid (by rw [bevs_snocE, List.length_append]; exact hown')
              clear hown hown' hgrow hg2 hob hlt5
              clear J8 O8 T8 N8 hn8 d0 d1 J7 O7 T7 hbs
              obtain ⟨v9a, v9c, hv9⟩ := (Rs.of_own O9.out).shape
              subst hv9
              obtain ⟨c0, c1, c2, c3, c4, c5⟩ := blk_cell6 J9.out
              obtain ⟨d0, d1⟩ := blk_cell2 N9.out
              go_wp2_with fail
              refine (E2.out _).mono ?_
              rintro x wA ⟨rfl, t⟩
              have JA := Lib.hid (blk_keep J9.out t (blk_lt J9.out))
              have OA := Lib.hid (owns_below O9.out t)
              have TA := Lib.hid (T9.out.trans (t.mono T9.out.size))
              clear t c0 c1 c2 c3 c4 c5 d0 d1
              obtain ⟨n0, n1, n2, n3, n4, n5⟩ := blk_froz6 JA.out
              obtain ⟨o0, o1, o2, o3, o4, o5⟩ := blk_cell6 JA.out
              have JB := Lib.hid (blk_all6 (x0 := .int .i64 S.d) (x1 := .int .i64 S.s) (x2 := .int .i64 S.i) (x3 := .int .i64 S.w) (x4 := .bool S.l) (x5 := .int .i64 S.g) JA.out)
              have OB := Lib.hid (own6 OA.out JA.out (by decide) (.int .i64 S.d) (.int .i64 S.s) (.int .i64 S.i) (.int .i64 S.w) (.bool S.l) (.int .i64 S.g))
              have TB := Lib.hid (below_all6 TA.out (Nat.le_refl _) (.int .i64 S.d) (.int .i64 S.s) (.int .i64 S.i) (.int .i64 S.w) (.bool S.l) (.int .i64 S.g))
              go_upto_region 12 with fail
              generalize (((((wA.setCell ⟨w.heap.size, 0, none⟩ (.int .i64 S.d)).setCell ⟨w.heap.size, 1, none⟩ (.int .i64 S.s)).setCell ⟨w.heap.size, 2, none⟩ (.int .i64 S.i)).setCell ⟨w.heap.size, 3, none⟩ (.int .i64 S.w)).setCell ⟨w.heap.size, 4, none⟩ (.bool S.l)).setCell ⟨w.heap.size, 5, none⟩ (.int .i64 S.g) = wB at *
              clear n0 n1 n2 n3 n4 n5 o0 o1 o2 o3 o4 o5
              obtain ⟨c0, c1, c2, c3, c4, c5⟩ := blk_cell6 JB.out
              go_wp2_with fail
              refine (E3.out _).mono ?_
              rintro x wC ⟨rfl, t⟩
              have JC := Lib.hid (blk_keep JB.out t (blk_lt JB.out))
              have OC := Lib.hid (owns_below OB.out t)
              have TC := Lib.hid (TB.out.trans (t.mono TB.out.size))
              clear t c0 c1 c2 c3 c4 c5
              go_wp2
              go_roundw
              case rel => exact ⟨l ++ [⟨kEnter, m⟩], S, rfl, HSV, HE2, Lib.hid (by have h := OC.out; rw [List.length_append] at h; rw [List.length_append]; exact h), JC, TC⟩
              case measure => simp [lenE]; omega
            · have HP := Lib.hid (enL_neg he)
              have HLL : Hid (l = qgO p ++ enL (qgS p) ∧ q2 = enP (qgS p)) := Lib.hid (by have h1 := HE.out; rw [HP.out.1, HP.out.2, List.append_nil, HQ.out, HL0.out] at h1; exact h1)
              clear HP HE
              obtain ⟨c0, c1, c2, c3, c4, c5⟩ := blk_cell6 J7.out
              have hem : ¬ (0 : Int) < entP q2 := he
              by_cases hd : q2.d = 1
              · have q3 : (q2.d == 1) = true := by simpa using hd
                have HF := Lib.hid (qg_two hqv.out HLL.out.1 HLL.out.2 hd)
                clear hd
                have hown := O7.out.alloc (.cells #[.string kShut, .int .i64 0] 35)
                have hlt5 := fun j hj => (O7.out.lt j hj).1
                have hsz5 := T7.out.size
                go_upto_region 18 with (at_builtin; go_loud (refine wpList_append_any _ rfl _ _ 26 rfl w.heap.size 35 i0 (.agg #[.string ⟨#[]⟩, .int .i64 0]) 2 24 Try.underlying26 hi hy0 hy1 hy2 rfl (by decide) _ _ _ rfl hown (some ⟨wr.heap.size, 0, none⟩) 1 1 [.string kShut, .int .i64 0] rfl rfl (fun _ => ⟨_, rfl, World.news_of_block (cs := #[.string kShut, .int .i64 0]) (t := 35) (fr := (0, 0)) (heap_alloc_new wr _)⟩) (by simp [Value.oneCell']) (by unfold maxLen; omega) (by omega) (by simp; omega) ?_; intro v9 w9 hown' hgrow hob))
                have hg2 : (wr.alloc (.cells #[.string kShut, .int .i64 0] 35)).grownBy w9 (Value.slice va l.length vc).ownBlock := hgrow
                have J9 := Lib.hid (grow_keep hown hg2 (blk_stay (o' := .cells #[.string kShut, .int .i64 0] 35) J7.out) (by decide))
                have T9 := Lib.hid ((T7.out.alloc T7.out.size (.cells #[.string kShut, .int .i64 0] 35)).grown hg2 (by simp; omega) (fun j hj => by have := hlt5 j hj; omega))
                have O9 : Hid (w9.ownsRow w.heap.size 35 2 v9 (l ++ [(⟨kShut, 0⟩ : Bev)]).length (bevs (l ++ [(⟨kShut, 0⟩ : Bev)]))) := Lib.hid (by rw [bevs_snocE, List.length_append]; exact hown')
                clear hown hown' hgrow hg2 hob hlt5
                have hln : (l ++ [(⟨kShut, 0⟩ : Bev)]).length ≤ 4 := by simp; omega
                clear c0 c1 c2 c3 c4 c5
                obtain ⟨wx, hwx⟩ : ∃ wx, wx = w9 := ⟨_, rfl⟩
                obtain ⟨vx, hvx⟩ : ∃ vx, vx = v9 := ⟨_, rfl⟩
                rw [← hwx, ← hvx] at O9
                rw [← hwx] at J9 T9
                rw [← hwx, ← hvx]
                clear hwx hvx
                generalize hl1 : l ++ [(⟨kShut, 0⟩ : Bev)] = l1 at *
                clear hl1
                have hown := O9.out.alloc (.cells #[.string kGo, .int .i64 0] 35)
                have hlt5 := fun j hj => (O9.out.lt j hj).1
                have hsz5 := T9.out.size
                go_wp2_with (at_builtin; go_loud (refine wpList_append_any _ rfl _ _ 26 rfl w.heap.size 35 i0 (.agg #[.string ⟨#[]⟩, .int .i64 0]) 2 24 Try.underlying26 hi hy0 hy1 hy2 rfl (by decide) _ _ _ rfl hown (some ⟨wx.heap.size, 0, none⟩) 1 1 [.string kGo, .int .i64 0] rfl rfl (fun _ => ⟨_, rfl, World.news_of_block (cs := #[.string kGo, .int .i64 0]) (t := 35) (fr := (0, 0)) (heap_alloc_new wx _)⟩) (by simp [Value.oneCell']) (by unfold maxLen; omega) (by omega) (by simp; omega) ?_; intro v9 w9 hown' hgrow hob))
                have hg2 : (wx.alloc (.cells #[.string kGo, .int .i64 0] 35)).grownBy w9 vx.ownBlock := hgrow
                have TF := Lib.hid ((T9.out.alloc T9.out.size (.cells #[.string kGo, .int .i64 0] 35)).grown hg2 (by simp; omega) (fun j hj => by have := hlt5 j hj; omega))
                have OF : Hid (w9.ownsRow w.heap.size 35 2 v9 (l1 ++ [(⟨kGo, 0⟩ : Bev)]).length (bevs (l1 ++ [(⟨kGo, 0⟩ : Bev)]))) := Lib.hid (by rw [bevs_snocE, List.length_append]; exact hown')
                clear hown hown' hgrow hg2 hob hlt5
                go_ret2
                exact ⟨_, rfl, by rw [← HF.out]; exact OF.out, TF.out⟩
              · have q3 : (q2.d == 1) = false := by simpa using hd
                have HF := Lib.hid (qg_one hqv.out HLL.out.1 HLL.out.2 hd)
                clear hd
                have hown := O7.out.alloc (.cells #[.string kGo, .int .i64 0] 35)
                have hlt5 := fun j hj => (O7.out.lt j hj).1
                have hsz5 := T7.out.size
                go_wp2_with (at_builtin; go_loud (refine wpList_append_any _ rfl _ _ 26 rfl w.heap.size 35 i0 (.agg #[.string ⟨#[]⟩, .int .i64 0]) 2 24 Try.underlying26 hi hy0 hy1 hy2 rfl (by decide) _ _ _ rfl hown (some ⟨wr.heap.size, 0, none⟩) 1 1 [.string kGo, .int .i64 0] rfl rfl (fun _ => ⟨_, rfl, World.news_of_block (cs := #[.string kGo, .int .i64 0]) (t := 35) (fr := (0, 0)) (heap_alloc_new wr _)⟩) (by simp [Value.oneCell']) (by unfold maxLen; omega) (by omega) (by simp; omega) ?_; intro v9 w9 hown' hgrow hob))
                have hg2 : (wr.alloc (.cells #[.string kGo, .int .i64 0] 35)).grownBy w9 (Value.slice va l.length vc).ownBlock := hgrow
                have J9 := Lib.hid (grow_keep hown hg2 (blk_stay (o' := .cells #[.string kGo, .int .i64 0] 35) J7.out) (by decide))
                have T9 := Lib.hid ((T7.out.alloc T7.out.size (.cells #[.string kGo, .int .i64 0] 35)).grown hg2 (by simp; omega) (fun j hj => by have := hlt5 j hj; omega))
                have O9 : Hid (w9.ownsRow w.heap.size 35 2 v9 (l ++ [(⟨kGo, 0⟩ : Bev)]).length (bevs (l ++ [(⟨kGo, 0⟩ : Bev)]))) := Lib.hid (by rw [bevs_snocE, List.length_append]; exact hown')
                clear hown hown' hgrow hg2 hob hlt5
                go_ret2
                exact ⟨_, rfl, by rw [← HF.out]; exact O9.out, T9.out⟩
        · have hob1 : opB p = false := by
            rw [HC.out, Bool.and_eq_false_iff]
            by_cases h1 : p.d = 0
            · right; have : ¬ 0 < mo := fun h => hdd ⟨h1, h⟩
              simpa using this
            · left; simpa using h1
          have HLr := Lib.hid (HL2.out hob1)
          have hguard : (p.d == 0) = false ∨ ((p.d == 0) = true ∧ ¬ 0 < mo) := by
            by_cases h1 : p.d = 0
            · right; exact ⟨by simpa using h1, fun h => hdd ⟨h1, h⟩⟩
            · left; simpa using h1
          clear hdd hob1 HL1 HL2 HC
          have hvq := Hb
          obtain ⟨q, hq⟩ : ∃ q, q = p := ⟨_, rfl⟩
          have HQ : Hid (q = qgS p) := Lib.hid (by rw [hq, HLr.out.2])
          obtain ⟨l0, hl⟩ : ∃ l0, l0 = ([] : List Bev) := ⟨_, rfl⟩
          have HL0 : Hid (l0 = qgO p) := Lib.hid (by rw [hl, HLr.out.1])
          have hl0 : l0.length ≤ 1 := by rw [hl]; simp
          have J5q : Hid (w5.heap[w.heap.size]? = some (.cells #[.int .i64 q.d, .int .i64 q.s, .int .i64 q.i, .int .i64 q.w, .bool q.l, .int .i64 q.g] 25 (0, 0))) := Lib.hid (by rw [hq]; exact J5.out)
          have hvqq : Hid (plV q = true) := Lib.hid (by rw [hq]; exact hvq.out)
          have O5q : Hid (w5.ownsRow w.heap.size 35 2 (.slice (some ⟨w1.heap.size, 0, none⟩) 0 0) l0.length (bevs l0)) := Lib.hid (by rw [hl]; exact O5.out)
          clear hl hq hvq O5
          rcases hguard with q4 | ⟨q4, q5⟩
          all_goals
            go_upto_region 10 with fail
            clear c0 c1 c2 c3 c4 c5 J5 q4
            have J5 := J5q
            have O5 := O5q
            have hvq := hvqq
            clear J5q O5q hvqq N5 hQl
            have EM := Lib.hid (fun W => implMostV_c q W hvq.out)
            obtain ⟨c0, c1, c2, c3, c4, c5⟩ := blk_cell6 J5.out
            go_wp2_with fail
            refine (EM.out _).mono ?_
            rintro x w6 ⟨rfl, t⟩
            have J6 := Lib.hid (blk_keep J5.out t (blk_lt J5.out))
            have O6 := Lib.hid (owns_below O5.out t)
            have T6 := Lib.hid (T5.out.trans (t.mono T5.out.size))
            clear t c0 c1 c2 c3 c4 c5
            go_wp2
            go_loopw [4, 8] (fun out m wr => ∃ (l : List Bev) (q2 : Plt), m = .int .i64 (entP q2) ∧ Hid (plV q2 = true) ∧ Hid (l ++ enL q2 = l0 ++ enL q ∧ enP q2 = enP q) ∧ Hid (wr.ownsRow w.heap.size 35 2 out (l).length (bevs (l))) ∧ Hid (wr.heap[w.heap.size]? = some (.cells #[.int .i64 q2.d, .int .i64 q2.s, .int .i64 q2.i, .int .i64 q2.w, .bool q2.l, .int .i64 q2.g] 25 (0, 0))) ∧ Hid (Below w.heap.size w wr)) (fun out _ _ => 8 - lenE out)
            case atStart => exact ⟨l0, q, rfl, hvq, Lib.hid ⟨rfl, rfl⟩, O6, J6, T6⟩
            case round =>
              obtain ⟨l, q2, rfl, hv, HE, O7, J7, T7⟩ := hrel
              obtain ⟨va, vc, hvs⟩ := (Rs.of_own O7.out).shape
              subst hvs
              have hll := qg_fit HE.out hl0
              have hbs := T7.out.size
              by_cases he : 0 < entP q2
              · have HP := Lib.hid (enL_pos hv.out he)
                have HSV := Lib.hid (enS_ok hv.out he)
                have E2 := Lib.hid (fun W => implStepE_c q2 W hv.out he)
                have E3 := Lib.hid (fun W => implMostV_c (enS q2) W HSV.out)
                have HE2 : Hid ((l ++ [⟨kEnter, entP q2⟩]) ++ enL (enS q2) = l0 ++ enL q ∧ enP (enS q2) = enP q) := Lib.hid (by have h1 := HE.out; rw [HP.out.1, HP.out.2] at h1; exact ⟨by rw [← h1.1]; simp, h1.2⟩)
                clear HP HE
                generalize enS q2 = S at *
                generalize entP q2 = m at *
                have J8 := Lib.hid (blk_stay (o' := .cells #[.string kEnter, .int .i64 m] 35) J7.out)
                have O8 := Lib.hid (O7.out.alloc (.cells #[.string kEnter, .int .i64 m] 35))
                have T8 := Lib.hid (T7.out.alloc T7.out.size (.cells #[.string kEnter, .int .i64 m] 35))
                have N8 := Lib.hid (heap_alloc_new wr (.cells #[.string kEnter, .int .i64 m] 35))
                have hn8 : Hid ((Value.slice va l.length vc).ownBlock ≠ some wr.heap.size) := Lib.hid (fun e => by have := (O7.out.lt _ e).2; omega)
                go_upto_region 14 with fail
                generalize wr.alloc (.cells #[.string kEnter, .int .i64 m] 35) = w8 at *
                obtain ⟨P, hP⟩ : ∃ P, P = wr.heap.size := ⟨_, rfl⟩
                rw [← hP] at N8 hn8 ⊢
                have hPl := blk_lt N8.out
                clear hP
                obtain ⟨d0, d1⟩ := blk_cell2 N8.out
                have hown := O8.out.alloc (.cells #[.string kEnter, .int .i64 m] 35)
                have hlt5 := fun j hj => (O8.out.lt j hj).1
                have hsz5 := T8.out.size
                go_upto_region 15 with (at_builtin; go_loud (refine wpList_append_any _ rfl _ _ 26 rfl w.heap.size 35 i0 (.agg #[.string ⟨#[]⟩, .int .i64 0]) 2 24 Try.underlying26 hi hy0 hy1 hy2 rfl (by decide) _ _ _ rfl hown (some ⟨w8.heap.size, 0, none⟩) 1 1 [.string kEnter, .int .i64 m] rfl rfl (fun _ => ⟨_, rfl, World.news_of_block (cs := #[.string kEnter, .int .i64 m]) (t := 35) (fr := (0, 0)) (heap_alloc_new w8 _)⟩) (by simp [Value.oneCell']) (by unfold maxLen; omega) (by omega) (by simp; omega) ?_; intro v9 w9 hown' hgrow hob))
                have hg2 : (w8.alloc (.cells #[.string kEnter, .int .i64 m] 35)).grownBy w9 (Value.slice va l.length vc).ownBlock := hgrow
                have J9 := Lib.hid (grow_keep hown hg2 (blk_stay (o' := .cells #[.string kEnter, .int .i64 m] 35) J8.out) (by decide))
                have N9 := Lib.hid (grow_other hg2 (blk_stay (o' := .cells #[.string kEnter, .int .i64 m] 35) N8.out) hn8.out)
                have T9 := Lib.hid ((T8.out.alloc T8.out.size (.cells #[.string kEnter, .int .i64 m] 35)).grown hg2 (by simp; omega) (fun j hj => by have := hlt5 j hj; omega))
                have O9 : Hid (w9.ownsRow w.heap.size 35 2 v9 (l ++ [(⟨kEnter, m⟩ : Bev)]).length (bevs (l ++ [(⟨kEnter, m⟩ : Bev)]))) := Lib.hid (by rw [bevs_snocE, List.length_append]; exact hown')
                clear hown hown' hgrow hg2 hob hlt5
                clear J8 O8 T8 N8 hn8 d0 d1 J7 O7 T7 hbs
                obtain ⟨v9a, v9c, hv9⟩ := (Rs.of_own O9.out).shape
                subst hv9
                obtain ⟨c0, c1, c2, c3, c4, c5⟩ := blk_cell6 J9.out
                obtain ⟨d0, d1⟩ := blk_cell2 N9.out
                go_wp2_with fail
                refine (E2.out _).mono ?_
                rintro x wA ⟨rfl, t⟩
                have JA := Lib.hid (blk_keep J9.out t (blk_lt J9.out))
                have OA := Lib.hid (owns_below O9.out t)
                have TA := Lib.hid (T9.out.trans (t.mono T9.out.size))
                clear t c0 c1 c2 c3 c4 c5 d0 d1
                obtain ⟨n0, n1, n2, n3, n4, n5⟩ := blk_froz6 JA.out
                obtain ⟨o0, o1, o2, o3, o4, o5⟩ := blk_cell6 JA.out
                have JB := Lib.hid (blk_all6 (x0 := .int .i64 S.d) (x1 := .int .i64 S.s) (x2 := .int .i64 S.i) (x3 := .int .i64 S.w) (x4 := .bool S.l) (x5 := .int .i64 S.g) JA.out)
                have OB := Lib.hid (own6 OA.out JA.out (by decide) (.int .i64 S.d) (.int .i64 S.s) (.int .i64 S.i) (.int .i64 S.w) (.bool S.l) (.int .i64 S.g))
                have TB := Lib.hid (below_all6 TA.out (Nat.le_refl _) (.int .i64 S.d) (.int .i64 S.s) (.int .i64 S.i) (.int .i64 S.w) (.bool S.l) (.int .i64 S.g))
                go_upto_region 12 with fail
                generalize (((((wA.setCell ⟨w.heap.size, 0, none⟩ (.int .i64 S.d)).setCell ⟨w.heap.size, 1, none⟩ (.int .i64 S.s)).setCell ⟨w.heap.size, 2, none⟩ (.int .i64 S.i)).setCell ⟨w.heap.size, 3, none⟩ (.int .i64 S.w)).setCell ⟨w.heap.size, 4, none⟩ (.bool S.l)).setCell ⟨w.heap.size, 5, none⟩ (.int .i64 S.g) = wB at *
                clear n0 n1 n2 n3 n4 n5 o0 o1 o2 o3 o4 o5
                obtain ⟨c0, c1, c2, c3, c4, c5⟩ := blk_cell6 JB.out
                go_wp2_with fail
                refine (E3.out _).mono ?_
                rintro x wC ⟨rfl, t⟩
                have JC := Lib.hid (blk_keep JB.out t (blk_lt JB.out))
                have OC := Lib.hid (owns_below OB.out t)
                have TC := Lib.hid (TB.out.trans (t.mono TB.out.size))
                clear t c0 c1 c2 c3 c4 c5
                go_wp2
                go_roundw
                case rel => exact ⟨l ++ [⟨kEnter, m⟩], S, rfl, HSV, HE2, Lib.hid (by have h := OC.out; rw [List.length_append] at h; rw [List.length_append]; exact h), JC, TC⟩
                case measure => simp [lenE]; omega
              · have HP := Lib.hid (enL_neg he)
                have HLL : Hid (l = qgO p ++ enL (qgS p) ∧ q2 = enP (qgS p)) := Lib.hid (by have h1 := HE.out; rw [HP.out.1, HP.out.2, List.append_nil, HQ.out, HL0.out] at h1; exact h1)
                clear HP HE
                obtain ⟨c0, c1, c2, c3, c4, c5⟩ := blk_cell6 J7.out
                have hem : ¬ (0 : Int) < entP q2 := he
                by_cases hd : q2.d = 1
                · have q3 : (q2.d == 1) = true := by simpa using hd
                  have HF := Lib.hid (qg_two hqv.out HLL.out.1 HLL.out.2 hd)
                  clear hd
                  have hown := O7.out.alloc (.cells #[.string kShut, .int .i64 0] 35)
                  have hlt5 := fun j hj => (O7.out.lt j hj).1
                  have hsz5 := T7.out.size
                  go_upto_region 18 with (at_builtin; go_loud (refine wpList_append_any _ rfl _ _ 26 rfl w.heap.size 35 i0 (.agg #[.string ⟨#[]⟩, .int .i64 0]) 2 24 Try.underlying26 hi hy0 hy1 hy2 rfl (by decide) _ _ _ rfl hown (some ⟨wr.heap.size, 0, none⟩) 1 1 [.string kShut, .int .i64 0] rfl rfl (fun _ => ⟨_, rfl, World.news_of_block (cs := #[.string kShut, .int .i64 0]) (t := 35) (fr := (0, 0)) (heap_alloc_new wr _)⟩) (by simp [Value.oneCell']) (by unfold maxLen; omega) (by omega) (by simp; omega) ?_; intro v9 w9 hown' hgrow hob))
                  have hg2 : (wr.alloc (.cells #[.string kShut, .int .i64 0] 35)).grownBy w9 (Value.slice va l.length vc).ownBlock := hgrow
                  have J9 := Lib.hid (grow_keep hown hg2 (blk_stay (o' := .cells #[.string kShut, .int .i64 0] 35) J7.out) (by decide))
                  have T9 := Lib.hid ((T7.out.alloc T7.out.size (.cells #[.string kShut, .int .i64 0] 35)).grown hg2 (by simp; omega) (fun j hj => by have := hlt5 j hj; omega))
                  have O9 : Hid (w9.ownsRow w.heap.size 35 2 v9 (l ++ [(⟨kShut, 0⟩ : Bev)]).length (bevs (l ++ [(⟨kShut, 0⟩ : Bev)]))) := Lib.hid (by rw [bevs_snocE, List.length_append]; exact hown')
                  clear hown hown' hgrow hg2 hob hlt5
                  have hln : (l ++ [(⟨kShut, 0⟩ : Bev)]).length ≤ 4 := by simp; omega
                  clear c0 c1 c2 c3 c4 c5
                  obtain ⟨wx, hwx⟩ : ∃ wx, wx = w9 := ⟨_, rfl⟩
                  obtain ⟨vx, hvx⟩ : ∃ vx, vx = v9 := ⟨_, rfl⟩
                  rw [← hwx, ← hvx] at O9
                  rw [← hwx] at J9 T9
                  rw [← hwx, ← hvx]
                  clear hwx hvx
                  generalize hl1 : l ++ [(⟨kShut, 0⟩ : Bev)] = l1 at *
                  clear hl1
                  have hown := O9.out.alloc (.cells #[.string kGo, .int .i64 0] 35)
                  have hlt5 := fun j hj => (O9.out.lt j hj).1
                  have hsz5 := T9.out.size
                  go_wp2_with (at_builtin; go_loud (refine wpList_append_any _ rfl _ _ 26 rfl w.heap.size 35 i0 (.agg #[.string ⟨#[]⟩, .int .i64 0]) 2 24 Try.underlying26 hi hy0 hy1 hy2 rfl (by decide) _ _ _ rfl hown (some ⟨wx.heap.size, 0, none⟩) 1 1 [.string kGo, .int .i64 0] rfl rfl (fun _ => ⟨_, rfl, World.news_of_block (cs := #[.string kGo, .int .i64 0]) (t := 35) (fr := (0, 0)) (heap_alloc_new wx _)⟩) (by simp [Value.oneCell']) (by unfold maxLen; omega) (by omega) (by simp; omega) ?_; intro v9 w9 hown' hgrow hob))
                  have hg2 : (wx.alloc (.cells #[.string kGo, .int .i64 0] 35)).grownBy w9 vx.ownBlock := hgrow
                  have TF := Lib.hid ((T9.out.alloc T9.out.size (.cells #[.string kGo, .int .i64 0] 35)).grown hg2 (by simp; omega) (fun j hj => by have := hlt5 j hj; omega))
                  have OF : Hid (w9.ownsRow w.heap.size 35 2 v9 (l1 ++ [(⟨kGo, 0⟩ : Bev)]).length (bevs (l1 ++ [(⟨kGo, 0⟩ : Bev)]))) := Lib.hid (by rw [bevs_snocE, List.length_append]; exact hown')
                  clear hown hown' hgrow hg2 hob hlt5
                  go_ret2
                  exact ⟨_, rfl, by rw [← HF.out]; exact OF.out, TF.out⟩
                · have q3 : (q2.d == 1) = false := by simpa using hd
                  have HF := Lib.hid (qg_one hqv.out HLL.out.1 HLL.out.2 hd)
                  clear hd
                  have hown := O7.out.alloc (.cells #[.string kGo, .int .i64 0] 35)
                  have hlt5 := fun j hj => (O7.out.lt j hj).1
                  have hsz5 := T7.out.size
                  go_wp2_with (at_builtin; go_loud (refine wpList_append_any _ rfl _ _ 26 rfl w.heap.size 35 i0 (.agg #[.string ⟨#[]⟩, .int .i64 0]) 2 24 Try.underlying26 hi hy0 hy1 hy2 rfl (by decide) _ _ _ rfl hown (some ⟨wr.heap.size, 0, none⟩) 1 1 [.string kGo, .int .i64 0] rfl rfl (fun _ => ⟨_, rfl, World.news_of_block (cs := #[.string kGo, .int .i64 0]) (t := 35) (fr := (0, 0)) (heap_alloc_new wr _)⟩) (by simp [Value.oneCell']) (by unfold maxLen; omega) (by omega) (by simp; omega) ?_; intro v9 w9 hown' hgrow hob))
                  have hg2 : (wr.alloc (.cells #[.string kGo, .int .i64 0] 35)).grownBy w9 (Value.slice va l.length vc).ownBlock := hgrow
                  have J9 := Lib.hid (grow_keep hown hg2 (blk_stay (o' := .cells #[.string kGo, .int .i64 0] 35) J7.out) (by decide))
                  have T9 := Lib.hid ((T7.out.alloc T7.out.size (.cells #[.string kGo, .int .i64 0] 35)).grown hg2 (by simp; omega) (fun j hj => by have := hlt5 j hj; omega))
                  have O9 : Hid (w9.ownsRow w.heap.size 35 2 v9 (l ++ [(⟨kGo, 0⟩ : Bev)]).length (bevs (l ++ [(⟨kGo, 0⟩ : Bev)]))) := Lib.hid (by rw [bevs_snocE, List.length_append]; exact hown')
                  clear hown hown' hgrow hg2 hob hlt5
                  go_ret2
                  exact ⟨_, rfl, by rw [← HF.out]; exact O9.out, T9.out⟩
end Go.Proofs.Ytinlcbljpclccaa
