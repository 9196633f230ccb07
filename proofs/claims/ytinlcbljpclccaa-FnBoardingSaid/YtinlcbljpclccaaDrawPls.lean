/- The draws of platforms with events. Condition: sizes. -/
import Derived.Test.YtinlcbljpclccaaDrawBevs
import Derived.Test.YtinlcbljpclccaaDrawPlt
import Derived.Test.YtinlcbljpclccaaBoJ
import Derived.Test.YtinlcbljpclccaaBig
import Derived.Deep.DeepCutAuto
namespace Go.Proofs.Ytinlcbljpclccaa
open Go.RowKit
set_option linter.unusedVariables false
theorem own_rs6 {w : World} {B n b : Nat} {v : Value} {xs : List Value} {cs : Array Value} {fr : Nat × Nat} (h : w.ownsRow B 35 2 v n xs) (hb : w.heap[b]? = some (.cells cs 25 fr)) {x0 x1 x2 x3 x4 x5 : Value} : Rs ((((((w.setCell ⟨b, 0, none⟩ x0).setCell ⟨b, 1, none⟩ x1).setCell ⟨b, 2, none⟩ x2).setCell ⟨b, 3, none⟩ x3).setCell ⟨b, 4, none⟩ x4).setCell ⟨b, 5, none⟩ x5) v n xs := Rs.of_own (own6 h hb (by decide) x0 x1 x2 x3 x4 x5)
theorem rs6 {w : World} {n m b g off c : Nat} {xs : List Value} {cs : Array Value} {t : TypeId} {fr : Nat × Nat} (h : Rs w (.slice (some ⟨g, off, none⟩) n c) m xs) (hb : w.heap[b]? = some (.cells cs t fr)) (hne : g ≠ b) {x0 x1 x2 x3 x4 x5 : Value} : Rs ((((((w.setCell ⟨b, 0, none⟩ x0).setCell ⟨b, 1, none⟩ x1).setCell ⟨b, 2, none⟩ x2).setCell ⟨b, 3, none⟩ x3).setCell ⟨b, 4, none⟩ x4).setCell ⟨b, 5, none⟩ x5) (.slice (some ⟨g, off, none⟩) n c) m xs := by
  rcases h with ⟨rfl, h⟩ | ⟨b', off', cap, hv, hlt, hm, hx⟩
  · exact .inl ⟨rfl, h⟩
  · simp only [Value.slice.injEq, Option.some.injEq, Addr.mk.injEq, and_true] at hv
    obtain ⟨⟨rfl, rfl⟩, rfl, rfl⟩ := hv
    refine .inr ⟨g, off, c, rfl, Nat.lt_of_lt_of_le hlt (grown_all6 w b x0 x1 x2 x3 x4 x5).size, hm, fun i u hi => ?_⟩
    exact grown_cell (grown_all6 w b x0 x1 x2 x3 x4 x5) (hx i u hi) (fun e => hne (Option.some.inj e))
theorem rs_news {W : World} {ao : Option Addr} {n c : Nat} {xs : List Value} (h : Rs W (.slice ao n c) n xs) : 0 < n → ∃ ad, ao = some ad ∧ ∀ j u, xs[j]? = some u → W.cell? (ad.add j) = some u := by
  intro h0
  obtain ⟨b, off, cap, hv, hb, hc, hm, hx⟩ := h.pos (by omega)
  simp only [Value.slice.injEq, true_and] at hv
  refine ⟨⟨b, off, none⟩, hv.1, fun j u hj => ?_⟩
  have e : (⟨b, off, none⟩ : Addr).add j = ⟨b, off + j, none⟩ := by
    unfold Addr.add; split
    · rename_i hz; rw [hz]; rfl
    · rfl
  rw [e]; exact hx j u hj
theorem bevs_take {w : World} {b off n cap t : Nat} {l : List Bev} (h : Rs w (.slice (some ⟨b, off, none⟩) n cap) n (bevs l)) (hn : n = l.length) (ht : t ≤ n) : Rs w (.slice (some ⟨b, off, none⟩) t cap) (l.take t).length (bevs (l.take t)) := by
  have hl : (l.take t).length = t := by rw [List.length_take]; omega
  rw [hl]
  by_cases h0 : t = 0
  · subst h0; exact .inl ⟨rfl, _, _, rfl⟩
  · obtain ⟨b', off', c', hv, hb, hc, hm, hx⟩ := h.pos (by omega)
    simp only [Value.slice.injEq, Option.some.injEq, Addr.mk.injEq, and_true, true_and] at hv
    obtain ⟨⟨rfl, rfl⟩, rfl⟩ := hv
    refine .inr ⟨b, off, cap, rfl, hb, ⟨by omega, by omega⟩, fun i u hi => hx i u ?_⟩
    have e : bevs l = bevs (l.take t) ++ bevs (l.drop t) := by rw [← bevs_append, List.take_append_drop]
    rw [e, List.getElem?_append_left (List.getElem?_eq_some_iff.1 hi).1]; exact hi
/-- What drawing a platform and events leaves. -/
def DrPost (w : World) (e : Ending) (w' : World) : Prop := ∃ (x : Plt) (v : Value) (l : List Bev), e = .returned (.tuple #[.agg #[.int .i64 x.d, .int .i64 x.s, .int .i64 x.i, .int .i64 x.w, .bool x.l, .int .i64 x.g], v]) ∧ Rs w' v l.length (bevs l) ∧ l.length ≤ 26 ∧ Below w.heap.size w w'
set_option maxRecDepth 100000 in
set_option maxHeartbeats 4000000 in
theorem DrawRunPlatform_any (a : Option Addr) (len cap : Nat) (w : World) (h : ByteRow w a len) :
    Calls Try.prog 13 #[.slice a len cap] w (DrPost w) := by
  obtain ⟨i0, hi, hy0, hy1, hy2⟩ := info_parts Try.infoBev
  have B1 := (Below.refl w.heap.size w).alloc (Nat.le_refl _) (.cells #[.int .i64 0, .int .i64 0, .int .i64 0, .int .i64 0, .bool false, .int .i64 0] 25)
  have C0 := Lib.hid (cur_at (cap := cap) (h.below B1) 72 (n := w.heap.size + 1) (by first | rfl | simp))
  have T0 := Lib.hid (B1.alloc B1.size (.cells #[.slice a len cap, .int .i64 0, .int .u64 0] 72))
  have R0 := Lib.hid (blk_stay (o' := .cells #[.slice a len cap, .int .i64 0, .int .u64 0] 72) (heap_alloc_new w (.cells #[.int .i64 0, .int .i64 0, .int .i64 0, .int .i64 0, .bool false, .int .i64 0] 25)))
  have hs0 : ((w.alloc (.cells #[.int .i64 0, .int .i64 0, .int .i64 0, .int .i64 0, .bool false, .int .i64 0] 25)).alloc (.cells #[.slice a len cap, .int .i64 0, .int .u64 0] 72)).heap.size = w.heap.size + 2 := by simp
  clear h B1
  go_enter Try.func13, Try.ntmps13
  go_upto_region 2 with fail
  generalize (w.alloc (.cells #[.int .i64 0, .int .i64 0, .int .i64 0, .int .i64 0, .bool false, .int .i64 0] 25)).alloc (.cells #[.slice a len cap, .int .i64 0, .int .u64 0] 72) = w0 at *
  obtain ⟨b, hb⟩ : ∃ b, b = w.heap.size + 1 := ⟨_, rfl⟩
  rw [← hb] at C0 ⊢
  have hbR : w.heap.size ≠ b := by omega
  have hbl : w.heap.size ≤ b := by omega
  have hb0 : b < w0.heap.size := by omega
  clear hb hs0
  go_wp2_with fail
  refine (platform_any b b 0 w0 C0.out (by omega)).mono ?_
  rintro e w1 ⟨x, rfl, hc, hg⟩
  have T1 := Lib.hid (T0.out.trans (grown_below hg (by have := T0.out.size; omega) (fun j hj => by cases hj; omega)))
  have R1 := Lib.hid (grow_other hg R0.out (fun e => hbR (Option.some.inj e).symm))
  have C1 := Lib.hid hc
  have hb1 : b < w1.heap.size := by have := hg.size; omega
  clear hc hg R0 C0 T0
  unfold Plt.agg
  have N2 := Lib.hid (heap_alloc_new w1 (.cells #[.int .i64 x.d, .int .i64 x.s, .int .i64 x.i, .int .i64 x.w, .bool x.l, .int .i64 x.g] 25))
  have R2 := Lib.hid (blk_stay (o' := .cells #[.int .i64 x.d, .int .i64 x.s, .int .i64 x.i, .int .i64 x.w, .bool x.l, .int .i64 x.g] 25) R1.out)
  have C2 := Lib.hid (C1.out.alloc (.cells #[.int .i64 x.d, .int .i64 x.s, .int .i64 x.i, .int .i64 x.w, .bool x.l, .int .i64 x.g] 25))
  have T2 := Lib.hid (T1.out.alloc T1.out.size (.cells #[.int .i64 x.d, .int .i64 x.s, .int .i64 x.i, .int .i64 x.w, .bool x.l, .int .i64 x.g] 25))
  have hn2 : (w1.alloc (.cells #[.int .i64 x.d, .int .i64 x.s, .int .i64 x.i, .int .i64 x.w, .bool x.l, .int .i64 x.g] 25)).heap.size = w1.heap.size + 1 := by simp
  go_upto_region 3 with fail
  generalize w1.alloc (.cells #[.int .i64 x.d, .int .i64 x.s, .int .i64 x.i, .int .i64 x.w, .bool x.l, .int .i64 x.g] 25) = w2 at *
  obtain ⟨P, hP⟩ : ∃ P, P = w1.heap.size := ⟨_, rfl⟩
  rw [← hP] at N2 hn2 ⊢
  have hPb : P ≠ b := by omega
  have hb2 : b < w2.heap.size := by omega
  clear hP hn2 R1 C1 T1 hb1
  go_wp2_with fail
  refine (boardEvents_any b b _ w2 C2.out (by omega)).mono ?_
  rintro e w3 ⟨ve, l, rfl, S, hl⟩
  have hg := S.gr
  have O3 := Lib.hid S.own
  have C3 := Lib.hid S.cur
  have T3 := Lib.hid (T2.out.trans (grown_below hg (by have := T2.out.size; omega) (fun j hj => by cases hj; omega)))
  have R3 := Lib.hid (grow_other hg R2.out (fun e => hbR (Option.some.inj e).symm))
  have N3 := Lib.hid (grow_other hg N2.out (fun e => hPb (Option.some.inj e).symm))
  have hob : ve.ownBlock = none ∨ ve.ownBlock ≠ some b := S.ne
  have hb3 : b < w3.heap.size := by have := hg.size; omega
  clear hg S R2 N2 C2 T2
  go_wp2_with fail
  refine (one_any b b _ 2 w3 C3.out (by omega) (by omega) (by omega)).mono ?_
  rintro e w4 ⟨qb, rfl, hc, hg⟩
  have T4 := Lib.hid (T3.out.trans (grown_below hg (by have := T3.out.size; omega) (fun j hj => by cases hj; omega)))
  have R4 := Lib.hid (grow_other hg R3.out (fun e => hbR (Option.some.inj e).symm))
  have N4 := Lib.hid (grow_other hg N3.out (fun e => hPb (Option.some.inj e).symm))
  have O4 := Lib.hid (O3.out.kept hg hob)
  clear hc hg R3 N3 C3 T3 O3 hob hb2 hb3 hbl hbR hPb
  obtain ⟨ae, ce, hve⟩ := (Rs.of_own O4.out).shape
  subst hve
  cases qb with
  | false =>
    have hlR := blk_lt R4.out
    have hlN := blk_lt N4.out
    obtain ⟨c0, c1, c2, c3, c4, c5⟩ := blk_cell6 N4.out
    obtain ⟨d0, d1, d2, d3, d4, d5⟩ := blk_cell6 R4.out
    obtain ⟨m0, m1, m2, m3, m4, m5⟩ := blk_froz6 R4.out
    obtain ⟨z0, z1, z2, z3, z4, z5⟩ := blk_cell6 (blk_all6 (x0 := .int .i64 x.d) (x1 := .int .i64 x.s) (x2 := .int .i64 x.i) (x3 := .int .i64 x.w) (x4 := .bool x.l) (x5 := .int .i64 x.g) R4.out)
    have Z0 := Lib.hid z0
    have Z1 := Lib.hid z1
    have Z2 := Lib.hid z2
    have Z3 := Lib.hid z3
    have Z4 := Lib.hid z4
    have Z5 := Lib.hid z5
    clear z0 z1 z2 z3 z4 z5
    have TF := Lib.hid (below_all6 T4.out (Nat.le_refl _) (.int .i64 x.d) (.int .i64 x.s) (.int .i64 x.i) (.int .i64 x.w) (.bool x.l) (.int .i64 x.g))
    go_wp2
    refine bodyPost_ret (v := .tuple #[.agg #[.int .i64 x.d, .int .i64 x.s, .int .i64 x.i, .int .i64 x.w, .bool x.l, .int .i64 x.g], .slice ae l.length ce]) (by simp [results, Try.results13, go_sem, Z0.out, Z1.out, Z2.out, Z3.out, Z4.out, Z5.out]) rfl ⟨x, _, l, rfl, ?_, by omega, TF.out⟩
    exact own_rs6 O4.out R4.out
  | true =>
    obtain ⟨c0, c1, c2, c3, c4, c5⟩ := blk_cell6 N4.out
    have hlq := qgL_len x
    have EQ := Lib.hid (fun W => specQuickestGo_c x W)
    generalize qgL x = lq at *
    generalize qgV x = qv at *
    go_wp2_with fail
    refine (EQ.out _).mono ?_
    rintro e w5 ⟨vq, rfl, oq, t⟩
    have R5 := Lib.hid (blk_kept R4.out t)
    have N5 := Lib.hid (blk_kept N4.out t)
    have O5 := Lib.hid (owns_below O4.out t)
    have T5 := Lib.hid (T4.out.trans (t.mono T4.out.size))
    have OQ := Lib.hid oq
    have hs5 := t.size
    clear t oq c0 c1 c2 c3 c4 c5 R4 N4 O4
    cases qv with
    | false =>
      have hlR := blk_lt R5.out
      have hlN := blk_lt N5.out
      obtain ⟨c0, c1, c2, c3, c4, c5⟩ := blk_cell6 N5.out
      obtain ⟨d0, d1, d2, d3, d4, d5⟩ := blk_cell6 R5.out
      obtain ⟨m0, m1, m2, m3, m4, m5⟩ := blk_froz6 R5.out
      obtain ⟨z0, z1, z2, z3, z4, z5⟩ := blk_cell6 (blk_all6 (x0 := .int .i64 x.d) (x1 := .int .i64 x.s) (x2 := .int .i64 x.i) (x3 := .int .i64 x.w) (x4 := .bool x.l) (x5 := .int .i64 x.g) R5.out)
      have Z0 := Lib.hid z0
      have Z1 := Lib.hid z1
      have Z2 := Lib.hid z2
      have Z3 := Lib.hid z3
      have Z4 := Lib.hid z4
      have Z5 := Lib.hid z5
      clear z0 z1 z2 z3 z4 z5
      have TF := Lib.hid (below_all6 T5.out (Nat.le_refl _) (.int .i64 x.d) (.int .i64 x.s) (.int .i64 x.i) (.int .i64 x.w) (.bool x.l) (.int .i64 x.g))
      go_wp2
      refine bodyPost_ret (v := .tuple #[.agg #[.int .i64 x.d, .int .i64 x.s, .int .i64 x.i, .int .i64 x.w, .bool x.l, .int .i64 x.g], .slice ae l.length ce]) (by simp [results, Try.results13, go_sem, Z0.out, Z1.out, Z2.out, Z3.out, Z4.out, Z5.out]) rfl ⟨x, _, l, rfl, ?_, by omega, TF.out⟩
      exact own_rs6 O5.out R5.out
    | true =>
      have hown := OQ.out
      have hT4 := T4.out.size
      have hlt5 := fun j hj => (OQ.out.lt j hj).1
      have hws5 := T5.out.size
      go_upto_region 8 with (at_builtin; go_loud (refine wpList_append_any _ rfl _ _ 26 rfl w4.heap.size 35 i0 (.agg #[.string ⟨#[]⟩, .int .i64 0]) 2 24 Try.underlying26 hi hy0 hy1 hy2 rfl (by decide) _ _ _ rfl hown ae l.length ce (bevs l) rfl (bevs_len l) (rs_news (Rs.of_own O5.out)) (bevs_one_cell l) (by unfold maxLen; omega) (by omega) (by omega) ?_; intro v9 w9 hown' hgrow hob))
      have R9 := Lib.hid (grow_keep hown hgrow R5.out (by decide))
      have N9 := Lib.hid (grow_keep hown hgrow N5.out (by decide))
      have T9 := Lib.hid (T5.out.grown hgrow (by omega) (fun j hj => by have := hlt5 j hj; omega))
      have O9 : Hid (w9.ownsRow w4.heap.size 35 2 v9 (lq ++ l).length (bevs (lq ++ l))) := Lib.hid (by rw [bevs_append, List.length_append]; exact hown')
      have hll : (lq ++ l).length ≤ 26 := by rw [List.length_append]; omega
      clear hown hown' hgrow hob hlt5 R5 N5 O5 OQ T5
      generalize lq ++ l = LL at *
      obtain ⟨a9, c9, hv9⟩ := (Rs.of_own O9.out).shape
      subst hv9
      by_cases h20 : 20 < LL.length
      · have hg20 : (20 : Int) < (LL.length : Int) := by omega
        obtain ⟨b9, o9, k9, hv9, hb9, hc9, hm9, _⟩ := (Rs.of_own O9.out).pos (by omega)
        simp only [Value.slice.injEq, true_and] at hv9
        obtain ⟨rfl, rfl⟩ := hv9
        have hcap : 20 ≤ c9 := by omega
        have hcapi : (20 : Int) ≤ (c9 : Int) := by omega
        have R9r := Lib.hid (bevs_take (Rs.of_own O9.out) rfl (t := 20) (by omega))
        have htl : (LL.take 20).length = 20 := by rw [List.length_take]; omega
        have hlR := blk_lt R9.out
        have hlN := blk_lt N9.out
        obtain ⟨c0, c1, c2, c3, c4, c5⟩ := blk_cell6 N9.out
        obtain ⟨d0, d1, d2, d3, d4, d5⟩ := blk_cell6 R9.out
        obtain ⟨m0, m1, m2, m3, m4, m5⟩ := blk_froz6 R9.out
        obtain ⟨z0, z1, z2, z3, z4, z5⟩ := blk_cell6 (blk_all6 (x0 := .int .i64 x.d) (x1 := .int .i64 x.s) (x2 := .int .i64 x.i) (x3 := .int .i64 x.w) (x4 := .bool x.l) (x5 := .int .i64 x.g) R9.out)
        have Z0 := Lib.hid z0
        have Z1 := Lib.hid z1
        have Z2 := Lib.hid z2
        have Z3 := Lib.hid z3
        have Z4 := Lib.hid z4
        have Z5 := Lib.hid z5
        clear z0 z1 z2 z3 z4 z5
        have TF := Lib.hid (below_all6 T9.out (Nat.le_refl _) (.int .i64 x.d) (.int .i64 x.s) (.int .i64 x.i) (.int .i64 x.w) (.bool x.l) (.int .i64 x.g))
        go_wp2
        refine bodyPost_ret (v := .tuple #[.agg #[.int .i64 x.d, .int .i64 x.s, .int .i64 x.i, .int .i64 x.w, .bool x.l, .int .i64 x.g], .slice (some ⟨b9, o9, none⟩) 20 c9]) (by simp [results, Try.results13, go_sem, Z0.out, Z1.out, Z2.out, Z3.out, Z4.out, Z5.out]) rfl ⟨x, _, LL.take 20, rfl, ?_, by omega, TF.out⟩
        exact rs6 R9r.out R9.out (fun e => own_ne O9.out R9.out (by decide) (by rw [← e]; rfl))
      · have hg20 : ¬ (20 : Int) < (LL.length : Int) := by omega
        have hlR := blk_lt R9.out
        have hlN := blk_lt N9.out
        obtain ⟨c0, c1, c2, c3, c4, c5⟩ := blk_cell6 N9.out
        obtain ⟨d0, d1, d2, d3, d4, d5⟩ := blk_cell6 R9.out
        obtain ⟨m0, m1, m2, m3, m4, m5⟩ := blk_froz6 R9.out
        obtain ⟨z0, z1, z2, z3, z4, z5⟩ := blk_cell6 (blk_all6 (x0 := .int .i64 x.d) (x1 := .int .i64 x.s) (x2 := .int .i64 x.i) (x3 := .int .i64 x.w) (x4 := .bool x.l) (x5 := .int .i64 x.g) R9.out)
        have Z0 := Lib.hid z0
        have Z1 := Lib.hid z1
        have Z2 := Lib.hid z2
        have Z3 := Lib.hid z3
        have Z4 := Lib.hid z4
        have Z5 := Lib.hid z5
        clear z0 z1 z2 z3 z4 z5
        have TF := Lib.hid (below_all6 T9.out (Nat.le_refl _) (.int .i64 x.d) (.int .i64 x.s) (.int .i64 x.i) (.int .i64 x.w) (.bool x.l) (.int .i64 x.g))
        go_wp2
        refine bodyPost_ret (v := .tuple #[.agg #[.int .i64 x.d, .int .i64 x.s, .int .i64 x.i, .int .i64 x.w, .bool x.l, .int .i64 x.g], .slice a9 LL.length c9]) (by simp [results, Try.results13, go_sem, Z0.out, Z1.out, Z2.out, Z3.out, Z4.out, Z5.out]) rfl ⟨x, _, LL, rfl, ?_, by omega, TF.out⟩
        exact own_rs6 O9.out R9.out
/-- What drawing a platform and an event leaves. -/
def DsPost (w : World) (e : Ending) (w' : World) : Prop := ∃ (x : Plt) (y : Bev), e = .returned (.tuple #[.agg #[.int .i64 x.d, .int .i64 x.s, .int .i64 x.i, .int .i64 x.w, .bool x.l, .int .i64 x.g], .agg #[.string y.k, .int .i64 y.c]]) ∧ Below w.heap.size w w'
set_option maxRecDepth 100000 in
set_option maxHeartbeats 4000000 in
theorem DrawStepPlatform_any (a : Option Addr) (len cap : Nat) (w : World) (h : ByteRow w a len) :
    Calls Try.prog 18 #[.slice a len cap] w (DsPost w) := by
  have B1 := ((Below.refl w.heap.size w).alloc (Nat.le_refl _) (.cells #[.int .i64 0, .int .i64 0, .int .i64 0, .int .i64 0, .bool false, .int .i64 0] 25)).alloc (by simp) (.cells #[.string ⟨#[]⟩, .int .i64 0] 35)
  have C0 := Lib.hid (cur_at (cap := cap) (h.below B1) 72 (n := w.heap.size + 2) (by first | rfl | simp))
  have T0 := Lib.hid (tri_below w (.cells #[.int .i64 0, .int .i64 0, .int .i64 0, .int .i64 0, .bool false, .int .i64 0] 25) (.cells #[.string ⟨#[]⟩, .int .i64 0] 35) (.cells #[.slice a len cap, .int .i64 0, .int .u64 0] 72))
  have R0 := Lib.hid (tri_1 w (.cells #[.int .i64 0, .int .i64 0, .int .i64 0, .int .i64 0, .bool false, .int .i64 0] 25) (.cells #[.string ⟨#[]⟩, .int .i64 0] 35) (.cells #[.slice a len cap, .int .i64 0, .int .u64 0] 72))
  have S0 := Lib.hid (tri_2 w (.cells #[.int .i64 0, .int .i64 0, .int .i64 0, .int .i64 0, .bool false, .int .i64 0] 25) (.cells #[.string ⟨#[]⟩, .int .i64 0] 35) (.cells #[.slice a len cap, .int .i64 0, .int .u64 0] 72))
  have hs0 : (((w.alloc (.cells #[.int .i64 0, .int .i64 0, .int .i64 0, .int .i64 0, .bool false, .int .i64 0] 25)).alloc (.cells #[.string ⟨#[]⟩, .int .i64 0] 35)).alloc (.cells #[.slice a len cap, .int .i64 0, .int .u64 0] 72)).heap.size = w.heap.size + 3 := by simp
  clear h B1
  go_enter Try.func18, Try.ntmps18
  go_upto_region 2 with fail
  generalize ((w.alloc (.cells #[.int .i64 0, .int .i64 0, .int .i64 0, .int .i64 0, .bool false, .int .i64 0] 25)).alloc (.cells #[.string ⟨#[]⟩, .int .i64 0] 35)).alloc (.cells #[.slice a len cap, .int .i64 0, .int .u64 0] 72) = w0 at *
  obtain ⟨b, hb⟩ : ∃ b, b = w.heap.size + 2 := ⟨_, rfl⟩
  rw [← hb] at C0 ⊢
  have hbR : w.heap.size ≠ b := by omega
  have hbS : w.heap.size + 1 ≠ b := by omega
  have hbl : w.heap.size ≤ b := by omega
  have hb0 : b < w0.heap.size := by omega
  clear hb hs0
  go_wp2_with fail
  refine (platform_any b b 0 w0 C0.out (by omega)).mono ?_
  rintro e w1 ⟨x, rfl, hc, hg⟩
  have T1 := Lib.hid (T0.out.trans (grown_below hg (by have := T0.out.size; omega) (fun j hj => by cases hj; omega)))
  have R1 := Lib.hid (grow_other hg R0.out (fun e => hbR (Option.some.inj e).symm))
  have S1 := Lib.hid (grow_other hg S0.out (fun e => hbS (Option.some.inj e).symm))
  have C1 := Lib.hid hc
  have hb1 : b < w1.heap.size := by have := hg.size; omega
  clear hc hg R0 C0 T0 S0
  go_wp2_with fail
  refine (boardEvent_any b b _ w1 C1.out (by omega)).mono ?_
  rintro e w2 ⟨y, hyk, hyc, rfl, hc, hg⟩
  have T2 := Lib.hid (T1.out.trans (grown_below hg (by have := T1.out.size; omega) (fun j hj => by cases hj; omega)))
  have R2 := Lib.hid (grow_other hg R1.out (fun e => hbR (Option.some.inj e).symm))
  have S2 := Lib.hid (grow_other hg S1.out (fun e => hbS (Option.some.inj e).symm))
  clear hc hg R1 C1 T1 S1 hyk hyc hbR hbS hbl hb0 hb1
  unfold Plt.agg Bev.agg
  have hlR := blk_lt R2.out
  have hlS := blk_lt S2.out
  obtain ⟨d0, d1, d2, d3, d4, d5⟩ := blk_cell6 R2.out
  obtain ⟨m0, m1, m2, m3, m4, m5⟩ := blk_froz6 R2.out
  obtain ⟨e0, e1⟩ := blk_cell2 S2.out
  obtain ⟨f0, f1⟩ := blk_froz2 S2.out
  have R3 := Lib.hid (blk_all6 (x0 := .int .i64 x.d) (x1 := .int .i64 x.s) (x2 := .int .i64 x.i) (x3 := .int .i64 x.w) (x4 := .bool x.l) (x5 := .int .i64 x.g) R2.out)
  have S3 : Hid (((((((w2.setCell ⟨w.heap.size, 0, none⟩ (.int .i64 x.d)).setCell ⟨w.heap.size, 1, none⟩ (.int .i64 x.s)).setCell ⟨w.heap.size, 2, none⟩ (.int .i64 x.i)).setCell ⟨w.heap.size, 3, none⟩ (.int .i64 x.w)).setCell ⟨w.heap.size, 4, none⟩ (.bool x.l)).setCell ⟨w.heap.size, 5, none⟩ (.int .i64 x.g)).heap[w.heap.size + 1]? = some (.cells #[.string ⟨#[]⟩, .int .i64 0] 35 (0, 0))) := Lib.hid ((blk_other6 (by omega)).trans S2.out)
  have S4 := Lib.hid (blk_all2 (x := .string y.k) (y := .int .i64 y.c) S3.out)
  have R4 : Hid (((((((((w2.setCell ⟨w.heap.size, 0, none⟩ (.int .i64 x.d)).setCell ⟨w.heap.size, 1, none⟩ (.int .i64 x.s)).setCell ⟨w.heap.size, 2, none⟩ (.int .i64 x.i)).setCell ⟨w.heap.size, 3, none⟩ (.int .i64 x.w)).setCell ⟨w.heap.size, 4, none⟩ (.bool x.l)).setCell ⟨w.heap.size, 5, none⟩ (.int .i64 x.g)).setCell ⟨w.heap.size + 1, 0, none⟩ (.string y.k)).setCell ⟨w.heap.size + 1, 1, none⟩ (.int .i64 y.c)).heap[w.heap.size]? = some (.cells #[.int .i64 x.d, .int .i64 x.s, .int .i64 x.i, .int .i64 x.w, .bool x.l, .int .i64 x.g] 25 (0, 0))) := Lib.hid ((blk_other2 (by omega)).trans R3.out)
  have T4 := Lib.hid (below_all2 (below_all6 T2.out (Nat.le_refl _) (.int .i64 x.d) (.int .i64 x.s) (.int .i64 x.i) (.int .i64 x.w) (.bool x.l) (.int .i64 x.g)) (show w.heap.size ≤ w.heap.size + 1 by omega) (.string y.k) (.int .i64 y.c))
  obtain ⟨z0, z1, z2, z3, z4, z5⟩ := blk_cell6 R4.out
  obtain ⟨z6, z7⟩ := blk_cell2 S4.out
  have Z0 := Lib.hid z0
  have Z1 := Lib.hid z1
  have Z2 := Lib.hid z2
  have Z3 := Lib.hid z3
  have Z4 := Lib.hid z4
  have Z5 := Lib.hid z5
  have Z6 := Lib.hid z6
  have Z7 := Lib.hid z7
  obtain ⟨f2, f3⟩ := blk_froz2 S3.out
  obtain ⟨e2, e3⟩ := blk_cell2 S3.out
  clear z0 z1 z2 z3 z4 z5 z6 z7
  go_wp2
  refine bodyPost_ret (v := .tuple #[.agg #[.int .i64 x.d, .int .i64 x.s, .int .i64 x.i, .int .i64 x.w, .bool x.l, .int .i64 x.g], .agg #[.string y.k, .int .i64 y.c]]) (by simp [results, Try.results18, go_sem, Z0.out, Z1.out, Z2.out, Z3.out, Z4.out, Z5.out, Z6.out, Z7.out]) rfl ⟨x, y, rfl, T4.out⟩
def bevK6 : List ByteArray := [⟨#[99, 111, 109, 101]⟩, ⟨#[101, 110, 116, 101, 114]⟩, ⟨#[97, 114, 114, 105, 118, 101]⟩, ⟨#[103, 111]⟩, ⟨#[115, 116, 111, 112]⟩, ⟨#[]⟩]
theorem bevK6_size : ∀ s ∈ bevK6, s.size ≤ 10 := by decide
/-- What drawing events and a kind leaves. -/
def DcPost (w : World) (e : Ending) (w' : World) : Prop := ∃ (v : Value) (l : List Bev) (k : ByteArray), e = .returned (.tuple #[v, .string k]) ∧ Rs w' v l.length (bevs l) ∧ l.length ≤ 21 ∧ Below w.heap.size w w'
set_option maxRecDepth 100000 in
set_option maxHeartbeats 4000000 in
theorem DrawCountEvents_any (a : Option Addr) (len cap : Nat) (w : World) (h : ByteRow w a len) :
    Calls Try.prog 24 #[.slice a len cap] w (DcPost w) := by
  have C0 := Lib.hid (cur_at (cap := cap) h 72 (n := w.heap.size) rfl)
  have T0 := Lib.hid ((Below.refl w.heap.size w).alloc (Nat.le_refl _) (.cells #[.slice a len cap, .int .i64 0, .int .u64 0] 72))
  have hs0 : (w.alloc (.cells #[.slice a len cap, .int .i64 0, .int .u64 0] 72)).heap.size = w.heap.size + 1 := by simp
  clear h
  go_enter Try.func24, Try.ntmps24
  go_upto_region 2 with fail
  generalize w.alloc (.cells #[.slice a len cap, .int .i64 0, .int .u64 0] 72) = w0 at *
  obtain ⟨b, hb⟩ : ∃ b, b = w.heap.size := ⟨_, rfl⟩
  rw [← hb] at C0 hs0 T0 ⊢
  have hb0 : b < w0.heap.size := by omega
  have HBQ := Lib.hid hb
  clear hs0 hb
  go_wp2_with fail
  refine (boardEvents_any b b 0 w0 C0.out (by omega)).mono ?_
  rintro e w1 ⟨ve, l, rfl, S, hl⟩
  have hg := S.gr
  have O1 := Lib.hid S.own
  have C1 := Lib.hid S.cur
  have hob : ve.ownBlock = none ∨ ve.ownBlock ≠ some b := S.ne
  have hs1 := hg.size
  have hTs := T0.out.size
  have T1 := Lib.hid (T0.out.trans (grown_below hg (by omega) (fun j hj => by cases hj; omega)))
  clear hg S C0
  obtain ⟨ae, ce, hve⟩ := (Rs.of_own O1.out).shape
  subst hve
  have O2 := Lib.hid (O1.out.alloc (.cells #[.string ⟨#[99, 111, 109, 101]⟩, .string ⟨#[101, 110, 116, 101, 114]⟩, .string ⟨#[97, 114, 114, 105, 118, 101]⟩, .string ⟨#[103, 111]⟩, .string ⟨#[115, 116, 111, 112]⟩, .string ⟨#[]⟩] 9))
  have T2 := Lib.hid (T1.out.alloc (by omega) (.cells #[.string ⟨#[99, 111, 109, 101]⟩, .string ⟨#[101, 110, 116, 101, 114]⟩, .string ⟨#[97, 114, 114, 105, 118, 101]⟩, .string ⟨#[103, 111]⟩, .string ⟨#[115, 116, 111, 112]⟩, .string ⟨#[]⟩] 9))
  go_wp2_with fail
  refine (of_any b b _ w1.heap.size 6 6 bevK6 _ (C1.out.alloc _) (by omega) rfl (by omega) (by omega) (by omega) (list_cellsB _ 9 bevK6 _ rfl _ rfl)).mono ?_
  rintro e w2 ⟨k, hk, rfl, hc, hg⟩
  have O3 := Lib.hid (O2.out.kept hg hob)
  have T3 := Lib.hid (T2.out.trans (grown_below hg (by have := T2.out.size; have := HBQ.out; omega) (fun j hj => by cases hj; omega)))
  clear hc hg hk hob
  go_wp2
  go_ret2
  have hb := HBQ.out
  subst hb
  exact ⟨_, l, k, rfl, Rs.of_own O3.out, hl, T3.out⟩
end Go.Proofs.Ytinlcbljpclccaa
