/- What the law on sags draws. Condition: sizes. -/
import Derived.Test.YtmmjbdffpgohdaaDrawRope
import Derived.Test.YtmmjbdffpgohdaaDrawSpans
namespace Go.Proofs.Ytmmjbdffpgohdaa
open Go.RowKit
set_option linter.unusedVariables false
theorem rs_grownS {w w' : World} {S n : Nat} {v : Value} {xs : List Value} (h : Rs w v n xs) (hg : w.grownBy w' (some S)) (hb : ∀ j, v.ownBlock = some j → j ≠ S) : Rs w' v n xs := by
  rcases h with ⟨rfl, h⟩ | ⟨b, off, cap, rfl, hlt, hm, hc⟩
  · exact .inl ⟨rfl, h⟩
  · have hne : b ≠ S := hb b rfl
    exact .inr ⟨b, off, cap, rfl, Nat.lt_of_lt_of_le hlt hg.size, hm, fun i u hi => grown_cell hg (hc i u hi) (by simp; exact hne)⟩
/-- A new cursor behind a box. -/
theorem cur_boxS {w : World} {a : Option Addr} {len cap : Nat} (h : ByteRow w a len) (t t2 : TypeId) (cs : Array Value) :
    Cur (w.heap.size + 1) (w.heap.size + 1) 0 ((w.alloc (.cells cs t2)).alloc (.cells #[.slice a len cap, .int .i64 0, .int .u64 0] t)) := by
  have h1 := cur_new (cap := cap) (h.below ((Below.refl _ _).alloc (Nat.le_refl _) (.cells cs t2))) t
  rwa [← aszD] at h1
theorem box_baseS {w W : World} {cs cs2 : Array Value} {t t2 : TypeId} (g : ((w.alloc (.cells cs t2)).alloc (.cells cs2 t)).grownBy W (some (w.heap.size + 1))) : Below w.heap.size w W :=
  ((((Below.refl w.heap.size w).alloc (Nat.le_refl _) _).alloc (by simp) _)).trans (grown_below g (by simp; omega) (fun k hk => by cases hk; omega))
theorem box_keptS {w W : World} {cs cs2 : Array Value} {t t2 : TypeId} (g : ((w.alloc (.cells cs t2)).alloc (.cells cs2 t)).grownBy W (some (w.heap.size + 1))) : W.heap[w.heap.size]? = some (.cells cs t2 (0, 0)) :=
  (g.block w.heap.size (by simp; omega) (fun e => by have := Option.some.inj e; omega)).trans (old_allocD (heap_alloc_new w _))
theorem results_tmp4S {fn : Func} {t u v x : Tmp} (h : fn.results = #[.tmp t, .tmp u, .tmp v, .tmp x]) (tmps : Array Value) (P : Program) (w : World) :
    (results fn tmps).run P w = .ok (.tuple #[tmps.getD t undef, tmps.getD u undef, tmps.getD v undef, tmps.getD x undef]) w := by
  simp [results, h]
theorem St.blkS {e : TypeId} {sz B b k n : Nat} {w W : World} {v : Value} {xs : List Value} (h : St e sz B b k w W v n xs) : ∀ j, v.ownBlock = some j → b < j := fun j hj => by
  have h1 := (h.own.lt j hj).1
  have h2 := h.lt
  omega
def DrawSagAtPost (w : World) (e : Ending) (w' : World) : Prop := ∃ (v : Value) (l : List Sup) (r : Rp) (x1 : Int), e = .returned (.tuple #[v, .agg #[.int .i64 r.w, .int .i64 r.p], .int .i64 x1]) ∧ Rs w' v l.length (sups l) ∧ (1 ≤ l.length ∧ l.length ≤ 9) ∧ (-10000 ≤ x1 ∧ x1 ≤ 10000) ∧ Below w.heap.size w w'
set_option maxRecDepth 100000 in
set_option maxHeartbeats 2000000 in
theorem DrawSagAt_any (a : Option Addr) (len cap : Nat) (w : World) (h : ByteRow w a len) :
    Calls Try.prog 17 #[.slice a len cap] w (DrawSagAtPost w) := by
  have HC := Lib.hid (cur_boxS (cap := cap) h 72 26 #[.int .i64 0, .int .i64 0])
  clear h
  go_enter Try.func17, Try.ntmps17
  go_wp2_with fail
  refine (line_any (w.heap.size + 1) (w.heap.size + 1) 0 _ HC.out (by omega)).mono ?_
  rintro e w1 ⟨v, l, rfl, S, hl, hb⟩
  have S1 := Lib.hid S
  clear S
  go_wp2_with fail
  refine (rope_any (w.heap.size + 1) (w.heap.size + 1) (0 + 200) _ S1.out.cur (by omega)).mono ?_
  rintro e w2 ⟨r, rfl, hc, hg⟩
  have S2 := Lib.hid (S1.out.call hc hg)
  clear hc hg S1
  go_wp2_with fail
  refine (placeOf_any (w.heap.size + 1) (w.heap.size + 1) (0 + 200 + 4) v l w2 _ S2.out hl hb (by omega)).mono ?_
  rintro e w3 ⟨x1, rfl, hb1, hc, hg⟩
  have S3 := Lib.hid (S2.out.call hc hg)
  clear hc hg S2
  have K := box_keptS (w := w) (cs := #[.int .i64 0, .int .i64 0]) (t2 := 26) S3.out.gr
  have BB := Lib.hid (box_baseS S3.out.gr)
  have q0' := cell_of_row w3 w.heap.size 0 _ _ _ K
  have q1' := cell_of_row w3 w.heap.size 1 _ _ _ K
  have m0 := frozen_of_row w3 w.heap.size 0 _ _ K
  have m1 := frozen_of_row w3 w.heap.size 1 _ _ K
  have b0 := blk_setD (i := 0) (v := .int .i64 r.w) K
  have z0 := cell_of_row _ w.heap.size 0 _ _ _ b0
  have b1 := blk_setD (i := 1) (v := .int .i64 r.p) b0
  have z1 := cell_of_row _ w.heap.size 1 _ _ _ b1
  simp at q0' q1' z0 z1
  have Z0 := Lib.hid z0
  have Z1 := Lib.hid z1
  clear b0 b1 z0 z1 K
  have GG := Lib.hid (grown_trans (row := some w.heap.size) (grown_setCell w3 w.heap.size 0 (.int .i64 r.w)) (grown_setCell _ w.heap.size 1 (.int .i64 r.p)))
  go_wp2
  refine bodyPost_ret (v := .tuple #[v, .agg #[.int .i64 r.w, .int .i64 r.p], .int .i64 x1]) (by simp [results, Try.results17, go_sem, Z0.out, Z1.out]) rfl ?_
  exact ⟨_, l, r, x1, rfl, rs_grownS (Rs.of_own S3.out.own) GG.out (fun j hj => by have := S3.out.blkS j hj; omega), hl, hb1, (BB.out.setCell (Nat.le_refl _) _).setCell (Nat.le_refl _) _⟩
def DrawLoadedSagPost (w : World) (e : Ending) (w' : World) : Prop := ∃ (v : Value) (l : List Sup) (r : Rp) (x1 : Int) (x2 : Int), e = .returned (.tuple #[v, .agg #[.int .i64 r.w, .int .i64 r.p], .int .i64 x1, .int .i64 x2]) ∧ Rs w' v l.length (sups l) ∧ (1 ≤ l.length ∧ l.length ≤ 9) ∧ (-10000 ≤ x1 ∧ x1 ≤ 10000) ∧ (-1 ≤ x2 ∧ x2 ≤ 20001) ∧ Below w.heap.size w w'
set_option maxRecDepth 100000 in
set_option maxHeartbeats 2000000 in
theorem DrawLoadedSag_any (a : Option Addr) (len cap : Nat) (w : World) (h : ByteRow w a len) :
    Calls Try.prog 7 #[.slice a len cap] w (DrawLoadedSagPost w) := by
  have HC := Lib.hid (cur_boxS (cap := cap) h 72 26 #[.int .i64 0, .int .i64 0])
  clear h
  go_enter Try.func7, Try.ntmps7
  go_wp2_with fail
  refine (line_any (w.heap.size + 1) (w.heap.size + 1) 0 _ HC.out (by omega)).mono ?_
  rintro e w1 ⟨v, l, rfl, S, hl, hb⟩
  have S1 := Lib.hid S
  clear S
  go_wp2_with fail
  refine (rope_any (w.heap.size + 1) (w.heap.size + 1) (0 + 200) _ S1.out.cur (by omega)).mono ?_
  rintro e w2 ⟨r, rfl, hc, hg⟩
  have S2 := Lib.hid (S1.out.call hc hg)
  clear hc hg S1
  go_wp2_with fail
  refine (placeOf_any (w.heap.size + 1) (w.heap.size + 1) (0 + 200 + 4) v l w2 _ S2.out hl hb (by omega)).mono ?_
  rintro e w3 ⟨x1, rfl, hb1, hc, hg⟩
  have S3 := Lib.hid (S2.out.call hc hg)
  clear hc hg S2
  go_wp2_with fail
  refine (among_any (w.heap.size + 1) (w.heap.size + 1) (0 + 200 + 4 + 10) w3.heap.size 6 6 [0, 100, 8000, 20000, 20001, -1] _ (S3.out.cur.alloc _) (by omega) rfl (by omega) (by omega) (by have := S3.out.cur.2.1; omega) (num_cells w3 3 [0, 100, 8000, 20000, 20001, -1] _ rfl)).mono ?_
  rintro e w4 ⟨x2, hx, rfl, hc, hg⟩
  have hb2 : -1 ≤ x2 ∧ x2 ≤ 20001 := by simp at hx; omega
  have S4 := Lib.hid ((S3.out.alloc (.cells #[.int .i64 0, .int .i64 100, .int .i64 8000, .int .i64 20000, .int .i64 20001, .int .i64 (-1)] 3)).call hc hg)
  clear hc hg hx S3
  have K := box_keptS (w := w) (cs := #[.int .i64 0, .int .i64 0]) (t2 := 26) S4.out.gr
  have BB := Lib.hid (box_baseS S4.out.gr)
  have q0' := cell_of_row w4 w.heap.size 0 _ _ _ K
  have q1' := cell_of_row w4 w.heap.size 1 _ _ _ K
  have m0 := frozen_of_row w4 w.heap.size 0 _ _ K
  have m1 := frozen_of_row w4 w.heap.size 1 _ _ K
  have b0 := blk_setD (i := 0) (v := .int .i64 r.w) K
  have z0 := cell_of_row _ w.heap.size 0 _ _ _ b0
  have b1 := blk_setD (i := 1) (v := .int .i64 r.p) b0
  have z1 := cell_of_row _ w.heap.size 1 _ _ _ b1
  simp at q0' q1' z0 z1
  have Z0 := Lib.hid z0
  have Z1 := Lib.hid z1
  clear b0 b1 z0 z1 K
  have GG := Lib.hid (grown_trans (row := some w.heap.size) (grown_setCell w4 w.heap.size 0 (.int .i64 r.w)) (grown_setCell _ w.heap.size 1 (.int .i64 r.p)))
  go_wp2
  refine bodyPost_ret (v := .tuple #[v, .agg #[.int .i64 r.w, .int .i64 r.p], .int .i64 x1, .int .i64 x2]) (by simp [results, Try.results7, go_sem, Z0.out, Z1.out]) rfl ?_
  exact ⟨_, l, r, x1, x2, rfl, rs_grownS (Rs.of_own S4.out.own) GG.out (fun j hj => by have := S4.out.blkS j hj; omega), hl, hb1, hb2, (BB.out.setCell (Nat.le_refl _) _).setCell (Nat.le_refl _) _⟩
def DrawGreatestSagPost (w : World) (e : Ending) (w' : World) : Prop := ∃ (v : Value) (l : List Sup) (r : Rp), e = .returned (.tuple #[v, .agg #[.int .i64 r.w, .int .i64 r.p]]) ∧ Rs w' v l.length (sups l) ∧ (1 ≤ l.length ∧ l.length ≤ 9) ∧ Below w.heap.size w w'
set_option maxRecDepth 100000 in
set_option maxHeartbeats 2000000 in
theorem DrawGreatestSag_any (a : Option Addr) (len cap : Nat) (w : World) (h : ByteRow w a len) :
    Calls Try.prog 19 #[.slice a len cap] w (DrawGreatestSagPost w) := by
  have HC := Lib.hid (cur_boxS (cap := cap) h 72 26 #[.int .i64 0, .int .i64 0])
  clear h
  go_enter Try.func19, Try.ntmps19
  go_wp2_with fail
  refine (line_any (w.heap.size + 1) (w.heap.size + 1) 0 _ HC.out (by omega)).mono ?_
  rintro e w1 ⟨v, l, rfl, S, hl, hb⟩
  have S1 := Lib.hid S
  clear S
  go_wp2_with fail
  refine (rope_any (w.heap.size + 1) (w.heap.size + 1) (0 + 200) _ S1.out.cur (by omega)).mono ?_
  rintro e w2 ⟨r, rfl, hc, hg⟩
  have S2 := Lib.hid (S1.out.call hc hg)
  clear hc hg S1
  have K := box_keptS (w := w) (cs := #[.int .i64 0, .int .i64 0]) (t2 := 26) S2.out.gr
  have BB := Lib.hid (box_baseS S2.out.gr)
  have q0' := cell_of_row w2 w.heap.size 0 _ _ _ K
  have q1' := cell_of_row w2 w.heap.size 1 _ _ _ K
  have m0 := frozen_of_row w2 w.heap.size 0 _ _ K
  have m1 := frozen_of_row w2 w.heap.size 1 _ _ K
  have b0 := blk_setD (i := 0) (v := .int .i64 r.w) K
  have z0 := cell_of_row _ w.heap.size 0 _ _ _ b0
  have b1 := blk_setD (i := 1) (v := .int .i64 r.p) b0
  have z1 := cell_of_row _ w.heap.size 1 _ _ _ b1
  simp at q0' q1' z0 z1
  have Z0 := Lib.hid z0
  have Z1 := Lib.hid z1
  clear b0 b1 z0 z1 K
  have GG := Lib.hid (grown_trans (row := some w.heap.size) (grown_setCell w2 w.heap.size 0 (.int .i64 r.w)) (grown_setCell _ w.heap.size 1 (.int .i64 r.p)))
  go_wp2
  refine bodyPost_ret (v := .tuple #[v, .agg #[.int .i64 r.w, .int .i64 r.p]]) (by simp [results, Try.results19, go_sem, Z0.out, Z1.out]) rfl ?_
  exact ⟨_, l, r, rfl, rs_grownS (Rs.of_own S2.out.own) GG.out (fun j hj => by have := S2.out.blkS j hj; omega), hl, (BB.out.setCell (Nat.le_refl _) _).setCell (Nat.le_refl _) _⟩
def DrawPullForPost (w : World) (e : Ending) (w' : World) : Prop := ∃ (v : Value) (l : List Sup) (x0 : Int) (x1 : Int) (x2 : Int), e = .returned (.tuple #[v, .int .i64 x0, .int .i64 x1, .int .i64 x2]) ∧ Rs w' v l.length (sups l) ∧ (1 ≤ l.length ∧ l.length ≤ 9) ∧ (0 ≤ x0 ∧ x0 ≤ 201) ∧ (-10000 ≤ x1 ∧ x1 ≤ 10000) ∧ (-1 ≤ x2 ∧ x2 ≤ 101) ∧ Below w.heap.size w w'
set_option maxRecDepth 100000 in
set_option maxHeartbeats 2000000 in
theorem DrawPullFor_any (a : Option Addr) (len cap : Nat) (w : World) (h : ByteRow w a len) :
    Calls Try.prog 14 #[.slice a len cap] w (DrawPullForPost w) := by
  have HC := Lib.hid (cur_new (cap := cap) h 72)
  clear h
  go_enter Try.func14, Try.ntmps14
  go_wp2_with fail
  refine (line_any w.heap.size w.heap.size 0 _ HC.out (by omega)).mono ?_
  rintro e w1 ⟨v, l, rfl, S, hl, hb⟩
  have S1 := Lib.hid S
  clear S
  go_wp2_with fail
  refine (among_any w.heap.size w.heap.size (0 + 200) w1.heap.size 6 6 [1, 20, 50, 200, 0, 201] _ (S1.out.cur.alloc _) (by omega) rfl (by omega) (by omega) (by have := S1.out.cur.2.1; omega) (num_cells w1 3 [1, 20, 50, 200, 0, 201] _ rfl)).mono ?_
  rintro e w2 ⟨x0, hx, rfl, hc, hg⟩
  have hb0 : 0 ≤ x0 ∧ x0 ≤ 201 := by simp at hx; omega
  have S2 := Lib.hid ((S1.out.alloc (.cells #[.int .i64 1, .int .i64 20, .int .i64 50, .int .i64 200, .int .i64 0, .int .i64 201] 3)).call hc hg)
  clear hc hg hx S1
  go_wp2_with fail
  refine (placeOf_any w.heap.size w.heap.size (0 + 200 + 2) v l w2 _ S2.out hl hb (by omega)).mono ?_
  rintro e w3 ⟨x1, rfl, hb1, hc, hg⟩
  have S3 := Lib.hid (S2.out.call hc hg)
  clear hc hg S2
  go_wp2_with fail
  refine (among_any w.heap.size w.heap.size (0 + 200 + 2 + 10) w3.heap.size 8 8 [0, 1, 2, 5, 20, 100, 101, -1] _ (S3.out.cur.alloc _) (by omega) rfl (by omega) (by omega) (by have := S3.out.cur.2.1; omega) (num_cells w3 3 [0, 1, 2, 5, 20, 100, 101, -1] _ rfl)).mono ?_
  rintro e w4 ⟨x2, hx, rfl, hc, hg⟩
  have hb2 : -1 ≤ x2 ∧ x2 ≤ 101 := by simp at hx; omega
  have S4 := Lib.hid ((S3.out.alloc (.cells #[.int .i64 0, .int .i64 1, .int .i64 2, .int .i64 5, .int .i64 20, .int .i64 100, .int .i64 101, .int .i64 (-1)] 3)).call hc hg)
  clear hc hg hx S3
  have BB := Lib.hid (((Below.refl w.heap.size w).alloc (Nat.le_refl _) (.cells #[.slice a len cap, .int .i64 0, .int .u64 0] 72)).trans (grown_below S4.out.gr (by simp) (fun k hk => by cases hk; exact Nat.le_refl _)))
  go_wp2
  refine bodyPost_ret (results_tmp4S rfl _ _ _) rfl ?_
  exact ⟨_, l, x0, x1, x2, rfl, Rs.of_own S4.out.own, hl, hb0, hb1, hb2, BB.out⟩
end Go.Proofs.Ytmmjbdffpgohdaa
