/- What the laws on tensions draw. Condition: sizes. -/
import Derived.Test.YtmmjbdffpgohdaaDrawLC
import Derived.Test.YtmmjbdffpgohdaaDrawSpans
namespace Go.Proofs.Ytmmjbdffpgohdaa
open Go.RowKit
set_option linter.unusedVariables false
theorem rs_grownC {w w' : World} {S n : Nat} {v : Value} {xs : List Value} (h : Rs w v n xs) (hg : w.grownBy w' (some S)) (hb : ∀ j, v.ownBlock = some j → j ≠ S) : Rs w' v n xs := by
  rcases h with ⟨rfl, h⟩ | ⟨b, off, cap, rfl, hlt, hm, hc⟩
  · exact .inl ⟨rfl, h⟩
  · have hne : b ≠ S := hb b rfl
    exact .inr ⟨b, off, cap, rfl, Nat.lt_of_lt_of_le hlt hg.size, hm, fun i u hi => grown_cell hg (hc i u hi) (by simp; exact hne)⟩
theorem St.blkC {e : TypeId} {sz B b k n : Nat} {w W : World} {v : Value} {xs : List Value} (h : St e sz B b k w W v n xs) : ∀ j, v.ownBlock = some j → b < j := fun j hj => by
  have h1 := (h.own.lt j hj).1
  have h2 := h.lt
  omega
/-- A new cursor behind a box. -/
theorem cur_boxC {w : World} {a : Option Addr} {len cap : Nat} (h : ByteRow w a len) (t t2 : TypeId) (cs : Array Value) :
    Cur (w.heap.size + 1) (w.heap.size + 1) 0 ((w.alloc (.cells cs t2)).alloc (.cells #[.slice a len cap, .int .i64 0, .int .u64 0] t)) := by
  have h1 := cur_new (cap := cap) (h.below ((Below.refl _ _).alloc (Nat.le_refl _) (.cells cs t2))) t
  rwa [← aszD] at h1
theorem box_baseC {w W : World} {cs cs2 : Array Value} {t t2 : TypeId} (g : ((w.alloc (.cells cs t2)).alloc (.cells cs2 t)).grownBy W (some (w.heap.size + 1))) : Below w.heap.size w W :=
  ((((Below.refl w.heap.size w).alloc (Nat.le_refl _) _).alloc (by simp) _)).trans (grown_below g (by simp; omega) (fun k hk => by cases hk; omega))
theorem box_keptC {w W : World} {cs cs2 : Array Value} {t t2 : TypeId} (g : ((w.alloc (.cells cs t2)).alloc (.cells cs2 t)).grownBy W (some (w.heap.size + 1))) : W.heap[w.heap.size]? = some (.cells cs t2 (0, 0)) :=
  (g.block w.heap.size (by simp; omega) (fun e => by have := Option.some.inj e; omega)).trans (old_allocD (heap_alloc_new w _))
def DkPost (w : World) (e : Ending) (w' : World) : Prop := ∃ (v : Value) (l : List Sup) (x : LC), e = .returned (.tuple #[v, .agg #[.int .i64 x.w, .int .i64 x.c, .int .i64 x.r]]) ∧ Rs w' v l.length (sups l) ∧ (1 ≤ l.length ∧ l.length ≤ 9) ∧ x.wf ∧ Below w.heap.size w w' ∧ (∀ j, v.ownBlock = some j → w.heap.size < j)
def DoPost (w : World) (e : Ending) (w' : World) : Prop := ∃ (v : Value) (l : List Sup) (x : LC) (q : Int), e = .returned (.tuple #[v, .agg #[.int .i64 x.w, .int .i64 x.c, .int .i64 x.r], .int .i64 q]) ∧ Rs w' v l.length (sups l) ∧ (1 ≤ l.length ∧ l.length ≤ 9) ∧ (-1 ≤ q ∧ q ≤ 1000001) ∧ x.wf ∧ Below w.heap.size w w'
def DsPost (w : World) (e : Ending) (w' : World) : Prop := ∃ (v : Value) (l : List Sup) (x : LC) (p : Int) (q : Int), e = .returned (.tuple #[v, .agg #[.int .i64 x.w, .int .i64 x.c, .int .i64 x.r], .int .i64 p, .int .i64 q]) ∧ Rs w' v l.length (sups l) ∧ (1 ≤ l.length ∧ l.length ≤ 9) ∧ (-2 ≤ p ∧ p ≤ 12) ∧ (0 ≤ q ∧ q ≤ 1000001) ∧ x.wf ∧ Below w.heap.size w w'
def DpsPost (w : World) (e : Ending) (w' : World) : Prop := ∃ (v : Value) (l : List Sup) (x : LC) (p : Int), e = .returned (.tuple #[v, .agg #[.int .i64 x.w, .int .i64 x.c, .int .i64 x.r], .int .i64 p]) ∧ Rs w' v l.length (sups l) ∧ (1 ≤ l.length ∧ l.length ≤ 9) ∧ (-2 ≤ p ∧ p ≤ 12) ∧ x.wf ∧ Below w.heap.size w w'
set_option maxRecDepth 100000 in
set_option maxHeartbeats 2000000 in
theorem DrawUpTensions_any (a : Option Addr) (len cap : Nat) (w : World) (h : ByteRow w a len) :
    Calls Try.prog 32 #[.slice a len cap] w (DkPost w) := by
  have HC := Lib.hid (cur_boxC (cap := cap) h 72 44 #[.int .i64 0, .int .i64 0, .int .i64 0])
  clear h
  go_enter Try.func32, Try.ntmps32
  go_wp2_with fail
  refine (line_any (w.heap.size + 1) (w.heap.size + 1) 0 _ HC.out (by omega)).mono ?_
  rintro e w1 ⟨v, l, rfl, S, hl, hb⟩
  have hlt1 := S.lt
  have hz1 := S.gr.size
  simp at hz1
  have S1 := Lib.hid S
  clear S
  go_wp2_with fail
  refine (loadCase_any (w.heap.size + 1) (w.heap.size + 1) (0 + 200) _ S1.out.cur (by omega)).mono ?_
  rintro e w2 ⟨x, rfl, hwf, hc, hg⟩
  have HWF := Lib.hid hwf
  have hz2 := hg.size
  have S2 := Lib.hid (S1.out.call hc hg)
  clear hc hg S1 hwf
  have K := box_keptC (w := w) (cs := #[.int .i64 0, .int .i64 0, .int .i64 0]) (t2 := 44) S2.out.gr
  have BB := Lib.hid (box_baseC S2.out.gr)
  have q0' := cell_of_row w2 w.heap.size 0 _ _ _ K
  have m0 := frozen_of_row w2 w.heap.size 0 _ _ K
  have q1' := cell_of_row w2 w.heap.size 1 _ _ _ K
  have m1 := frozen_of_row w2 w.heap.size 1 _ _ K
  have q2' := cell_of_row w2 w.heap.size 2 _ _ _ K
  have m2 := frozen_of_row w2 w.heap.size 2 _ _ K
  have b0 := blk_setD (i := 0) (v := .int .i64 x.w) K
  have z0 := cell_of_row _ w.heap.size 0 _ _ _ b0
  have b1 := blk_setD (i := 1) (v := .int .i64 x.c) b0
  have z1 := cell_of_row _ w.heap.size 1 _ _ _ b1
  have b2 := blk_setD (i := 2) (v := .int .i64 x.r) b1
  have z2 := cell_of_row _ w.heap.size 2 _ _ _ b2
  simp at q0' q1' q2' z0 z1 z2
  have Z0 := Lib.hid z0
  have Z1 := Lib.hid z1
  have Z2 := Lib.hid z2
  clear b0 b1 b2 z0 z1 z2 K
  have GG := Lib.hid (grown_trans (grown_trans (row := some w.heap.size) (grown_setCell w2 w.heap.size 0 (.int .i64 x.w)) (grown_setCell _ w.heap.size 1 (.int .i64 x.c))) (grown_setCell _ w.heap.size 2 (.int .i64 x.r)))
  go_wp2
  refine bodyPost_ret (v := .tuple #[v, .agg #[.int .i64 x.w, .int .i64 x.c, .int .i64 x.r]]) (by simp [results, Try.results32, go_sem, Z0.out, Z1.out, Z2.out]) rfl ?_
  exact ⟨_, l, x, rfl, rs_grownC (Rs.of_own S2.out.own) GG.out (fun j hj => by have := S2.out.blkC j hj; omega), hl, HWF.out, ((BB.out.setCell (Nat.le_refl _) _).setCell (Nat.le_refl _) _).setCell (Nat.le_refl _) _, fun j hj => by have := S2.out.blkC j hj; omega⟩
end Go.Proofs.Ytmmjbdffpgohdaa
