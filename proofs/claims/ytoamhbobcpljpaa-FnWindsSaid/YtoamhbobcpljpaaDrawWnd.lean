/- The draws of the laws on wind. Condition: sizes. -/
import Derived.Test.YtoamhbobcpljpaaDrawWru
import Derived.Test.YtoamhbobcpljpaaDrawWst
import Derived.Test.YtoamhbobcpljpaaDrawVot
import Derived.Test.YtoamhbobcpljpaaBig
import Derived.Deep.RegionHeld3
namespace Go.Proofs.Ytoamhbobcpljpaa
open Go.RowKit
set_option linter.unusedVariables false
theorem blk_cell4D {w : World} {b : Nat} {x y z u : Value} {t : TypeId} (h : w.heap[b]? = some (.cells #[x, y, z, u] t (0, 0))) :
    w.cell? ⟨b, 0, none⟩ = some x ∧ w.cell? ⟨b, 1, none⟩ = some y ∧ w.cell? ⟨b, 2, none⟩ = some z ∧ w.cell? ⟨b, 3, none⟩ = some u := by
  have h0 := cell_of_row w b 0 _ _ _ h
  have h1 := cell_of_row w b 1 _ _ _ h
  have h2 := cell_of_row w b 2 _ _ _ h
  have h3 := cell_of_row w b 3 _ _ _ h
  simp at h0 h1 h2 h3
  exact ⟨h0, h1, h2, h3⟩
theorem blk_froz4D {w : World} {b : Nat} {x y z u : Value} {t : TypeId} (h : w.heap[b]? = some (.cells #[x, y, z, u] t (0, 0))) :
    w.frozen? ⟨b, 0, none⟩ = false ∧ w.frozen? ⟨b, 1, none⟩ = false ∧ w.frozen? ⟨b, 2, none⟩ = false ∧ w.frozen? ⟨b, 3, none⟩ = false :=
  ⟨frozen_of_row w b 0 _ _ h, frozen_of_row w b 1 _ _ h, frozen_of_row w b 2 _ _ h, frozen_of_row w b 3 _ _ h⟩
theorem Rd.of_rsD {w : World} {v : Value} {l : List Int} (h : Rs w v l.length (intVs l)) : Rd w v (intVs l) := by
  have hl : (intVs l).length = l.length := by simp [intVs]
  rcases h with ⟨h0, a, cap, rfl⟩ | ⟨b, off, cap, rfl, hb, hc, hx⟩
  · have : l = [] := List.eq_nil_of_length_eq_zero h0
    subst this
    exact .inl ⟨rfl, a, cap, rfl⟩
  · exact .inr ⟨b, off, cap, by rw [hl], hb, by rw [hl]; exact hc, hx⟩
/-- stores into a block of four -/
abbrev put4D (w : World) (b : Nat) (x y z u : Value) : World := (((w.setCell ⟨b, 0, none⟩ x).setCell ⟨b, 1, none⟩ y).setCell ⟨b, 2, none⟩ z).setCell ⟨b, 3, none⟩ u
theorem blk_all4D {w : World} {b : Nat} {a0 a1 a2 a3 x y z u : Value} {t : TypeId} (h : w.heap[b]? = some (.cells #[a0, a1, a2, a3] t (0, 0))) :
    ((((w.setCell ⟨b, 0, none⟩ x).setCell ⟨b, 1, none⟩ y).setCell ⟨b, 2, none⟩ z).setCell ⟨b, 3, none⟩ u).heap[b]? = some (.cells #[x, y, z, u] t (0, 0)) := by
  have h1 := blk_put (i := 3) (v := u) (blk_put (i := 2) (v := z) (blk_put (i := 1) (v := y) (blk_put (i := 0) (v := x) h)))
  simpa using h1
theorem blk_other4D {w : World} {b j : Nat} {x y z u : Value} (h : b ≠ j) : ((((w.setCell ⟨b, 0, none⟩ x).setCell ⟨b, 1, none⟩ y).setCell ⟨b, 2, none⟩ z).setCell ⟨b, 3, none⟩ u).heap[j]? = w.heap[j]? := (blk_by h).trans ((blk_by h).trans ((blk_by h).trans (blk_by h)))
theorem grown_all4D (w : World) (b : Nat) (x y z u : Value) : w.grownBy ((((w.setCell ⟨b, 0, none⟩ x).setCell ⟨b, 1, none⟩ y).setCell ⟨b, 2, none⟩ z).setCell ⟨b, 3, none⟩ u) (some b) := (((grown_put w ⟨b, 0, none⟩ x).trans (grown_put _ ⟨b, 1, none⟩ y)).trans (grown_put _ ⟨b, 2, none⟩ z)).trans (grown_put _ ⟨b, 3, none⟩ u)
theorem below_all4D {B : Nat} {a w : World} (h : Below B a w) {b : Nat} (hb : B ≤ b) (x y z u : Value) : Below B a ((((w.setCell ⟨b, 0, none⟩ x).setCell ⟨b, 1, none⟩ y).setCell ⟨b, 2, none⟩ z).setCell ⟨b, 3, none⟩ u) :=
  (((h.setCell (p := ⟨b, 0, none⟩) hb x).setCell (p := ⟨b, 1, none⟩) hb y).setCell (p := ⟨b, 2, none⟩) hb z).setCell (p := ⟨b, 3, none⟩) hb u
theorem Cur.drewW {B b k : Nat} {w : World} (h : Cur B b k w) (n : Nat) : Cur B b k (w.drewN n) := h.grown (row := none) (grown_drew w n none) (fun j hj => by cases hj)
theorem Cur.drewW1 {B b k : Nat} {w : World} (h : Cur B b k w) : Cur B b k w.drew := h.grown (row := none) ⟨rfl, rfl, rfl, Nat.le_refl _, fun _ _ _ => rfl⟩ (fun j hj => by cases hj)
theorem gr_drewW {w W : World} {row : Option Nat} (h : w.grownBy W row) : w.grownBy W.drew row := grown_trans h ⟨rfl, rfl, rfl, Nat.le_refl _, fun _ _ _ => rfl⟩
theorem nalW {W : World} {o : Obj} {g : Nat} (hg : g = W.heap.size) : (W.alloc o).heap[g]? = some o := by subst hg; exact heap_alloc_new W o
theorem odrewW {W : World} {o : Obj} {g n : Nat} (h : W.heap[g]? = some o) : (W.drewN n).heap[g]? = some o := h
theorem odrewW1 {W : World} {o : Obj} {g : Nat} (h : W.heap[g]? = some o) : W.drew.heap[g]? = some o := h
theorem lit_cellsW {W : World} {t : TypeId} {l : List Int} {cs : Array Value} {g : Nat} (hcs : cs = (l.map (Value.int .i64)).toArray) (h : W.heap[g]? = some (.cells cs t (0, 0))) :
    ∀ (i : Nat) (hi : i < l.length), W.cell? ⟨g, i, none⟩ = some (.int .i64 l[i]) := by
  intro i hi
  subst hcs
  simp [World.cell?, h, hi]
def DvoPost (w : World) (e : Ending) (w' : World) : Prop := ∃ (v : Value) (l : List Int), e = .returned v ∧ Rd w' v (intVs l) ∧ l.length ≤ 60 ∧ Below w.heap.size w w'
set_option maxRecDepth 100000 in
set_option maxHeartbeats 4000000 in
theorem DrawVoteOf_any (a : Option Addr) (len cap : Nat) (w : World) (h : ByteRow w a len) :
    Calls Try.prog 28 #[.slice a len cap] w (DvoPost w) := by
  have B1 := Below.refl w.heap.size w
  have C0 := Lib.hid (cur_at (cap := cap) (h.below B1) 75 (n := w.heap.size) (by first | rfl | simp))
  have T0 := Lib.hid (B1.alloc B1.size (.cells #[.slice a len cap, .int .i64 0, .int .u64 0] 75))
  have hs0 : (w.alloc (.cells #[.slice a len cap, .int .i64 0, .int .u64 0] 75)).heap.size = w.heap.size + 1 := by simp
  clear h B1
  go_enter Try.func28, Try.ntmps28
  go_upto_region 2 with fail
  generalize w.alloc (.cells #[.slice a len cap, .int .i64 0, .int .u64 0] 75) = w0 at *
  go_wp2_with fail
  refine (sensors_any (w.heap.size) (w.heap.size) (0) w0 C0.out (by omega)).mono ?_
  rintro e w1 ⟨v, l, rfl, S9, hl9⟩
  have hc := S9.cur
  have hg := S9.gr
  have ow := S9.own
  clear S9
  have T1 := Lib.hid (T0.out.trans (grown_below hg (by have := T0.out.size; omega) (fun j hj => by cases hj; omega)))
  have C1 := Lib.hid hc
  have z1 := hg.size
  clear hc hg
  have ov := ow
  clear ow
  obtain ⟨av, cv, rfl⟩ := (Rs.of_own ov).shape
  go_wp2_with fail
  go_ret
  exact ⟨_, l, rfl, Rd.of_own ov, hl9, T1.out⟩
def DbsPost (w : World) (e : Ending) (w' : World) : Prop := ∃ (v : Value) (l : List Int) (s : Int), e = .returned (.tuple #[v, .int .i64 s]) ∧ Rd w' v (intVs l) ∧ l.length ≤ 60 ∧ (-1 ≤ s ∧ s ≤ 10) ∧ Below w.heap.size w w'
set_option maxRecDepth 100000 in
set_option maxHeartbeats 4000000 in
theorem DrawBrokenSensors_any (a : Option Addr) (len cap : Nat) (w : World) (h : ByteRow w a len) :
    Calls Try.prog 32 #[.slice a len cap] w (DbsPost w) := by
  have B1 := Below.refl w.heap.size w
  have C0 := Lib.hid (cur_at (cap := cap) (h.below B1) 75 (n := w.heap.size) (by first | rfl | simp))
  have T0 := Lib.hid (B1.alloc B1.size (.cells #[.slice a len cap, .int .i64 0, .int .u64 0] 75))
  have hs0 : (w.alloc (.cells #[.slice a len cap, .int .i64 0, .int .u64 0] 75)).heap.size = w.heap.size + 1 := by simp
  clear h B1
  go_enter Try.func32, Try.ntmps32
  go_upto_region 2 with fail
  generalize w.alloc (.cells #[.slice a len cap, .int .i64 0, .int .u64 0] 75) = w0 at *
  go_wp2_with fail
  refine (sensors_any (w.heap.size) (w.heap.size) (0) w0 C0.out (by omega)).mono ?_
  rintro e w1 ⟨v, l, rfl, S9, hl9⟩
  have hc := S9.cur
  have hg := S9.gr
  have ow := S9.own
  clear S9
  have T1 := Lib.hid (T0.out.trans (grown_below hg (by have := T0.out.size; omega) (fun j hj => by cases hj; omega)))
  have C1 := Lib.hid hc
  have z1 := hg.size
  clear hc hg
  have ov := ow
  clear ow
  obtain ⟨av, cv, rfl⟩ := (Rs.of_own ov).shape
  go_wp2_with fail
  refine (among_any (w.heap.size) (w.heap.size) (0 + 200) w1.heap.size 5 5 [0, 1, 3, 10, -1] _ (C1.out.alloc _) (by omega) rfl (by omega) (by omega) (by omega) (num_cells w1 3 [0, 1, 3, 10, -1] _ rfl)).mono ?_
  rintro e w2 ⟨s, hx, rfl, hc, hg0⟩
  have hxs := hx
  have hg := grown_trans (World.grownBy_alloc w1 (.cells #[.int .i64 0, .int .i64 1, .int .i64 3, .int .i64 10, .int .i64 (-1)] 3) (some ((w.heap.size)))) hg0
  clear hx hg0
  have T2 := Lib.hid (T1.out.trans (grown_below hg (by have := T1.out.size; omega) (fun j hj => by cases hj; omega)))
  have C2 := Lib.hid hc
  have z2 := hg.size
  have ov := ov.kept hg (.inr (fun e => by have := (ov.lt _ e).1; omega))
  clear hc hg
  have hs9 : -1 ≤ s ∧ s ≤ 10 := by simp at hxs; omega
  clear hxs
  go_wp2_with fail
  go_ret2
  exact ⟨_, l, s, rfl, Rd.of_own ov, hl9, hs9, T2.out⟩
def DiwPost (w : World) (e : Ending) (w' : World) : Prop := ∃ x : Wru, e = .returned x.agg ∧ Below w.heap.size w w'
set_option maxRecDepth 100000 in
set_option maxHeartbeats 4000000 in
theorem DrawIsWindRule_any (a : Option Addr) (len cap : Nat) (w : World) (h : ByteRow w a len) :
    Calls Try.prog 79 #[.slice a len cap] w (DiwPost w) := by
  have B1 := ((Below.refl w.heap.size w).alloc (Nat.le_refl _) (.cells #[.int .i64 0, .int .i64 0, .int .i64 0, .int .i64 0] 25))
  have C0 := Lib.hid (cur_at (cap := cap) (h.below B1) 75 (n := w.heap.size + 1) (by first | rfl | simp))
  have T0 := Lib.hid (B1.alloc B1.size (.cells #[.slice a len cap, .int .i64 0, .int .u64 0] 75))
  have K0_0 := Lib.hid (old_allocD (o' := .cells #[.slice a len cap, .int .i64 0, .int .u64 0] 75) (nalW (W := w) (o := .cells #[.int .i64 0, .int .i64 0, .int .i64 0, .int .i64 0] 25) (g := w.heap.size) (by first | rfl | simp)))
  have hs0 : ((w.alloc (.cells #[.int .i64 0, .int .i64 0, .int .i64 0, .int .i64 0] 25)).alloc (.cells #[.slice a len cap, .int .i64 0, .int .u64 0] 75)).heap.size = w.heap.size + 2 := by simp
  clear h B1
  go_enter Try.func79, Try.ntmps79
  go_upto_region 2 with fail
  generalize (w.alloc (.cells #[.int .i64 0, .int .i64 0, .int .i64 0, .int .i64 0] 25)).alloc (.cells #[.slice a len cap, .int .i64 0, .int .u64 0] 75) = w0 at *
  go_wp2_with fail
  refine (windRule_any (w.heap.size + 1) (w.heap.size + 1) (0) w0 C0.out (by omega)).mono ?_
  rintro e w1 ⟨x, hdx, rfl, hc, hg⟩
  have K1_0 := Lib.hid (keepD hg (show w.heap.size ≠ (w.heap.size + 1) by omega) K0_0.out)
  have T1 := Lib.hid (T0.out.trans (grown_below hg (by have := T0.out.size; omega) (fun j hj => by cases hj; omega)))
  have C1 := Lib.hid hc
  have z1 := hg.size
  clear hc hg
  unfold Wru.agg
  obtain ⟨pa0, pb0, pc0, pd0⟩ := blk_cell4D K1_0.out
  obtain ⟨ma0, mb0, mc0, md0⟩ := blk_froz4D K1_0.out
  have kz0_0 := blk_all4D (x := .int .i64 x.a) (y := .int .i64 x.b) (z := .int .i64 x.c) (u := .int .i64 x.d) K1_0.out
  obtain ⟨za0_0, za0_1, za0_2, za0_3⟩ := blk_cell4D kz0_0
  have Z0_0 := Lib.hid za0_0
  have Z0_1 := Lib.hid za0_1
  have Z0_2 := Lib.hid za0_2
  have Z0_3 := Lib.hid za0_3
  clear za0_0 za0_1 za0_2 za0_3 kz0_0
  have BX := Lib.hid (below_all4D T1.out (b := w.heap.size) (by omega) (.int .i64 x.a) (.int .i64 x.b) (.int .i64 x.c) (.int .i64 x.d))
  go_wp2
  refine bodyPost_ret (v := .agg #[.int .i64 x.a, .int .i64 x.b, .int .i64 x.c, .int .i64 x.d]) (by simp [results, Try.results79, go_sem, Z0_0.out, Z0_1.out, Z0_2.out, Z0_3.out]) rfl (⟨x, rfl, BX.out⟩)
set_option maxRecDepth 100000 in
set_option maxHeartbeats 4000000 in
theorem DrawGreatestFree_any (a : Option Addr) (len cap : Nat) (w : World) (h : ByteRow w a len) :
    Calls Try.prog 36 #[.slice a len cap] w (DiwPost w) := by
  have B1 := (Below.refl w.heap.size w).alloc (Nat.le_refl _) (.cells #[.int .i64 0, .int .i64 0, .int .i64 0, .int .i64 0] 25)
  have H1 := Lib.hid (h.below B1)
  have K0 := Lib.hid (heap_alloc_new w (.cells #[.int .i64 0, .int .i64 0, .int .i64 0, .int .i64 0] 25))
  have T0 := Lib.hid B1
  have hs0 : (w.alloc (.cells #[.int .i64 0, .int .i64 0, .int .i64 0, .int .i64 0] 25)).heap.size = w.heap.size + 1 := by simp
  clear h B1
  go_enter Try.func36, Try.ntmps36
  go_wp2_with fail
  refine (DrawIsWindRule_any a len cap _ H1.out).mono ?_
  rintro e w1 ⟨x, rfl, b1⟩
  have T1 := Lib.hid (T0.out.trans (b1.mono (by omega)))
  have K1_0 := Lib.hid (blk_keep K0.out b1 (by omega))
  clear b1
  unfold Wru.agg
  obtain ⟨pa0, pb0, pc0, pd0⟩ := blk_cell4D K1_0.out
  obtain ⟨ma0, mb0, mc0, md0⟩ := blk_froz4D K1_0.out
  have kz0_0 := blk_all4D (x := .int .i64 x.a) (y := .int .i64 x.b) (z := .int .i64 x.c) (u := .int .i64 x.d) K1_0.out
  obtain ⟨za0_0, za0_1, za0_2, za0_3⟩ := blk_cell4D kz0_0
  have Z0_0 := Lib.hid za0_0
  have Z0_1 := Lib.hid za0_1
  have Z0_2 := Lib.hid za0_2
  have Z0_3 := Lib.hid za0_3
  clear za0_0 za0_1 za0_2 za0_3 kz0_0
  have BX := Lib.hid (below_all4D T1.out (b := w.heap.size) (by omega) (.int .i64 x.a) (.int .i64 x.b) (.int .i64 x.c) (.int .i64 x.d))
  go_wp2
  refine bodyPost_ret (v := .agg #[.int .i64 x.a, .int .i64 x.b, .int .i64 x.c, .int .i64 x.d]) (by simp [results, Try.results36, go_sem, Z0_0.out, Z0_1.out, Z0_2.out, Z0_3.out]) rfl (⟨x, rfl, BX.out⟩)
def DtsPost (w : World) (e : Ending) (w' : World) : Prop := ∃ (x : Wru) (v : Value) (l : List Int), e = .returned (.tuple #[x.agg, v]) ∧ Rd w' v (intVs l) ∧ l.length ≤ 60 ∧ Below w.heap.size w w'
set_option maxRecDepth 100000 in
set_option maxHeartbeats 4000000 in
theorem DrawTimeStopped_any (a : Option Addr) (len cap : Nat) (w : World) (h : ByteRow w a len) :
    Calls Try.prog 42 #[.slice a len cap] w (DtsPost w) := by
  have B1 := ((Below.refl w.heap.size w).alloc (Nat.le_refl _) (.cells #[.int .i64 0, .int .i64 0, .int .i64 0, .int .i64 0] 25))
  have C0 := Lib.hid (cur_at (cap := cap) (h.below B1) 75 (n := w.heap.size + 1) (by first | rfl | simp))
  have T0 := Lib.hid (B1.alloc B1.size (.cells #[.slice a len cap, .int .i64 0, .int .u64 0] 75))
  have K0_0 := Lib.hid (old_allocD (o' := .cells #[.slice a len cap, .int .i64 0, .int .u64 0] 75) (nalW (W := w) (o := .cells #[.int .i64 0, .int .i64 0, .int .i64 0, .int .i64 0] 25) (g := w.heap.size) (by first | rfl | simp)))
  have hs0 : ((w.alloc (.cells #[.int .i64 0, .int .i64 0, .int .i64 0, .int .i64 0] 25)).alloc (.cells #[.slice a len cap, .int .i64 0, .int .u64 0] 75)).heap.size = w.heap.size + 2 := by simp
  clear h B1
  go_enter Try.func42, Try.ntmps42
  go_upto_region 2 with fail
  generalize (w.alloc (.cells #[.int .i64 0, .int .i64 0, .int .i64 0, .int .i64 0] 25)).alloc (.cells #[.slice a len cap, .int .i64 0, .int .u64 0] 75) = w0 at *
  go_wp2_with fail
  refine (windRule_any (w.heap.size + 1) (w.heap.size + 1) (0) w0 C0.out (by omega)).mono ?_
  rintro e w1 ⟨x, hdx, rfl, hc, hg⟩
  have K1_0 := Lib.hid (keepD hg (show w.heap.size ≠ (w.heap.size + 1) by omega) K0_0.out)
  have T1 := Lib.hid (T0.out.trans (grown_below hg (by have := T0.out.size; omega) (fun j hj => by cases hj; omega)))
  have C1 := Lib.hid hc
  have z1 := hg.size
  clear hc hg
  unfold Wru.agg
  go_wp2_with fail
  refine (votes_any (w.heap.size + 1) (w.heap.size + 1) (0 + 20) w1 C1.out (by omega)).mono ?_
  rintro e w2 ⟨v, l, rfl, S9, hl9⟩
  have hc := S9.cur
  have hg := S9.gr
  have ow := S9.own
  clear S9
  have K2_0 := Lib.hid (keepD hg (show w.heap.size ≠ (w.heap.size + 1) by omega) K1_0.out)
  have T2 := Lib.hid (T1.out.trans (grown_below hg (by have := T1.out.size; omega) (fun j hj => by cases hj; omega)))
  have C2 := Lib.hid hc
  have z2 := hg.size
  clear hc hg
  have ov := ow
  clear ow
  obtain ⟨av, cv, rfl⟩ := (Rs.of_own ov).shape
  obtain ⟨pa0, pb0, pc0, pd0⟩ := blk_cell4D K2_0.out
  obtain ⟨ma0, mb0, mc0, md0⟩ := blk_froz4D K2_0.out
  have kz0_0 := blk_all4D (x := .int .i64 x.a) (y := .int .i64 x.b) (z := .int .i64 x.c) (u := .int .i64 x.d) K2_0.out
  obtain ⟨za0_0, za0_1, za0_2, za0_3⟩ := blk_cell4D kz0_0
  have Z0_0 := Lib.hid za0_0
  have Z0_1 := Lib.hid za0_1
  have Z0_2 := Lib.hid za0_2
  have Z0_3 := Lib.hid za0_3
  clear za0_0 za0_1 za0_2 za0_3 kz0_0
  have OXv := Lib.hid (Rs.of_own (own_by ov (grown_all4D _ (w.heap.size) (.int .i64 x.a) (.int .i64 x.b) (.int .i64 x.c) (.int .i64 x.d)) (fun e => by have := (ov.lt _ e).1; omega)))
  have BX := Lib.hid (below_all4D T2.out (b := w.heap.size) (by omega) (.int .i64 x.a) (.int .i64 x.b) (.int .i64 x.c) (.int .i64 x.d))
  go_wp2
  refine bodyPost_ret (v := .tuple #[.agg #[.int .i64 x.a, .int .i64 x.b, .int .i64 x.c, .int .i64 x.d], .slice av l.length cv]) (by simp [results, Try.results42, go_sem, Z0_0.out, Z0_1.out, Z0_2.out, Z0_3.out]) rfl (⟨x, _, l, rfl, Rd.of_rsD OXv.out, hl9, BX.out⟩)
def DcrPost (w : World) (e : Ending) (w' : World) : Prop := ∃ (x y : Wru) (v : Value) (l : List Int), e = .returned (.tuple #[x.agg, y.agg, v]) ∧ Rd w' v (intVs l) ∧ l.length ≤ 60 ∧ Below w.heap.size w w'
set_option maxRecDepth 100000 in
set_option maxHeartbeats 4000000 in
theorem DrawCompareRules_any (a : Option Addr) (len cap : Nat) (w : World) (h : ByteRow w a len) :
    Calls Try.prog 39 #[.slice a len cap] w (DcrPost w) := by
  have B1 := (((Below.refl w.heap.size w).alloc (Nat.le_refl _) (.cells #[.int .i64 0, .int .i64 0, .int .i64 0, .int .i64 0] 25)).alloc (by simp <;> omega) (.cells #[.int .i64 0, .int .i64 0, .int .i64 0, .int .i64 0] 25))
  have C0 := Lib.hid (cur_at (cap := cap) (h.below B1) 75 (n := w.heap.size + 2) (by first | rfl | simp))
  have T0 := Lib.hid (B1.alloc B1.size (.cells #[.slice a len cap, .int .i64 0, .int .u64 0] 75))
  have K0_0 := Lib.hid (old_allocD (o' := .cells #[.slice a len cap, .int .i64 0, .int .u64 0] 75) (old_allocD (o' := .cells #[.int .i64 0, .int .i64 0, .int .i64 0, .int .i64 0] 25) (nalW (W := w) (o := .cells #[.int .i64 0, .int .i64 0, .int .i64 0, .int .i64 0] 25) (g := w.heap.size) (by first | rfl | simp))))
  have K0_1 := Lib.hid (old_allocD (o' := .cells #[.slice a len cap, .int .i64 0, .int .u64 0] 75) (nalW (W := (w.alloc (.cells #[.int .i64 0, .int .i64 0, .int .i64 0, .int .i64 0] 25))) (o := .cells #[.int .i64 0, .int .i64 0, .int .i64 0, .int .i64 0] 25) (g := w.heap.size + 1) (by first | rfl | simp)))
  have hs0 : (((w.alloc (.cells #[.int .i64 0, .int .i64 0, .int .i64 0, .int .i64 0] 25)).alloc (.cells #[.int .i64 0, .int .i64 0, .int .i64 0, .int .i64 0] 25)).alloc (.cells #[.slice a len cap, .int .i64 0, .int .u64 0] 75)).heap.size = w.heap.size + 3 := by simp
  clear h B1
  go_enter Try.func39, Try.ntmps39
  go_upto_region 2 with fail
  generalize ((w.alloc (.cells #[.int .i64 0, .int .i64 0, .int .i64 0, .int .i64 0] 25)).alloc (.cells #[.int .i64 0, .int .i64 0, .int .i64 0, .int .i64 0] 25)).alloc (.cells #[.slice a len cap, .int .i64 0, .int .u64 0] 75) = w0 at *
  go_wp2_with fail
  refine (windRule_any (w.heap.size + 2) (w.heap.size + 2) (0) w0 C0.out (by omega)).mono ?_
  rintro e w1 ⟨x, hdx, rfl, hc, hg⟩
  have K1_0 := Lib.hid (keepD hg (show w.heap.size ≠ (w.heap.size + 2) by omega) K0_0.out)
  have K1_1 := Lib.hid (keepD hg (show w.heap.size + 1 ≠ (w.heap.size + 2) by omega) K0_1.out)
  have T1 := Lib.hid (T0.out.trans (grown_below hg (by have := T0.out.size; omega) (fun j hj => by cases hj; omega)))
  have C1 := Lib.hid hc
  have z1 := hg.size
  clear hc hg
  unfold Wru.agg
  go_wp2_with fail
  refine (windRule_any (w.heap.size + 2) (w.heap.size + 2) (0 + 20) w1 C1.out (by omega)).mono ?_
  rintro e w2 ⟨y, hdy, rfl, hc, hg⟩
  have K2_0 := Lib.hid (keepD hg (show w.heap.size ≠ (w.heap.size + 2) by omega) K1_0.out)
  have K2_1 := Lib.hid (keepD hg (show w.heap.size + 1 ≠ (w.heap.size + 2) by omega) K1_1.out)
  have T2 := Lib.hid (T1.out.trans (grown_below hg (by have := T1.out.size; omega) (fun j hj => by cases hj; omega)))
  have C2 := Lib.hid hc
  have z2 := hg.size
  clear hc hg
  unfold Wru.agg
  go_wp2_with fail
  refine (votes_any (w.heap.size + 2) (w.heap.size + 2) (0 + 20 + 20) w2 C2.out (by omega)).mono ?_
  rintro e w3 ⟨v, l, rfl, S9, hl9⟩
  have hc := S9.cur
  have hg := S9.gr
  have ow := S9.own
  clear S9
  have K3_0 := Lib.hid (keepD hg (show w.heap.size ≠ (w.heap.size + 2) by omega) K2_0.out)
  have K3_1 := Lib.hid (keepD hg (show w.heap.size + 1 ≠ (w.heap.size + 2) by omega) K2_1.out)
  have T3 := Lib.hid (T2.out.trans (grown_below hg (by have := T2.out.size; omega) (fun j hj => by cases hj; omega)))
  have C3 := Lib.hid hc
  have z3 := hg.size
  clear hc hg
  have ov := ow
  clear ow
  obtain ⟨av, cv, rfl⟩ := (Rs.of_own ov).shape
  obtain ⟨pa0, pb0, pc0, pd0⟩ := blk_cell4D K3_0.out
  obtain ⟨ma0, mb0, mc0, md0⟩ := blk_froz4D K3_0.out
  have kz0_0 := blk_all4D (x := .int .i64 x.a) (y := .int .i64 x.b) (z := .int .i64 x.c) (u := .int .i64 x.d) K3_0.out
  have kz0_1 := (blk_other4D (w := w3) (x := .int .i64 x.a) (y := .int .i64 x.b) (z := .int .i64 x.c) (u := .int .i64 x.d) (show w.heap.size ≠ w.heap.size + 1 by omega)).trans K3_1.out
  obtain ⟨pa1, pb1, pc1, pd1⟩ := blk_cell4D kz0_1
  obtain ⟨ma1, mb1, mc1, md1⟩ := blk_froz4D kz0_1
  have kz1_0 := (blk_other4D (w := ((((w3.setCell ⟨w.heap.size, 0, none⟩ (.int .i64 x.a)).setCell ⟨w.heap.size, 1, none⟩ (.int .i64 x.b)).setCell ⟨w.heap.size, 2, none⟩ (.int .i64 x.c)).setCell ⟨w.heap.size, 3, none⟩ (.int .i64 x.d))) (x := .int .i64 y.a) (y := .int .i64 y.b) (z := .int .i64 y.c) (u := .int .i64 y.d) (show w.heap.size + 1 ≠ w.heap.size by omega)).trans kz0_0
  have kz1_1 := blk_all4D (x := .int .i64 y.a) (y := .int .i64 y.b) (z := .int .i64 y.c) (u := .int .i64 y.d) kz0_1
  obtain ⟨za0_0, za0_1, za0_2, za0_3⟩ := blk_cell4D kz1_0
  have Z0_0 := Lib.hid za0_0
  have Z0_1 := Lib.hid za0_1
  have Z0_2 := Lib.hid za0_2
  have Z0_3 := Lib.hid za0_3
  obtain ⟨za1_0, za1_1, za1_2, za1_3⟩ := blk_cell4D kz1_1
  have Z1_0 := Lib.hid za1_0
  have Z1_1 := Lib.hid za1_1
  have Z1_2 := Lib.hid za1_2
  have Z1_3 := Lib.hid za1_3
  clear za0_0 za0_1 za0_2 za0_3 za1_0 za1_1 za1_2 za1_3 kz0_0 kz0_1 kz1_0 kz1_1
  have OXv := Lib.hid (Rs.of_own (own_by (own_by ov (grown_all4D _ (w.heap.size) (.int .i64 x.a) (.int .i64 x.b) (.int .i64 x.c) (.int .i64 x.d)) (fun e => by have := (ov.lt _ e).1; omega)) (grown_all4D _ (w.heap.size + 1) (.int .i64 y.a) (.int .i64 y.b) (.int .i64 y.c) (.int .i64 y.d)) (fun e => by have := (ov.lt _ e).1; omega)))
  have BX := Lib.hid (below_all4D (below_all4D T3.out (b := w.heap.size) (by omega) (.int .i64 x.a) (.int .i64 x.b) (.int .i64 x.c) (.int .i64 x.d)) (b := w.heap.size + 1) (by omega) (.int .i64 y.a) (.int .i64 y.b) (.int .i64 y.c) (.int .i64 y.d))
  go_wp2
  refine bodyPost_ret (v := .tuple #[.agg #[.int .i64 x.a, .int .i64 x.b, .int .i64 x.c, .int .i64 x.d], .agg #[.int .i64 y.a, .int .i64 y.b, .int .i64 y.c, .int .i64 y.d], .slice av l.length cv]) (by simp [results, Try.results39, go_sem, Z0_0.out, Z0_1.out, Z0_2.out, Z0_3.out, Z1_0.out, Z1_1.out, Z1_2.out, Z1_3.out]) rfl (⟨x, y, _, l, rfl, Rd.of_rsD OXv.out, hl9, BX.out⟩)
def DefPost (w : World) (e : Ending) (w' : World) : Prop := ∃ (x : Wru) (s : Wst), e = .returned (.tuple #[x.agg, .agg #[.int .i64 s.l, .int .i64 s.c]]) ∧ Below w.heap.size w w'
set_option maxRecDepth 100000 in
set_option maxHeartbeats 4000000 in
theorem DrawEarliestFree_any (a : Option Addr) (len cap : Nat) (w : World) (h : ByteRow w a len) :
    Calls Try.prog 25 #[.slice a len cap] w (DefPost w) := by
  have B1 := (((Below.refl w.heap.size w).alloc (Nat.le_refl _) (.cells #[.int .i64 0, .int .i64 0, .int .i64 0, .int .i64 0] 25)).alloc (by simp <;> omega) (.cells #[.int .i64 0, .int .i64 0] 27))
  have C0 := Lib.hid (cur_at (cap := cap) (h.below B1) 75 (n := w.heap.size + 2) (by first | rfl | simp))
  have T0 := Lib.hid (B1.alloc B1.size (.cells #[.slice a len cap, .int .i64 0, .int .u64 0] 75))
  have K0_0 := Lib.hid (old_allocD (o' := .cells #[.slice a len cap, .int .i64 0, .int .u64 0] 75) (old_allocD (o' := .cells #[.int .i64 0, .int .i64 0] 27) (nalW (W := w) (o := .cells #[.int .i64 0, .int .i64 0, .int .i64 0, .int .i64 0] 25) (g := w.heap.size) (by first | rfl | simp))))
  have K0_1 := Lib.hid (old_allocD (o' := .cells #[.slice a len cap, .int .i64 0, .int .u64 0] 75) (nalW (W := (w.alloc (.cells #[.int .i64 0, .int .i64 0, .int .i64 0, .int .i64 0] 25))) (o := .cells #[.int .i64 0, .int .i64 0] 27) (g := w.heap.size + 1) (by first | rfl | simp)))
  have hs0 : (((w.alloc (.cells #[.int .i64 0, .int .i64 0, .int .i64 0, .int .i64 0] 25)).alloc (.cells #[.int .i64 0, .int .i64 0] 27)).alloc (.cells #[.slice a len cap, .int .i64 0, .int .u64 0] 75)).heap.size = w.heap.size + 3 := by simp
  clear h B1
  go_enter Try.func25, Try.ntmps25
  go_upto_region 2 with fail
  generalize ((w.alloc (.cells #[.int .i64 0, .int .i64 0, .int .i64 0, .int .i64 0] 25)).alloc (.cells #[.int .i64 0, .int .i64 0] 27)).alloc (.cells #[.slice a len cap, .int .i64 0, .int .u64 0] 75) = w0 at *
  go_wp2_with fail
  refine (windRule_any (w.heap.size + 2) (w.heap.size + 2) (0) w0 C0.out (by omega)).mono ?_
  rintro e w1 ⟨x, hdx, rfl, hc, hg⟩
  have K1_0 := Lib.hid (keepD hg (show w.heap.size ≠ (w.heap.size + 2) by omega) K0_0.out)
  have K1_1 := Lib.hid (keepD hg (show w.heap.size + 1 ≠ (w.heap.size + 2) by omega) K0_1.out)
  have T1 := Lib.hid (T0.out.trans (grown_below hg (by have := T0.out.size; omega) (fun j hj => by cases hj; omega)))
  have C1 := Lib.hid hc
  have z1 := hg.size
  clear hc hg
  unfold Wru.agg
  have KP2 := Lib.hid (heap_alloc_new w1 (.cells #[.int .i64 x.a, .int .i64 x.b, .int .i64 x.c, .int .i64 x.d] 25))
  have K2_0 := Lib.hid (old_allocD (o' := .cells #[.int .i64 x.a, .int .i64 x.b, .int .i64 x.c, .int .i64 x.d] 25) K1_0.out)
  have K2_1 := Lib.hid (old_allocD (o' := .cells #[.int .i64 x.a, .int .i64 x.b, .int .i64 x.c, .int .i64 x.d] 25) K1_1.out)
  have T2 := Lib.hid (T1.out.alloc T1.out.size (.cells #[.int .i64 x.a, .int .i64 x.b, .int .i64 x.c, .int .i64 x.d] 25))
  have C2 := Lib.hid (C1.out.alloc (.cells #[.int .i64 x.a, .int .i64 x.b, .int .i64 x.c, .int .i64 x.d] 25))
  have hp : (w1.alloc (.cells #[.int .i64 x.a, .int .i64 x.b, .int .i64 x.c, .int .i64 x.d] 25)).heap.size = w1.heap.size + 1 := by simp
  go_upto_region 3 with fail
  generalize w1.alloc (.cells #[.int .i64 x.a, .int .i64 x.b, .int .i64 x.c, .int .i64 x.d] 25) = w2 at *
  obtain ⟨P, hP⟩ : ∃ P, P = w1.heap.size := ⟨_, rfl⟩
  rw [← hP] at KP2 hp ⊢
  have hPw : (w.heap.size + 2) < P := by omega
  have hP9 : P < w2.heap.size := by omega
  have hB9 : (w.heap.size + 2) < w2.heap.size := by omega
  clear hP hp
  have c0 := C2.out
  have kp0 := KP2.out
  obtain ⟨k0, k1, k2, k3⟩ := blk_cell4D kp0
  have g0 : w2.grownBy w2 (some ((w.heap.size + 2))) := World.grownBy.refl _ _
  go_region_law (first
      | (go_simp; go_at_call 52; refine (windState_any ((w.heap.size + 2)) ((w.heap.size + 2)) (0 + 20) x _ (by (repeat (first | with_reducible exact c0 | with_reducible refine Cur.alloc ?_ _ | with_reducible refine Cur.drewW ?_ _ | with_reducible refine Cur.drewW1 ?_)); first | done | fail) (by omega) hdx).mono ?_; rintro e w3 ⟨s, rfl, hc3, hg3⟩; have g3 : w2.grownBy w3 (some ((w.heap.size + 2))) := grown_trans (by (repeat (first | with_reducible exact g0 | with_reducible refine grown_trans ?_ (World.grownBy_alloc _ _ _) | with_reducible refine grown_trans ?_ (grown_drew _ _ _) | with_reducible refine gr_drewW ?_)); first | done | fail) hg3; have zs3 := g3.size; obtain ⟨kz0, kz1, kz2, kz3⟩ := blk_cell4D (keepD g3 (show P ≠ (w.heap.size + 2) by omega) kp0); have KR := keepD g3 (show w.heap.size ≠ (w.heap.size + 2) by omega) K2_0.out; have KS := keepD g3 (show w.heap.size + 1 ≠ (w.heap.size + 2) by omega) K2_1.out; obtain ⟨xa0, xa1, xa2, xa3⟩ := blk_cell4D KR; obtain ⟨xb0, xb1, xb2, xb3⟩ := blk_froz4D KR; obtain ⟨va0, va1⟩ := blk_cell2 ((blk_other4D (w := w3) (x := .int .i64 x.a) (y := .int .i64 x.b) (z := .int .i64 x.c) (u := .int .i64 x.d) (show w.heap.size ≠ w.heap.size + 1 by omega)).trans KS); obtain ⟨vb0, vb1⟩ := blk_froz2 ((blk_other4D (w := w3) (x := .int .i64 x.a) (y := .int .i64 x.b) (z := .int .i64 x.c) (u := .int .i64 x.d) (show w.heap.size ≠ w.heap.size + 1 by omega)).trans KS))
      | fail)
  all_goals (
    clear xa0 xa1 xa2 xa3 xb0 xb1 xb2 xb3 va0 va1 vb0 vb1 k0 k1 k2 k3 kp0 c0
    obtain ⟨pa0, pb0, pc0, pd0⟩ := blk_cell4D KR
    obtain ⟨ma0, mb0, mc0, md0⟩ := blk_froz4D KR
    have kz0_0 := blk_all4D (x := .int .i64 x.a) (y := .int .i64 x.b) (z := .int .i64 x.c) (u := .int .i64 x.d) KR
    have kz0_1 := (blk_other4D (w := w3) (x := .int .i64 x.a) (y := .int .i64 x.b) (z := .int .i64 x.c) (u := .int .i64 x.d) (show w.heap.size ≠ w.heap.size + 1 by omega)).trans KS
    obtain ⟨pa1, pb1⟩ := blk_cell2 kz0_1
    obtain ⟨ma1, mb1⟩ := blk_froz2 kz0_1
    have kz1_0 := (blk_other2 (w := ((((w3.setCell ⟨w.heap.size, 0, none⟩ (.int .i64 x.a)).setCell ⟨w.heap.size, 1, none⟩ (.int .i64 x.b)).setCell ⟨w.heap.size, 2, none⟩ (.int .i64 x.c)).setCell ⟨w.heap.size, 3, none⟩ (.int .i64 x.d))) (x := .int .i64 s.l) (y := .int .i64 s.c) (show w.heap.size + 1 ≠ w.heap.size by omega)).trans kz0_0
    have kz1_1 := blk_all2 (x := .int .i64 s.l) (y := .int .i64 s.c) kz0_1
    obtain ⟨za0_0, za0_1, za0_2, za0_3⟩ := blk_cell4D kz1_0
    have Z0_0 := Lib.hid za0_0
    have Z0_1 := Lib.hid za0_1
    have Z0_2 := Lib.hid za0_2
    have Z0_3 := Lib.hid za0_3
    obtain ⟨za1_0, za1_1⟩ := blk_cell2 kz1_1
    have Z1_0 := Lib.hid za1_0
    have Z1_1 := Lib.hid za1_1
    clear za0_0 za0_1 za0_2 za0_3 za1_0 za1_1 kz0_0 kz0_1 kz1_0 kz1_1
    have BX := Lib.hid (below_all2 (below_all4D (T2.out.trans (grown_below g3 (by have := T2.out.size; omega) (fun j hj => by cases hj; omega))) (b := w.heap.size) (by omega) (.int .i64 x.a) (.int .i64 x.b) (.int .i64 x.c) (.int .i64 x.d)) (b := w.heap.size + 1) (by omega) (.int .i64 s.l) (.int .i64 s.c))
    go_wp2
    refine bodyPost_ret (v := .tuple #[.agg #[.int .i64 x.a, .int .i64 x.b, .int .i64 x.c, .int .i64 x.d], .agg #[.int .i64 s.l, .int .i64 s.c]]) (by simp [results, Try.results25, go_sem, Z0_0.out, Z0_1.out, Z0_2.out, Z0_3.out, Z1_0.out, Z1_1.out]) rfl (⟨x, s, rfl, BX.out⟩))
def DnwPost (w : World) (e : Ending) (w' : World) : Prop := ∃ (x : Wru) (s : Wst) (y : Int), e = .returned (.tuple #[x.agg, .agg #[.int .i64 s.l, .int .i64 s.c], .int .i64 y]) ∧ Below w.heap.size w w'
set_option maxRecDepth 100000 in
set_option maxHeartbeats 4000000 in
theorem DrawNextWind_any (a : Option Addr) (len cap : Nat) (w : World) (h : ByteRow w a len) :
    Calls Try.prog 23 #[.slice a len cap] w (DnwPost w) := by
  have B1 := (((Below.refl w.heap.size w).alloc (Nat.le_refl _) (.cells #[.int .i64 0, .int .i64 0, .int .i64 0, .int .i64 0] 25)).alloc (by simp <;> omega) (.cells #[.int .i64 0, .int .i64 0] 27))
  have C0 := Lib.hid (cur_at (cap := cap) (h.below B1) 75 (n := w.heap.size + 2) (by first | rfl | simp))
  have T0 := Lib.hid (B1.alloc B1.size (.cells #[.slice a len cap, .int .i64 0, .int .u64 0] 75))
  have K0_0 := Lib.hid (old_allocD (o' := .cells #[.slice a len cap, .int .i64 0, .int .u64 0] 75) (old_allocD (o' := .cells #[.int .i64 0, .int .i64 0] 27) (nalW (W := w) (o := .cells #[.int .i64 0, .int .i64 0, .int .i64 0, .int .i64 0] 25) (g := w.heap.size) (by first | rfl | simp))))
  have K0_1 := Lib.hid (old_allocD (o' := .cells #[.slice a len cap, .int .i64 0, .int .u64 0] 75) (nalW (W := (w.alloc (.cells #[.int .i64 0, .int .i64 0, .int .i64 0, .int .i64 0] 25))) (o := .cells #[.int .i64 0, .int .i64 0] 27) (g := w.heap.size + 1) (by first | rfl | simp)))
  have hs0 : (((w.alloc (.cells #[.int .i64 0, .int .i64 0, .int .i64 0, .int .i64 0] 25)).alloc (.cells #[.int .i64 0, .int .i64 0] 27)).alloc (.cells #[.slice a len cap, .int .i64 0, .int .u64 0] 75)).heap.size = w.heap.size + 3 := by simp
  clear h B1
  go_enter Try.func23, Try.ntmps23
  go_upto_region 2 with fail
  generalize ((w.alloc (.cells #[.int .i64 0, .int .i64 0, .int .i64 0, .int .i64 0] 25)).alloc (.cells #[.int .i64 0, .int .i64 0] 27)).alloc (.cells #[.slice a len cap, .int .i64 0, .int .u64 0] 75) = w0 at *
  go_wp2_with fail
  refine (windRule_any (w.heap.size + 2) (w.heap.size + 2) (0) w0 C0.out (by omega)).mono ?_
  rintro e w1 ⟨x, hdx, rfl, hc, hg⟩
  have K1_0 := Lib.hid (keepD hg (show w.heap.size ≠ (w.heap.size + 2) by omega) K0_0.out)
  have K1_1 := Lib.hid (keepD hg (show w.heap.size + 1 ≠ (w.heap.size + 2) by omega) K0_1.out)
  have T1 := Lib.hid (T0.out.trans (grown_below hg (by have := T0.out.size; omega) (fun j hj => by cases hj; omega)))
  have C1 := Lib.hid hc
  have z1 := hg.size
  clear hc hg
  unfold Wru.agg
  have KP2 := Lib.hid (heap_alloc_new w1 (.cells #[.int .i64 x.a, .int .i64 x.b, .int .i64 x.c, .int .i64 x.d] 25))
  have K2_0 := Lib.hid (old_allocD (o' := .cells #[.int .i64 x.a, .int .i64 x.b, .int .i64 x.c, .int .i64 x.d] 25) K1_0.out)
  have K2_1 := Lib.hid (old_allocD (o' := .cells #[.int .i64 x.a, .int .i64 x.b, .int .i64 x.c, .int .i64 x.d] 25) K1_1.out)
  have T2 := Lib.hid (T1.out.alloc T1.out.size (.cells #[.int .i64 x.a, .int .i64 x.b, .int .i64 x.c, .int .i64 x.d] 25))
  have C2 := Lib.hid (C1.out.alloc (.cells #[.int .i64 x.a, .int .i64 x.b, .int .i64 x.c, .int .i64 x.d] 25))
  have hp : (w1.alloc (.cells #[.int .i64 x.a, .int .i64 x.b, .int .i64 x.c, .int .i64 x.d] 25)).heap.size = w1.heap.size + 1 := by simp
  go_upto_region 3 with fail
  generalize w1.alloc (.cells #[.int .i64 x.a, .int .i64 x.b, .int .i64 x.c, .int .i64 x.d] 25) = w2 at *
  obtain ⟨P, hP⟩ : ∃ P, P = w1.heap.size := ⟨_, rfl⟩
  rw [← hP] at KP2 hp ⊢
  have hPw : (w.heap.size + 2) < P := by omega
  have hP9 : P < w2.heap.size := by omega
  have hB9 : (w.heap.size + 2) < w2.heap.size := by omega
  clear hP hp
  have c0 := C2.out
  have kp0 := KP2.out
  obtain ⟨k0, k1, k2, k3⟩ := blk_cell4D kp0
  have g0 : w2.grownBy w2 (some ((w.heap.size + 2))) := World.grownBy.refl _ _
  have HAM : Hid (∀ W g, Cur ((w.heap.size + 2)) ((w.heap.size + 2)) (0 + 20 + 12) W → g ≠ (w.heap.size + 2) → W.heap[g]? = some (.cells #[.int .i64 0, .int .i64 4, .int .i64 7, .int .i64 9, .int .i64 10, .int .i64 12, .int .i64 14, .int .i64 15, .int .i64 16, .int .i64 18, .int .i64 20, .int .i64 60, .int .i64 61, .int .i64 (-1)] 3 (0, 0)) → Calls Try.prog 64 #[.pointer (some ⟨(w.heap.size + 2), 0, none⟩), .slice (some ⟨g, 0, none⟩) 14 14] W (AmPost ((w.heap.size + 2)) ((w.heap.size + 2)) (0 + 20 + 12) [0, 4, 7, 9, 10, 12, 14, 15, 16, 18, 20, 60, 61, -1] W)) := Lib.hid (fun W g hW hg hc => among_any ((w.heap.size + 2)) ((w.heap.size + 2)) (0 + 20 + 12) g 14 14 [0, 4, 7, 9, 10, 12, 14, 15, 16, 18, 20, 60, 61, -1] W hW (by omega) rfl (by omega) (by omega) hg (lit_cellsW (l := [0, 4, 7, 9, 10, 12, 14, 15, 16, 18, 20, 60, 61, -1]) rfl hc))
  obtain ⟨ka0, ka1, ka2, ka3⟩ := blk_cell4D (old_allocD (o' := .cells #[.int .i64 0, .int .i64 4, .int .i64 7, .int .i64 9, .int .i64 10, .int .i64 12, .int .i64 14, .int .i64 15, .int .i64 16, .int .i64 18, .int .i64 20, .int .i64 60, .int .i64 61, .int .i64 (-1)] 3) kp0)
  go_region_law (first
      | (go_simp; go_at_call 64; refine (HAM.out _ _ (by (repeat (first | with_reducible exact hc3 | with_reducible refine Cur.alloc ?_ _ | with_reducible refine Cur.drewW ?_ _ | with_reducible refine Cur.drewW1 ?_)); first | done | fail) (by first | omega | (simp; omega)) (by (repeat (first | with_reducible exact nalW (by first | rfl | (simp; done) | omega | fail) | with_reducible refine keepD hg3 (by first | omega | (have := zs3; omega) | (simp; omega)) ?_ | with_reducible refine old_allocD ?_ | with_reducible refine odrewW ?_ | with_reducible refine odrewW1 ?_)); first | done | fail)).mono ?_; rintro e w4 ⟨y, hx4, rfl, hc4, hg4⟩; have g4 : w2.grownBy w4 (some ((w.heap.size + 2))) := grown_trans (by (repeat (first | with_reducible exact g3 | with_reducible refine grown_trans ?_ (World.grownBy_alloc _ _ _) | with_reducible refine grown_trans ?_ (grown_drew _ _ _) | with_reducible refine gr_drewW ?_)); first | done | fail) hg4; have zs4 := g4.size; obtain ⟨kz0, kz1, kz2, kz3⟩ := blk_cell4D (keepD g4 (show P ≠ (w.heap.size + 2) by omega) kp0); have KR := keepD g4 (show w.heap.size ≠ (w.heap.size + 2) by omega) K2_0.out; have KS := keepD g4 (show w.heap.size + 1 ≠ (w.heap.size + 2) by omega) K2_1.out; obtain ⟨xa0, xa1, xa2, xa3⟩ := blk_cell4D KR; obtain ⟨xb0, xb1, xb2, xb3⟩ := blk_froz4D KR; obtain ⟨va0, va1⟩ := blk_cell2 ((blk_other4D (w := w4) (x := .int .i64 x.a) (y := .int .i64 x.b) (z := .int .i64 x.c) (u := .int .i64 x.d) (show w.heap.size ≠ w.heap.size + 1 by omega)).trans KS); obtain ⟨vb0, vb1⟩ := blk_froz2 ((blk_other4D (w := w4) (x := .int .i64 x.a) (y := .int .i64 x.b) (z := .int .i64 x.c) (u := .int .i64 x.d) (show w.heap.size ≠ w.heap.size + 1 by omega)).trans KS))
      | (go_simp; go_at_call 52; refine (windState_any ((w.heap.size + 2)) ((w.heap.size + 2)) (0 + 20) x _ (by (repeat (first | with_reducible exact c0 | with_reducible refine Cur.alloc ?_ _ | with_reducible refine Cur.drewW ?_ _ | with_reducible refine Cur.drewW1 ?_)); first | done | fail) (by omega) hdx).mono ?_; rintro e w3 ⟨s, rfl, hc3, hg3⟩; have g3 : w2.grownBy w3 (some ((w.heap.size + 2))) := grown_trans (by (repeat (first | with_reducible exact g0 | with_reducible refine grown_trans ?_ (World.grownBy_alloc _ _ _) | with_reducible refine grown_trans ?_ (grown_drew _ _ _) | with_reducible refine gr_drewW ?_)); first | done | fail) hg3; have zs3 := g3.size; obtain ⟨ky0, ky1, ky2, ky3⟩ := blk_cell4D (keepD g3 (show P ≠ (w.heap.size + 2) by omega) kp0); obtain ⟨kb0, kb1, kb2, kb3⟩ := blk_cell4D (old_allocD (o' := .cells #[.int .i64 0, .int .i64 4, .int .i64 7, .int .i64 9, .int .i64 10, .int .i64 12, .int .i64 14, .int .i64 15, .int .i64 16, .int .i64 18, .int .i64 20, .int .i64 60, .int .i64 61, .int .i64 (-1)] 3) (keepD g3 (show P ≠ (w.heap.size + 2) by omega) kp0)))
      | fail)
  all_goals (
    clear xa0 xa1 xa2 xa3 xb0 xb1 xb2 xb3 va0 va1 vb0 vb1 k0 k1 k2 k3 kp0 c0
    obtain ⟨pa0, pb0, pc0, pd0⟩ := blk_cell4D KR
    obtain ⟨ma0, mb0, mc0, md0⟩ := blk_froz4D KR
    have kz0_0 := blk_all4D (x := .int .i64 x.a) (y := .int .i64 x.b) (z := .int .i64 x.c) (u := .int .i64 x.d) KR
    have kz0_1 := (blk_other4D (w := w4) (x := .int .i64 x.a) (y := .int .i64 x.b) (z := .int .i64 x.c) (u := .int .i64 x.d) (show w.heap.size ≠ w.heap.size + 1 by omega)).trans KS
    obtain ⟨pa1, pb1⟩ := blk_cell2 kz0_1
    obtain ⟨ma1, mb1⟩ := blk_froz2 kz0_1
    have kz1_0 := (blk_other2 (w := ((((w4.setCell ⟨w.heap.size, 0, none⟩ (.int .i64 x.a)).setCell ⟨w.heap.size, 1, none⟩ (.int .i64 x.b)).setCell ⟨w.heap.size, 2, none⟩ (.int .i64 x.c)).setCell ⟨w.heap.size, 3, none⟩ (.int .i64 x.d))) (x := .int .i64 s.l) (y := .int .i64 s.c) (show w.heap.size + 1 ≠ w.heap.size by omega)).trans kz0_0
    have kz1_1 := blk_all2 (x := .int .i64 s.l) (y := .int .i64 s.c) kz0_1
    obtain ⟨za0_0, za0_1, za0_2, za0_3⟩ := blk_cell4D kz1_0
    have Z0_0 := Lib.hid za0_0
    have Z0_1 := Lib.hid za0_1
    have Z0_2 := Lib.hid za0_2
    have Z0_3 := Lib.hid za0_3
    obtain ⟨za1_0, za1_1⟩ := blk_cell2 kz1_1
    have Z1_0 := Lib.hid za1_0
    have Z1_1 := Lib.hid za1_1
    clear za0_0 za0_1 za0_2 za0_3 za1_0 za1_1 kz0_0 kz0_1 kz1_0 kz1_1
    have BX := Lib.hid (below_all2 (below_all4D (T2.out.trans (grown_below g4 (by have := T2.out.size; omega) (fun j hj => by cases hj; omega))) (b := w.heap.size) (by omega) (.int .i64 x.a) (.int .i64 x.b) (.int .i64 x.c) (.int .i64 x.d)) (b := w.heap.size + 1) (by omega) (.int .i64 s.l) (.int .i64 s.c))
    go_wp2
    refine bodyPost_ret (v := .tuple #[.agg #[.int .i64 x.a, .int .i64 x.b, .int .i64 x.c, .int .i64 x.d], .agg #[.int .i64 s.l, .int .i64 s.c], .int .i64 y]) (by simp [results, Try.results23, go_sem, Z0_0.out, Z0_1.out, Z0_2.out, Z0_3.out, Z1_0.out, Z1_1.out]) rfl (⟨x, s, y, rfl, BX.out⟩))
def DrwPost (w : World) (e : Ending) (w' : World) : Prop := ∃ (x : Wru) (s : Wst) (v : Value) (l : List Int), e = .returned (.tuple #[x.agg, .agg #[.int .i64 s.l, .int .i64 s.c], v]) ∧ Rd w' v (intVs l) ∧ l.length ≤ 60 ∧ Below w.heap.size w w'
set_option maxRecDepth 100000 in
set_option maxHeartbeats 4000000 in
theorem DrawRunWind_any (a : Option Addr) (len cap : Nat) (w : World) (h : ByteRow w a len) :
    Calls Try.prog 15 #[.slice a len cap] w (DrwPost w) := by
  have B1 := (((Below.refl w.heap.size w).alloc (Nat.le_refl _) (.cells #[.int .i64 0, .int .i64 0, .int .i64 0, .int .i64 0] 25)).alloc (by simp <;> omega) (.cells #[.int .i64 0, .int .i64 0] 27))
  have C0 := Lib.hid (cur_at (cap := cap) (h.below B1) 75 (n := w.heap.size + 2) (by first | rfl | simp))
  have T0 := Lib.hid (B1.alloc B1.size (.cells #[.slice a len cap, .int .i64 0, .int .u64 0] 75))
  have K0_0 := Lib.hid (old_allocD (o' := .cells #[.slice a len cap, .int .i64 0, .int .u64 0] 75) (old_allocD (o' := .cells #[.int .i64 0, .int .i64 0] 27) (nalW (W := w) (o := .cells #[.int .i64 0, .int .i64 0, .int .i64 0, .int .i64 0] 25) (g := w.heap.size) (by first | rfl | simp))))
  have K0_1 := Lib.hid (old_allocD (o' := .cells #[.slice a len cap, .int .i64 0, .int .u64 0] 75) (nalW (W := (w.alloc (.cells #[.int .i64 0, .int .i64 0, .int .i64 0, .int .i64 0] 25))) (o := .cells #[.int .i64 0, .int .i64 0] 27) (g := w.heap.size + 1) (by first | rfl | simp)))
  have hs0 : (((w.alloc (.cells #[.int .i64 0, .int .i64 0, .int .i64 0, .int .i64 0] 25)).alloc (.cells #[.int .i64 0, .int .i64 0] 27)).alloc (.cells #[.slice a len cap, .int .i64 0, .int .u64 0] 75)).heap.size = w.heap.size + 3 := by simp
  clear h B1
  go_enter Try.func15, Try.ntmps15
  go_upto_region 2 with fail
  generalize ((w.alloc (.cells #[.int .i64 0, .int .i64 0, .int .i64 0, .int .i64 0] 25)).alloc (.cells #[.int .i64 0, .int .i64 0] 27)).alloc (.cells #[.slice a len cap, .int .i64 0, .int .u64 0] 75) = w0 at *
  go_wp2_with fail
  refine (windRule_any (w.heap.size + 2) (w.heap.size + 2) (0) w0 C0.out (by omega)).mono ?_
  rintro e w1 ⟨x, hdx, rfl, hc, hg⟩
  have K1_0 := Lib.hid (keepD hg (show w.heap.size ≠ (w.heap.size + 2) by omega) K0_0.out)
  have K1_1 := Lib.hid (keepD hg (show w.heap.size + 1 ≠ (w.heap.size + 2) by omega) K0_1.out)
  have T1 := Lib.hid (T0.out.trans (grown_below hg (by have := T0.out.size; omega) (fun j hj => by cases hj; omega)))
  have C1 := Lib.hid hc
  have z1 := hg.size
  clear hc hg
  unfold Wru.agg
  have KP2 := Lib.hid (heap_alloc_new w1 (.cells #[.int .i64 x.a, .int .i64 x.b, .int .i64 x.c, .int .i64 x.d] 25))
  have K2_0 := Lib.hid (old_allocD (o' := .cells #[.int .i64 x.a, .int .i64 x.b, .int .i64 x.c, .int .i64 x.d] 25) K1_0.out)
  have K2_1 := Lib.hid (old_allocD (o' := .cells #[.int .i64 x.a, .int .i64 x.b, .int .i64 x.c, .int .i64 x.d] 25) K1_1.out)
  have T2 := Lib.hid (T1.out.alloc T1.out.size (.cells #[.int .i64 x.a, .int .i64 x.b, .int .i64 x.c, .int .i64 x.d] 25))
  have C2 := Lib.hid (C1.out.alloc (.cells #[.int .i64 x.a, .int .i64 x.b, .int .i64 x.c, .int .i64 x.d] 25))
  have hp : (w1.alloc (.cells #[.int .i64 x.a, .int .i64 x.b, .int .i64 x.c, .int .i64 x.d] 25)).heap.size = w1.heap.size + 1 := by simp
  go_upto_region 3 with fail
  generalize w1.alloc (.cells #[.int .i64 x.a, .int .i64 x.b, .int .i64 x.c, .int .i64 x.d] 25) = w2 at *
  obtain ⟨P, hP⟩ : ∃ P, P = w1.heap.size := ⟨_, rfl⟩
  rw [← hP] at KP2 hp ⊢
  have hPw : (w.heap.size + 2) < P := by omega
  have hP9 : P < w2.heap.size := by omega
  have hB9 : (w.heap.size + 2) < w2.heap.size := by omega
  clear hP hp
  have c0 := C2.out
  have kp0 := KP2.out
  obtain ⟨k0, k1, k2, k3⟩ := blk_cell4D kp0
  have g0 : w2.grownBy w2 (some ((w.heap.size + 2))) := World.grownBy.refl _ _
  go_region_law (first
      | (go_simp; go_at_call 53; refine (votes_any ((w.heap.size + 2)) ((w.heap.size + 2)) (0 + 20 + 12) _ (by (repeat (first | with_reducible exact hc3 | with_reducible refine Cur.alloc ?_ _ | with_reducible refine Cur.drewW ?_ _ | with_reducible refine Cur.drewW1 ?_)); first | done | fail) (by omega)).mono ?_; rintro e w4 ⟨vv, l, rfl, S9, hl9⟩; have hg4 := S9.gr; have g4 : w2.grownBy w4 (some ((w.heap.size + 2))) := grown_trans (by (repeat (first | with_reducible exact g3 | with_reducible refine grown_trans ?_ (World.grownBy_alloc _ _ _) | with_reducible refine grown_trans ?_ (grown_drew _ _ _) | with_reducible refine gr_drewW ?_)); first | done | fail) hg4; have zs4 := g4.size; have ow := S9.own; obtain ⟨av, cv, rfl⟩ := (Rs.of_own ow).shape; obtain ⟨kz0, kz1, kz2, kz3⟩ := blk_cell4D (keepD g4 (show P ≠ (w.heap.size + 2) by omega) kp0); have KR := keepD g4 (show w.heap.size ≠ (w.heap.size + 2) by omega) K2_0.out; have KS := keepD g4 (show w.heap.size + 1 ≠ (w.heap.size + 2) by omega) K2_1.out; obtain ⟨xa0, xa1, xa2, xa3⟩ := blk_cell4D KR; obtain ⟨xb0, xb1, xb2, xb3⟩ := blk_froz4D KR; obtain ⟨va0, va1⟩ := blk_cell2 ((blk_other4D (w := w4) (x := .int .i64 x.a) (y := .int .i64 x.b) (z := .int .i64 x.c) (u := .int .i64 x.d) (show w.heap.size ≠ w.heap.size + 1 by omega)).trans KS); obtain ⟨vb0, vb1⟩ := blk_froz2 ((blk_other4D (w := w4) (x := .int .i64 x.a) (y := .int .i64 x.b) (z := .int .i64 x.c) (u := .int .i64 x.d) (show w.heap.size ≠ w.heap.size + 1 by omega)).trans KS))
      | (go_simp; go_at_call 52; refine (windState_any ((w.heap.size + 2)) ((w.heap.size + 2)) (0 + 20) x _ (by (repeat (first | with_reducible exact c0 | with_reducible refine Cur.alloc ?_ _ | with_reducible refine Cur.drewW ?_ _ | with_reducible refine Cur.drewW1 ?_)); first | done | fail) (by omega) hdx).mono ?_; rintro e w3 ⟨s, rfl, hc3, hg3⟩; have g3 : w2.grownBy w3 (some ((w.heap.size + 2))) := grown_trans (by (repeat (first | with_reducible exact g0 | with_reducible refine grown_trans ?_ (World.grownBy_alloc _ _ _) | with_reducible refine grown_trans ?_ (grown_drew _ _ _) | with_reducible refine gr_drewW ?_)); first | done | fail) hg3; have zs3 := g3.size; obtain ⟨ky0, ky1, ky2, ky3⟩ := blk_cell4D (keepD g3 (show P ≠ (w.heap.size + 2) by omega) kp0))
      | fail)
  all_goals (
    clear xa0 xa1 xa2 xa3 xb0 xb1 xb2 xb3 va0 va1 vb0 vb1 k0 k1 k2 k3 kp0 c0
    obtain ⟨pa0, pb0, pc0, pd0⟩ := blk_cell4D KR
    obtain ⟨ma0, mb0, mc0, md0⟩ := blk_froz4D KR
    have kz0_0 := blk_all4D (x := .int .i64 x.a) (y := .int .i64 x.b) (z := .int .i64 x.c) (u := .int .i64 x.d) KR
    have kz0_1 := (blk_other4D (w := w4) (x := .int .i64 x.a) (y := .int .i64 x.b) (z := .int .i64 x.c) (u := .int .i64 x.d) (show w.heap.size ≠ w.heap.size + 1 by omega)).trans KS
    obtain ⟨pa1, pb1⟩ := blk_cell2 kz0_1
    obtain ⟨ma1, mb1⟩ := blk_froz2 kz0_1
    have kz1_0 := (blk_other2 (w := ((((w4.setCell ⟨w.heap.size, 0, none⟩ (.int .i64 x.a)).setCell ⟨w.heap.size, 1, none⟩ (.int .i64 x.b)).setCell ⟨w.heap.size, 2, none⟩ (.int .i64 x.c)).setCell ⟨w.heap.size, 3, none⟩ (.int .i64 x.d))) (x := .int .i64 s.l) (y := .int .i64 s.c) (show w.heap.size + 1 ≠ w.heap.size by omega)).trans kz0_0
    have kz1_1 := blk_all2 (x := .int .i64 s.l) (y := .int .i64 s.c) kz0_1
    obtain ⟨za0_0, za0_1, za0_2, za0_3⟩ := blk_cell4D kz1_0
    have Z0_0 := Lib.hid za0_0
    have Z0_1 := Lib.hid za0_1
    have Z0_2 := Lib.hid za0_2
    have Z0_3 := Lib.hid za0_3
    obtain ⟨za1_0, za1_1⟩ := blk_cell2 kz1_1
    have Z1_0 := Lib.hid za1_0
    have Z1_1 := Lib.hid za1_1
    clear za0_0 za0_1 za0_2 za0_3 za1_0 za1_1 kz0_0 kz0_1 kz1_0 kz1_1
    have BX := Lib.hid (below_all2 (below_all4D (T2.out.trans (grown_below g4 (by have := T2.out.size; omega) (fun j hj => by cases hj; omega))) (b := w.heap.size) (by omega) (.int .i64 x.a) (.int .i64 x.b) (.int .i64 x.c) (.int .i64 x.d)) (b := w.heap.size + 1) (by omega) (.int .i64 s.l) (.int .i64 s.c))
    have OXv := Lib.hid (Rs.of_own (own_by (own_by ow (grown_all4D _ (w.heap.size) (.int .i64 x.a) (.int .i64 x.b) (.int .i64 x.c) (.int .i64 x.d)) (fun e => by have := (ow.lt _ e).1; first | omega | (simp at this; omega))) (grown_allD _ (w.heap.size + 1) (.int .i64 s.l) (.int .i64 s.c)) (fun e => by have := (ow.lt _ e).1; first | omega | (simp at this; omega))))
    go_wp2
    refine bodyPost_ret (v := .tuple #[.agg #[.int .i64 x.a, .int .i64 x.b, .int .i64 x.c, .int .i64 x.d], .agg #[.int .i64 s.l, .int .i64 s.c], .slice av l.length cv]) (by simp [results, Try.results15, go_sem, Z0_0.out, Z0_1.out, Z0_2.out, Z0_3.out, Z1_0.out, Z1_1.out]) rfl (⟨x, s, _, l, rfl, Rd.of_rsD OXv.out, hl9, BX.out⟩))
end Go.Proofs.Ytoamhbobcpljpaa
