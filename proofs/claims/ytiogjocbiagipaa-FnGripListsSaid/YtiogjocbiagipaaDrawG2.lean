/- The draws of the laws on grips. Condition: sizes. -/
import Derived.Test.YtiogjocbiagipaaDrawG1
import Derived.Test.YtiogjocbiagipaaBig
namespace Go.Proofs.Ytiogjocbiagipaa
open Go.RowKit
set_option linter.unusedVariables false
def DlsPost (w : World) (e : Ending) (w' : World) : Prop := ∃ (v : Value) (l : List Grp), e = .returned v ∧ Rs w' v l.length (grps l) ∧ l.length ≤ 13 ∧ Below w.heap.size w w'
set_option maxRecDepth 100000 in
set_option maxHeartbeats 1000000 in
theorem DrawAreGrips_any (a : Option Addr) (len cap : Nat) (w : World) (h : ByteRow w a len) :
    Calls Try.prog 79 #[.slice a len cap] w (DlsPost w) := by
  have HC := Lib.hid (cur_new (cap := cap) h 79)
  have HB0 := Lib.hid ((Below.refl w.heap.size w).alloc (Nat.le_refl _) (.cells #[.slice a len cap, .int .i64 0, .int .u64 0] 79))
  clear h
  go_enter Try.func79, Try.ntmps79
  go_upto_region 2 with fail
  generalize hw0 : w.alloc (.cells #[.slice a len cap, .int .i64 0, .int .u64 0] 79) = w0 at *
  clear hw0
  go_wp2_with fail
  refine (grips_any w.heap.size w.heap.size 0 w0 HC.out (by omega)).mono ?_
  rintro e w1 ⟨v, l, rfl, o1, hl, hc, b1, hq⟩
  have HO := Lib.hid (Rs.of_own o1)
  have HB := Lib.hid (HB0.out.trans b1)
  clear o1 hc b1
  go_wp2_with fail
  go_ret
  exact ⟨v, l, rfl, HO.out, hl, HB.out⟩
theorem DrawWeakestGrip_any (a : Option Addr) (len cap : Nat) (w : World) (h : ByteRow w a len) :
    Calls Try.prog 40 #[.slice a len cap] w (DlsPost w) := by
  have HH := Lib.hid h
  clear h
  go_enter Try.func40, Try.ntmps40
  go_wp2_with fail
  refine (DrawAreGrips_any a len cap w HH.out).mono ?_
  rintro e w1 ⟨v, l, rfl, o1, hl, b1⟩
  have HO := Lib.hid o1
  have HB := Lib.hid b1
  clear o1 b1
  go_wp2_with fail
  go_ret
  exact ⟨v, l, rfl, HO.out, hl, HB.out⟩
def DtgPost (w : World) (e : Ending) (w' : World) : Prop := ∃ (v : Value) (l : List Grp) (n : Int) (f : Int) (d : Int), e = .returned (.tuple #[v, .int .i64 n, .int .i64 f, .int .i64 d]) ∧ Rs w' v l.length (grps l) ∧ l.length ≤ 13 ∧ (-10 ≤ n ∧ n ≤ 200) ∧ (-1 ≤ f ∧ f ≤ 5001) ∧ (0 ≤ d ∧ d ≤ 10000) ∧ Below w.heap.size w w'
set_option maxRecDepth 100000 in
set_option maxHeartbeats 1000000 in
theorem DrawTestGrip_any (a : Option Addr) (len cap : Nat) (w : World) (h : ByteRow w a len) :
    Calls Try.prog 24 #[.slice a len cap] w (DtgPost w) := by
  have HC := Lib.hid (cur_new (cap := cap) h 79)
  have HB0 := Lib.hid ((Below.refl w.heap.size w).alloc (Nat.le_refl _) (.cells #[.slice a len cap, .int .i64 0, .int .u64 0] 79))
  have hs0 : (w.alloc (.cells #[.slice a len cap, .int .i64 0, .int .u64 0] 79)).heap.size = w.heap.size + 1 := by simp
  clear h
  go_enter Try.func24, Try.ntmps24
  go_upto_region 2 with fail
  generalize hw0 : w.alloc (.cells #[.slice a len cap, .int .i64 0, .int .u64 0] 79) = w0 at *
  clear hw0
  go_wp2_with fail
  refine (grips_any w.heap.size w.heap.size 0 w0 HC.out (by omega)).mono ?_
  rintro e w1 ⟨v, l, rfl, o1, hl, hc, b1, hq⟩
  have HO := Lib.hid o1
  have HB := Lib.hid (HB0.out.trans b1)
  have Cw1 := Lib.hid hc
  have hs1 := b1.size
  have HQ := Lib.hid hq
  clear o1 hc b1 hq HC
  have hz1 : w.heap.size < w1.heap.size := by omega
  have hne : v.ownBlock = none ∨ v.ownBlock ≠ some w.heap.size := by
    cases hu : v.ownBlock with
    | none => exact .inl rfl
    | some j => exact .inr (fun e => by have := (HO.out.lt j hu).1; have := Option.some.inj e; omega)
  go_wp2_with fail
  refine (gripOf_any w.heap.size w.heap.size (0 + 500) w0.heap.size v l w1 Cw1.out (by omega) HO.out (by omega) hl HQ.out).mono ?_
  rintro e w2 ⟨n, rfl, hbn, hc, hg⟩
  have Cw2 := Lib.hid hc
  have Gw2 := Lib.hid hg
  have hsw2 := hg.size
  clear hc hg
  have Tw2 := Gw2
  have hzw2 : w.heap.size < w2.heap.size := by omega
  go_wp2_with fail
  refine (pick_any w.heap.size w.heap.size (0 + 500 + 4) 24 _ (Cw2.out.alloc _) (by omega) (by omega) (by omega)).mono ?_
  rintro e w3 ⟨rf, rfl, hr, hc, hg⟩
  have Cw3 := Lib.hid hc
  have Gw3 := Lib.hid hg
  have hsw3 := hg.size
  simp at hsw3
  clear hc hg
  obtain ⟨cf, nf, hn, t1, s1, s2⟩ := sel3 rf hr
  clear hr
  go_wp2_with fail
  refine (among_any w.heap.size w.heap.size (0 + 500 + 4 + 2) w2.heap.size nf _ ([0, 300, 5000, -1, 5001].take nf) w3 Cw3.out (by omega) (by rw [List.length_take]; simp; omega) (by omega) (by omega) (by omega) (num_part w2 3 [0, 300, 5000, -1, 5001] nf _ rfl w3 w.heap.size Gw3.out (by omega))).mono ?_
  rintro e w4 ⟨f, hx, rfl, hc, hg⟩
  have hbf : -1 ≤ f ∧ f ≤ 5001 := by have h := List.mem_of_mem_take hx; simp at h; omega
  have Cw4 := Lib.hid hc
  have Gw4 := Lib.hid (grown_trans (grown_trans (World.grownBy_alloc w2 (.cells #[.int .i64 0, .int .i64 300, .int .i64 5000, .int .i64 (-1), .int .i64 5001] 3) (some w.heap.size)) Gw3.out) hg)
  have hsw4 := hg.size
  clear hc hg hx hn t1 s1 s2 Cw3 Gw3
  have Tw4 := Lib.hid (grown_trans Tw2.out Gw4.out)
  have hzw4 : w.heap.size < w4.heap.size := by omega
  go_wp2_with fail
  refine (among_any w.heap.size w.heap.size (0 + 500 + 4 + 2 + 2) w4.heap.size 5 5 [0, 100, 200, 9999, 10000] _ (Cw4.out.alloc _) (by omega) rfl (by omega) (by omega) (by omega) (num_cells w4 3 [0, 100, 200, 9999, 10000] _ rfl)).mono ?_
  rintro e w5 ⟨d, hx, rfl, hc, hg⟩
  have hbd : 0 ≤ d ∧ d ≤ 10000 := by simp at hx; omega
  have Cw5 := Lib.hid hc
  have Gw5 := Lib.hid (grown_trans (World.grownBy_alloc w4 (.cells #[.int .i64 0, .int .i64 100, .int .i64 200, .int .i64 9999, .int .i64 10000] 3) (some w.heap.size)) hg)
  have hsw5 := hg.size
  simp at hsw5
  clear hc hg hx
  have Tw5 := Lib.hid (grown_trans Tw4.out Gw5.out)
  have hzw5 : w.heap.size < w5.heap.size := by omega
  have HR := Lib.hid (Rs.of_own (HO.out.kept Tw5.out hne))
  have HB9 := Lib.hid (HB.out.trans (grown_below Tw5.out (by omega) (fun k hk => by cases hk; exact Nat.le_refl _)))
  go_wp2_with fail
  refine bodyPost_ret (results_tmp4 rfl _ _ _) rfl ?_
  exact ⟨v, l, n, f, d, rfl, HR.out, hl, hbn, hbf, hbd, HB9.out⟩
def DduPost (w : World) (e : Ending) (w' : World) : Prop := ∃ (v : Value) (l : List Grp) (d : Int), e = .returned (.tuple #[v, .int .i64 d]) ∧ Rs w' v l.length (grps l) ∧ l.length ≤ 13 ∧ (-1 ≤ d ∧ d ≤ 10000) ∧ Below w.heap.size w w'
set_option maxRecDepth 100000 in
set_option maxHeartbeats 1000000 in
theorem DrawDueTests_any (a : Option Addr) (len cap : Nat) (w : World) (h : ByteRow w a len) :
    Calls Try.prog 31 #[.slice a len cap] w (DduPost w) := by
  have HC := Lib.hid (cur_new (cap := cap) h 79)
  have HB0 := Lib.hid ((Below.refl w.heap.size w).alloc (Nat.le_refl _) (.cells #[.slice a len cap, .int .i64 0, .int .u64 0] 79))
  have hs0 : (w.alloc (.cells #[.slice a len cap, .int .i64 0, .int .u64 0] 79)).heap.size = w.heap.size + 1 := by simp
  clear h
  go_enter Try.func31, Try.ntmps31
  go_upto_region 2 with fail
  generalize hw0 : w.alloc (.cells #[.slice a len cap, .int .i64 0, .int .u64 0] 79) = w0 at *
  clear hw0
  go_wp2_with fail
  refine (grips_any w.heap.size w.heap.size 0 w0 HC.out (by omega)).mono ?_
  rintro e w1 ⟨v, l, rfl, o1, hl, hc, b1, hq⟩
  have HO := Lib.hid o1
  have HB := Lib.hid (HB0.out.trans b1)
  have Cw1 := Lib.hid hc
  have hs1 := b1.size
  have HQ := Lib.hid hq
  clear o1 hc b1 hq HC
  have hz1 : w.heap.size < w1.heap.size := by omega
  have hne : v.ownBlock = none ∨ v.ownBlock ≠ some w.heap.size := by
    cases hu : v.ownBlock with
    | none => exact .inl rfl
    | some j => exact .inr (fun e => by have := (HO.out.lt j hu).1; have := Option.some.inj e; omega)
  go_wp2_with fail
  refine (pick_any w.heap.size w.heap.size (0 + 500) 24 _ (Cw1.out.alloc _) (by omega) (by omega) (by omega)).mono ?_
  rintro e w2 ⟨rd, rfl, hr, hc, hg⟩
  have Cw2 := Lib.hid hc
  have Gw2 := Lib.hid hg
  have hsw2 := hg.size
  simp at hsw2
  clear hc hg
  obtain ⟨cd, nd, hn, t1, s1, s2⟩ := sel6 rd hr
  clear hr
  go_wp2_with fail
  refine (among_any w.heap.size w.heap.size (0 + 500 + 2) w1.heap.size nd _ ([110, 190, 191, 9999, 9999, 50, -1, 10000].take nd) w2 Cw2.out (by omega) (by rw [List.length_take]; simp; omega) (by omega) (by omega) (by omega) (num_part w1 3 [110, 190, 191, 9999, 9999, 50, -1, 10000] nd _ rfl w2 w.heap.size Gw2.out (by omega))).mono ?_
  rintro e w3 ⟨d, hx, rfl, hc, hg⟩
  have hbd : -1 ≤ d ∧ d ≤ 10000 := by have h := List.mem_of_mem_take hx; simp at h; omega
  have Cw3 := Lib.hid hc
  have Gw3 := Lib.hid (grown_trans (grown_trans (World.grownBy_alloc w1 (.cells #[.int .i64 110, .int .i64 190, .int .i64 191, .int .i64 9999, .int .i64 9999, .int .i64 50, .int .i64 (-1), .int .i64 10000] 3) (some w.heap.size)) Gw2.out) hg)
  have hsw3 := hg.size
  clear hc hg hx hn t1 s1 s2 Cw2 Gw2
  have Tw3 := Gw3
  have hzw3 : w.heap.size < w3.heap.size := by omega
  have HR := Lib.hid (Rs.of_own (HO.out.kept Tw3.out hne))
  have HB9 := Lib.hid (HB.out.trans (grown_below Tw3.out (by omega) (fun k hk => by cases hk; exact Nat.le_refl _)))
  go_wp2_with fail
  go_ret2
  exact ⟨v, l, d, rfl, HR.out, hl, hbd, HB9.out⟩
def DogPost (w : World) (e : Ending) (w' : World) : Prop := ∃ (v : Value) (l : List Grp) (n : Int) (t : Int), e = .returned (.tuple #[v, .int .i64 n, .int .i64 t]) ∧ Rs w' v l.length (grps l) ∧ l.length ≤ 13 ∧ (-10 ≤ n ∧ n ≤ 200) ∧ (-1 ≤ t ∧ t ≤ 100) ∧ Below w.heap.size w w'
set_option maxRecDepth 100000 in
set_option maxHeartbeats 1000000 in
theorem DrawOpenGrip_any (a : Option Addr) (len cap : Nat) (w : World) (h : ByteRow w a len) :
    Calls Try.prog 37 #[.slice a len cap] w (DogPost w) := by
  have HC := Lib.hid (cur_new (cap := cap) h 79)
  have HB0 := Lib.hid ((Below.refl w.heap.size w).alloc (Nat.le_refl _) (.cells #[.slice a len cap, .int .i64 0, .int .u64 0] 79))
  have hs0 : (w.alloc (.cells #[.slice a len cap, .int .i64 0, .int .u64 0] 79)).heap.size = w.heap.size + 1 := by simp
  clear h
  go_enter Try.func37, Try.ntmps37
  go_upto_region 2 with fail
  generalize hw0 : w.alloc (.cells #[.slice a len cap, .int .i64 0, .int .u64 0] 79) = w0 at *
  clear hw0
  go_wp2_with fail
  refine (grips_any w.heap.size w.heap.size 0 w0 HC.out (by omega)).mono ?_
  rintro e w1 ⟨v, l, rfl, o1, hl, hc, b1, hq⟩
  have HO := Lib.hid o1
  have HB := Lib.hid (HB0.out.trans b1)
  have Cw1 := Lib.hid hc
  have hs1 := b1.size
  have HQ := Lib.hid hq
  clear o1 hc b1 hq HC
  have hz1 : w.heap.size < w1.heap.size := by omega
  have hne : v.ownBlock = none ∨ v.ownBlock ≠ some w.heap.size := by
    cases hu : v.ownBlock with
    | none => exact .inl rfl
    | some j => exact .inr (fun e => by have := (HO.out.lt j hu).1; have := Option.some.inj e; omega)
  go_wp2_with fail
  refine (gripOf_any w.heap.size w.heap.size (0 + 500) w0.heap.size v l w1 Cw1.out (by omega) HO.out (by omega) hl HQ.out).mono ?_
  rintro e w2 ⟨n, rfl, hbn, hc, hg⟩
  have Cw2 := Lib.hid hc
  have Gw2 := Lib.hid hg
  have hsw2 := hg.size
  clear hc hg
  have Tw2 := Gw2
  have hzw2 : w.heap.size < w2.heap.size := by omega
  go_wp2_with fail
  refine (pick_any w.heap.size w.heap.size (0 + 500 + 4) 24 _ (Cw2.out.alloc _) (by omega) (by omega) (by omega)).mono ?_
  rintro e w3 ⟨rt, rfl, hr, hc, hg⟩
  have Cw3 := Lib.hid hc
  have Gw3 := Lib.hid hg
  have hsw3 := hg.size
  simp at hsw3
  clear hc hg
  obtain ⟨ct, nt, hn, t1, s1, s2⟩ := sel4 rt hr
  clear hr
  go_wp2_with fail
  refine (among_any w.heap.size w.heap.size (0 + 500 + 4 + 2) w2.heap.size nt _ ([0, 1, 30, 99, -1, 100].take nt) w3 Cw3.out (by omega) (by rw [List.length_take]; simp; omega) (by omega) (by omega) (by omega) (num_part w2 3 [0, 1, 30, 99, -1, 100] nt _ rfl w3 w.heap.size Gw3.out (by omega))).mono ?_
  rintro e w4 ⟨t, hx, rfl, hc, hg⟩
  have hbt : -1 ≤ t ∧ t ≤ 100 := by have h := List.mem_of_mem_take hx; simp at h; omega
  have Cw4 := Lib.hid hc
  have Gw4 := Lib.hid (grown_trans (grown_trans (World.grownBy_alloc w2 (.cells #[.int .i64 0, .int .i64 1, .int .i64 30, .int .i64 99, .int .i64 (-1), .int .i64 100] 3) (some w.heap.size)) Gw3.out) hg)
  have hsw4 := hg.size
  clear hc hg hx hn t1 s1 s2 Cw3 Gw3
  have Tw4 := Lib.hid (grown_trans Tw2.out Gw4.out)
  have hzw4 : w.heap.size < w4.heap.size := by omega
  have HR := Lib.hid (Rs.of_own (HO.out.kept Tw4.out hne))
  have HB9 := Lib.hid (HB.out.trans (grown_below Tw4.out (by omega) (fun k hk => by cases hk; exact Nat.le_refl _)))
  go_wp2_with fail
  go_ret3
  exact ⟨v, l, n, t, rfl, HR.out, hl, hbn, hbt, HB9.out⟩
def DshPost (w : World) (e : Ending) (w' : World) : Prop := ∃ (x : Grp) (y : Int), e = .returned (.tuple #[x.agg, .int .i64 y]) ∧ GrpB x ∧ (99 ≤ y ∧ y ≤ 4001) ∧ Below w.heap.size w w'
set_option maxRecDepth 100000 in
set_option maxHeartbeats 4000000 in
theorem DrawSteepestHeld_any (a : Option Addr) (len cap : Nat) (w : World) (h : ByteRow w a len) :
    Calls Try.prog 16 #[.slice a len cap] w (DshPost w) := by
  have h1 := h.below ((Below.refl _ _).alloc (Nat.le_refl _) (.cells #[.int .i64 0, .int .i64 0, .int .i64 0, .int .i64 0, .int .i64 0] 25))
  have C0 := Lib.hid (cur_at (cap := cap) h1 79 (n := w.heap.size + 1) (by simp))
  have K0 := Lib.hid (old_allocD (o' := .cells #[.slice a len cap, .int .i64 0, .int .u64 0] 79) (heap_alloc_new w (.cells #[.int .i64 0, .int .i64 0, .int .i64 0, .int .i64 0, .int .i64 0] 25)))
  have B0 := Lib.hid (((Below.refl w.heap.size w).alloc (Nat.le_refl _) (.cells #[.int .i64 0, .int .i64 0, .int .i64 0, .int .i64 0, .int .i64 0] 25)).alloc (by simp; try omega) (.cells #[.slice a len cap, .int .i64 0, .int .u64 0] 79))
  have hz : ((w.alloc (.cells #[.int .i64 0, .int .i64 0, .int .i64 0, .int .i64 0, .int .i64 0] 25)).alloc (.cells #[.slice a len cap, .int .i64 0, .int .u64 0] 79)).heap.size = w.heap.size + 2 := by simp
  clear h h1
  go_enter Try.func16, Try.ntmps16
  go_upto_region 2 with fail
  generalize hw0 : (w.alloc (.cells #[.int .i64 0, .int .i64 0, .int .i64 0, .int .i64 0, .int .i64 0] 25)).alloc (.cells #[.slice a len cap, .int .i64 0, .int .u64 0] 79) = w0 at *
  clear hw0
  have hb0 := B0.out.size
  go_wp2_with fail
  refine (grip_any _ _ (0) 5 w0 C0.out (by omega) (by omega)).mono ?_
  rintro e w1 ⟨x, rfl, hx, hc, hg⟩
  have K1 := Lib.hid (keepD hg (by omega) K0.out)
  have G1 := Lib.hid hg
  have C1 := Lib.hid hc
  clear hc hg
  unfold Grp.agg
  go_wp2_with fail
  refine (load7_any _ _ (0 + 20) w1 C1.out (by omega)).mono ?_
  rintro e w2 ⟨y, rfl, hby, hc, hg⟩
  have K2 := Lib.hid (keepD hg (by omega) K1.out)
  have G2 := Lib.hid (grown_trans G1.out hg)
  have C2 := Lib.hid hc
  clear hc hg
  have KK := K2.out
  have BB := Lib.hid (B0.out.trans (grown_below G2.out (by omega) (fun k hk => by cases hk; omega)))
  have c0 := cell_of_row w2 w.heap.size 0 _ _ _ KK
  have c1 := cell_of_row w2 w.heap.size 1 _ _ _ KK
  have c2 := cell_of_row w2 w.heap.size 2 _ _ _ KK
  have c3 := cell_of_row w2 w.heap.size 3 _ _ _ KK
  have c4 := cell_of_row w2 w.heap.size 4 _ _ _ KK
  have d0 := frozen_of_row w2 w.heap.size 0 _ _ KK
  have d1 := frozen_of_row w2 w.heap.size 1 _ _ KK
  have d2 := frozen_of_row w2 w.heap.size 2 _ _ KK
  have d3 := frozen_of_row w2 w.heap.size 3 _ _ KK
  have d4 := frozen_of_row w2 w.heap.size 4 _ _ KK
  have s0 := blk_setD (i := 0) (v := .int .i64 x.i) KK
  have z0 := cell_of_row _ w.heap.size 0 _ _ _ s0
  have s1 := blk_setD (i := 1) (v := .int .i64 x.s) s0
  have z1 := cell_of_row _ w.heap.size 1 _ _ _ s1
  have s2 := blk_setD (i := 2) (v := .int .i64 x.w) s1
  have z2 := cell_of_row _ w.heap.size 2 _ _ _ s2
  have s3 := blk_setD (i := 3) (v := .int .i64 x.g) s2
  have z3 := cell_of_row _ w.heap.size 3 _ _ _ s3
  have s4 := blk_setD (i := 4) (v := .int .i64 x.p) s3
  have z4 := cell_of_row _ w.heap.size 4 _ _ _ s4
  simp at c0 c1 c2 c3 c4 z0 z1 z2 z3 z4
  have Z0 := Lib.hid z0
  have Z1 := Lib.hid z1
  have Z2 := Lib.hid z2
  have Z3 := Lib.hid z3
  have Z4 := Lib.hid z4
  clear z0 z1 z2 z3 z4 KK s0 s1 s2 s3 s4
  go_wp2
  refine bodyPost_ret (v := .tuple #[.agg #[.int .i64 x.i, .int .i64 x.s, .int .i64 x.w, .int .i64 x.g, .int .i64 x.p], .int .i64 y]) (by simp [results, Try.results16, go_sem, Z0.out, Z1.out, Z2.out, Z3.out, Z4.out]) rfl ⟨x, y, rfl, hx, hby, ?_⟩
  exact ((((BB.out.setCell (Nat.le_refl _) _).setCell (Nat.le_refl _) _).setCell (Nat.le_refl _) _).setCell (Nat.le_refl _) _).setCell (Nat.le_refl _) _
def DdhPost (w : World) (e : Ending) (w' : World) : Prop := ∃ (x : Grp) (y : Int) (z : Int), e = .returned (.tuple #[x.agg, .int .i64 y, .int .i64 z]) ∧ GrpB x ∧ (99 ≤ y ∧ y ≤ 4001) ∧ (-1 ≤ z ∧ z ≤ 101) ∧ Below w.heap.size w w'
set_option maxRecDepth 100000 in
set_option maxHeartbeats 4000000 in
theorem DrawDoesHold_any (a : Option Addr) (len cap : Nat) (w : World) (h : ByteRow w a len) :
    Calls Try.prog 20 #[.slice a len cap] w (DdhPost w) := by
  have h1 := h.below ((Below.refl _ _).alloc (Nat.le_refl _) (.cells #[.int .i64 0, .int .i64 0, .int .i64 0, .int .i64 0, .int .i64 0] 25))
  have C0 := Lib.hid (cur_at (cap := cap) h1 79 (n := w.heap.size + 1) (by simp))
  have K0 := Lib.hid (old_allocD (o' := .cells #[.slice a len cap, .int .i64 0, .int .u64 0] 79) (heap_alloc_new w (.cells #[.int .i64 0, .int .i64 0, .int .i64 0, .int .i64 0, .int .i64 0] 25)))
  have B0 := Lib.hid (((Below.refl w.heap.size w).alloc (Nat.le_refl _) (.cells #[.int .i64 0, .int .i64 0, .int .i64 0, .int .i64 0, .int .i64 0] 25)).alloc (by simp; try omega) (.cells #[.slice a len cap, .int .i64 0, .int .u64 0] 79))
  have hz : ((w.alloc (.cells #[.int .i64 0, .int .i64 0, .int .i64 0, .int .i64 0, .int .i64 0] 25)).alloc (.cells #[.slice a len cap, .int .i64 0, .int .u64 0] 79)).heap.size = w.heap.size + 2 := by simp
  clear h h1
  go_enter Try.func20, Try.ntmps20
  go_upto_region 2 with fail
  generalize hw0 : (w.alloc (.cells #[.int .i64 0, .int .i64 0, .int .i64 0, .int .i64 0, .int .i64 0] 25)).alloc (.cells #[.slice a len cap, .int .i64 0, .int .u64 0] 79) = w0 at *
  clear hw0
  have hb0 := B0.out.size
  go_wp2_with fail
  refine (grip_any _ _ (0) 5 w0 C0.out (by omega) (by omega)).mono ?_
  rintro e w1 ⟨x, rfl, hx, hc, hg⟩
  have K1 := Lib.hid (keepD hg (by omega) K0.out)
  have G1 := Lib.hid hg
  have C1 := Lib.hid hc
  clear hc hg
  unfold Grp.agg
  go_wp2_with fail
  refine (load7_any _ _ (0 + 20) w1 C1.out (by omega)).mono ?_
  rintro e w2 ⟨y, rfl, hby, hc, hg⟩
  have K2 := Lib.hid (keepD hg (by omega) K1.out)
  have G2 := Lib.hid (grown_trans G1.out hg)
  have C2 := Lib.hid hc
  clear hc hg
  go_wp2_with fail
  refine (slope7_any _ _ (0 + 20 + 4) w2 C2.out (by omega)).mono ?_
  rintro e w3 ⟨z, rfl, hbz, hc, hg⟩
  have K3 := Lib.hid (keepD hg (by omega) K2.out)
  have G3 := Lib.hid (grown_trans G2.out hg)
  have C3 := Lib.hid hc
  clear hc hg
  have KK := K3.out
  have BB := Lib.hid (B0.out.trans (grown_below G3.out (by omega) (fun k hk => by cases hk; omega)))
  have c0 := cell_of_row w3 w.heap.size 0 _ _ _ KK
  have c1 := cell_of_row w3 w.heap.size 1 _ _ _ KK
  have c2 := cell_of_row w3 w.heap.size 2 _ _ _ KK
  have c3 := cell_of_row w3 w.heap.size 3 _ _ _ KK
  have c4 := cell_of_row w3 w.heap.size 4 _ _ _ KK
  have d0 := frozen_of_row w3 w.heap.size 0 _ _ KK
  have d1 := frozen_of_row w3 w.heap.size 1 _ _ KK
  have d2 := frozen_of_row w3 w.heap.size 2 _ _ KK
  have d3 := frozen_of_row w3 w.heap.size 3 _ _ KK
  have d4 := frozen_of_row w3 w.heap.size 4 _ _ KK
  have s0 := blk_setD (i := 0) (v := .int .i64 x.i) KK
  have z0 := cell_of_row _ w.heap.size 0 _ _ _ s0
  have s1 := blk_setD (i := 1) (v := .int .i64 x.s) s0
  have z1 := cell_of_row _ w.heap.size 1 _ _ _ s1
  have s2 := blk_setD (i := 2) (v := .int .i64 x.w) s1
  have z2 := cell_of_row _ w.heap.size 2 _ _ _ s2
  have s3 := blk_setD (i := 3) (v := .int .i64 x.g) s2
  have z3 := cell_of_row _ w.heap.size 3 _ _ _ s3
  have s4 := blk_setD (i := 4) (v := .int .i64 x.p) s3
  have z4 := cell_of_row _ w.heap.size 4 _ _ _ s4
  simp at c0 c1 c2 c3 c4 z0 z1 z2 z3 z4
  have Z0 := Lib.hid z0
  have Z1 := Lib.hid z1
  have Z2 := Lib.hid z2
  have Z3 := Lib.hid z3
  have Z4 := Lib.hid z4
  clear z0 z1 z2 z3 z4 KK s0 s1 s2 s3 s4
  go_wp2
  refine bodyPost_ret (v := .tuple #[.agg #[.int .i64 x.i, .int .i64 x.s, .int .i64 x.w, .int .i64 x.g, .int .i64 x.p], .int .i64 y, .int .i64 z]) (by simp [results, Try.results20, go_sem, Z0.out, Z1.out, Z2.out, Z3.out, Z4.out]) rfl ⟨x, y, z, rfl, hx, hby, hbz, ?_⟩
  exact ((((BB.out.setCell (Nat.le_refl _) _).setCell (Nat.le_refl _) _).setCell (Nat.le_refl _) _).setCell (Nat.le_refl _) _).setCell (Nat.le_refl _) _
def DigPost (w : World) (e : Ending) (w' : World) : Prop := ∃ (x : Grp), e = .returned (x.agg) ∧ GrpB x ∧ Below w.heap.size w w'
set_option maxRecDepth 100000 in
set_option maxHeartbeats 4000000 in
theorem DrawIsGrip_any (a : Option Addr) (len cap : Nat) (w : World) (h : ByteRow w a len) :
    Calls Try.prog 43 #[.slice a len cap] w (DigPost w) := by
  have h1 := h.below ((Below.refl _ _).alloc (Nat.le_refl _) (.cells #[.int .i64 0, .int .i64 0, .int .i64 0, .int .i64 0, .int .i64 0] 25))
  have C0 := Lib.hid (cur_at (cap := cap) h1 79 (n := w.heap.size + 1) (by simp))
  have K0 := Lib.hid (old_allocD (o' := .cells #[.slice a len cap, .int .i64 0, .int .u64 0] 79) (heap_alloc_new w (.cells #[.int .i64 0, .int .i64 0, .int .i64 0, .int .i64 0, .int .i64 0] 25)))
  have B0 := Lib.hid (((Below.refl w.heap.size w).alloc (Nat.le_refl _) (.cells #[.int .i64 0, .int .i64 0, .int .i64 0, .int .i64 0, .int .i64 0] 25)).alloc (by simp; try omega) (.cells #[.slice a len cap, .int .i64 0, .int .u64 0] 79))
  have hz : ((w.alloc (.cells #[.int .i64 0, .int .i64 0, .int .i64 0, .int .i64 0, .int .i64 0] 25)).alloc (.cells #[.slice a len cap, .int .i64 0, .int .u64 0] 79)).heap.size = w.heap.size + 2 := by simp
  clear h h1
  go_enter Try.func43, Try.ntmps43
  go_upto_region 2 with fail
  generalize hw0 : (w.alloc (.cells #[.int .i64 0, .int .i64 0, .int .i64 0, .int .i64 0, .int .i64 0] 25)).alloc (.cells #[.slice a len cap, .int .i64 0, .int .u64 0] 79) = w0 at *
  clear hw0
  have hb0 := B0.out.size
  go_wp2_with fail
  refine (among_any _ _ 0 (w.heap.size + 2) 3 3 [1, 42, 99] _ (C0.out.alloc _) (by omega) rfl (by omega) (by omega) (by omega) (num_cells1 w0 3 [1, 42, 99] _ rfl _ hz.symm)).mono ?_
  rintro e w1 ⟨id, hx, rfl, hc, hg⟩
  have hid : -10 ≤ id ∧ id ≤ 200 := by simp at hx; omega
  have K1 := Lib.hid (keepD hg (by omega) (old_allocD (o' := .cells #[.int .i64 1, .int .i64 42, .int .i64 99] 3) K0.out))
  have G1 := Lib.hid (grown_trans (World.grownBy_alloc w0 (.cells #[.int .i64 1, .int .i64 42, .int .i64 99] 3) (some (w.heap.size + 1))) hg)
  have C1 := Lib.hid hc
  clear hc hg hx
  go_wp2_with fail
  refine (grip_any _ _ (0 + 2) id w1 C1.out (by omega) hid).mono ?_
  rintro e w2 ⟨x, rfl, hx, hc, hg⟩
  have K2 := Lib.hid (keepD hg (by omega) K1.out)
  have G2 := Lib.hid (grown_trans G1.out hg)
  have C2 := Lib.hid hc
  clear hc hg
  unfold Grp.agg
  have KK := K2.out
  have BB := Lib.hid (B0.out.trans (grown_below G2.out (by omega) (fun k hk => by cases hk; omega)))
  have c0 := cell_of_row w2 w.heap.size 0 _ _ _ KK
  have c1 := cell_of_row w2 w.heap.size 1 _ _ _ KK
  have c2 := cell_of_row w2 w.heap.size 2 _ _ _ KK
  have c3 := cell_of_row w2 w.heap.size 3 _ _ _ KK
  have c4 := cell_of_row w2 w.heap.size 4 _ _ _ KK
  have d0 := frozen_of_row w2 w.heap.size 0 _ _ KK
  have d1 := frozen_of_row w2 w.heap.size 1 _ _ KK
  have d2 := frozen_of_row w2 w.heap.size 2 _ _ KK
  have d3 := frozen_of_row w2 w.heap.size 3 _ _ KK
  have d4 := frozen_of_row w2 w.heap.size 4 _ _ KK
  have s0 := blk_setD (i := 0) (v := .int .i64 x.i) KK
  have z0 := cell_of_row _ w.heap.size 0 _ _ _ s0
  have s1 := blk_setD (i := 1) (v := .int .i64 x.s) s0
  have z1 := cell_of_row _ w.heap.size 1 _ _ _ s1
  have s2 := blk_setD (i := 2) (v := .int .i64 x.w) s1
  have z2 := cell_of_row _ w.heap.size 2 _ _ _ s2
  have s3 := blk_setD (i := 3) (v := .int .i64 x.g) s2
  have z3 := cell_of_row _ w.heap.size 3 _ _ _ s3
  have s4 := blk_setD (i := 4) (v := .int .i64 x.p) s3
  have z4 := cell_of_row _ w.heap.size 4 _ _ _ s4
  simp at c0 c1 c2 c3 c4 z0 z1 z2 z3 z4
  have Z0 := Lib.hid z0
  have Z1 := Lib.hid z1
  have Z2 := Lib.hid z2
  have Z3 := Lib.hid z3
  have Z4 := Lib.hid z4
  clear z0 z1 z2 z3 z4 KK s0 s1 s2 s3 s4
  go_wp2
  refine bodyPost_ret (v := .agg #[.int .i64 x.i, .int .i64 x.s, .int .i64 x.w, .int .i64 x.g, .int .i64 x.p]) (by simp [results, Try.results43, go_sem, Z0.out, Z1.out, Z2.out, Z3.out, Z4.out]) rfl ⟨x, rfl, hx, ?_⟩
  exact ((((BB.out.setCell (Nat.le_refl _) _).setCell (Nat.le_refl _) _).setCell (Nat.le_refl _) _).setCell (Nat.le_refl _) _).setCell (Nat.le_refl _) _
end Go.Proofs.Ytiogjocbiagipaa
