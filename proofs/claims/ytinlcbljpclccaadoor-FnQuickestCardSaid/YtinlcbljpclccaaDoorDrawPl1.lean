/- The draws of one platform. Condition: sizes. -/
import Derived.Test.YtinlcbljpclccaaDoorDrawPlt
import Derived.Test.YtinlcbljpclccaaDoorDrawKit
import Derived.Test.YtinlcbljpclccaaDoorBig
import Derived.Test.YtinlcbljpclccaaDoorBpE
import Derived.Deep.DeepCutAuto
namespace Go.Proofs.YtinlcbljpclccaaDoor
open Go.RowKit
set_option linter.unusedVariables false
/-- What drawing a platform leaves. -/
def DiPost (w : World) (e : Ending) (w' : World) : Prop := ∃ x : Plt, e = .returned (.agg #[.int .i64 x.d, .int .i64 x.s, .int .i64 x.i, .int .i64 x.w, .bool x.l, .int .i64 x.g]) ∧ Below w.heap.size w w'
set_option maxRecDepth 100000 in
set_option maxHeartbeats 2000000 in
theorem DrawIsPlatform_any (a : Option Addr) (len cap : Nat) (w : World) (h : ByteRow w a len) :
    Calls Tryd.prog 20 #[.slice a len cap] w (DiPost w) := by
  have B1 := (Below.refl w.heap.size w).alloc (Nat.le_refl _) (.cells #[.int .i64 0, .int .i64 0, .int .i64 0, .int .i64 0, .bool false, .int .i64 0] 25)
  have R0 := Lib.hid (heap_alloc_new w (.cells #[.int .i64 0, .int .i64 0, .int .i64 0, .int .i64 0, .bool false, .int .i64 0] 25))
  have hs0 : (w.alloc (.cells #[.int .i64 0, .int .i64 0, .int .i64 0, .int .i64 0, .bool false, .int .i64 0] 25)).heap.size = w.heap.size + 1 := by simp
  have C0 := Lib.hid (cur_at (cap := cap) (h.below B1) 55 (n := w.heap.size + 1) (by first | rfl | simp))
  have T0 := Lib.hid (B1.alloc B1.size (.cells #[.slice a len cap, .int .i64 0, .int .u64 0] 55))
  have R0 := Lib.hid (blk_stay (o' := .cells #[.slice a len cap, .int .i64 0, .int .u64 0] 55) R0.out)
  have hs1 : ((w.alloc (.cells #[.int .i64 0, .int .i64 0, .int .i64 0, .int .i64 0, .bool false, .int .i64 0] 25)).alloc (.cells #[.slice a len cap, .int .i64 0, .int .u64 0] 55)).heap.size = w.heap.size + 2 := by simp
  clear h B1 hs0
  go_enter Tryd.func20, Tryd.ntmps20
  go_upto_region 2 with fail
  generalize (w.alloc (.cells #[.int .i64 0, .int .i64 0, .int .i64 0, .int .i64 0, .bool false, .int .i64 0] 25)).alloc (.cells #[.slice a len cap, .int .i64 0, .int .u64 0] 55) = w0 at *
  obtain ⟨b, hb⟩ : ∃ b, b = w.heap.size + 1 := ⟨_, rfl⟩
  rw [← hb] at C0 ⊢
  have hbR : w.heap.size ≠ b := by omega
  have hbl : w.heap.size ≤ b := by omega
  have hb0 : b < w0.heap.size := by omega
  clear hb hs1
  go_wp2_with fail
  refine (platform_any b b 0 w0 C0.out (by omega)).mono ?_
  rintro e w1 ⟨x, rfl, hc, hg⟩
  have T1 := Lib.hid (T0.out.trans (grown_below hg (by have := T0.out.size; omega) (fun j hj => by cases hj; omega)))
  have R1 := Lib.hid (grow_other hg R0.out (fun e => hbR (Option.some.inj e).symm))
  clear hc hg R0 C0 T0 hbR hbl hb0
  unfold Plt.agg
  have hlR := blk_lt R1.out
  obtain ⟨d0, d1, d2, d3, d4, d5⟩ := blk_cell6 R1.out
  obtain ⟨m0, m1, m2, m3, m4, m5⟩ := blk_froz6 R1.out
  obtain ⟨z0, z1, z2, z3, z4, z5⟩ := blk_cell6 (blk_all6 (x0 := .int .i64 x.d) (x1 := .int .i64 x.s) (x2 := .int .i64 x.i) (x3 := .int .i64 x.w) (x4 := .bool x.l) (x5 := .int .i64 x.g) R1.out)
  have Z0 := Lib.hid z0
  have Z1 := Lib.hid z1
  have Z2 := Lib.hid z2
  have Z3 := Lib.hid z3
  have Z4 := Lib.hid z4
  have Z5 := Lib.hid z5
  clear z0 z1 z2 z3 z4 z5
  have TF := Lib.hid (below_all6 T1.out (Nat.le_refl _) (.int .i64 x.d) (.int .i64 x.s) (.int .i64 x.i) (.int .i64 x.w) (.bool x.l) (.int .i64 x.g))
  go_wp2
  refine bodyPost_ret (v := .agg #[.int .i64 x.d, .int .i64 x.s, .int .i64 x.i, .int .i64 x.w, .bool x.l, .int .i64 x.g]) (by simp [results, Tryd.results20, go_sem, Z0.out, Z1.out, Z2.out, Z3.out, Z4.out, Z5.out]) rfl ⟨x, rfl, TF.out⟩
set_option maxRecDepth 100000 in
set_option maxHeartbeats 2000000 in
theorem DrawMostEntering_any (a : Option Addr) (len cap : Nat) (w : World) (h : ByteRow w a len) :
    Calls Tryd.prog 11 #[.slice a len cap] w (DiPost w) := by
  have B1 := (Below.refl w.heap.size w).alloc (Nat.le_refl _) (.cells #[.int .i64 0, .int .i64 0, .int .i64 0, .int .i64 0, .bool false, .int .i64 0] 25)
  have R0 := Lib.hid (heap_alloc_new w (.cells #[.int .i64 0, .int .i64 0, .int .i64 0, .int .i64 0, .bool false, .int .i64 0] 25))
  have hs0 : (w.alloc (.cells #[.int .i64 0, .int .i64 0, .int .i64 0, .int .i64 0, .bool false, .int .i64 0] 25)).heap.size = w.heap.size + 1 := by simp
  have E0 := Lib.hid (DrawIsPlatform_any a len cap _ (h.below B1))
  have T0 := Lib.hid B1
  clear h B1 hs0
  go_enter Tryd.func11, Tryd.ntmps11
  go_upto_region 1 with fail
  generalize w.alloc (.cells #[.int .i64 0, .int .i64 0, .int .i64 0, .int .i64 0, .bool false, .int .i64 0] 25) = w0 at *
  go_wp2_with fail
  refine (E0.out).mono ?_
  rintro e w1 ⟨x, rfl, t⟩
  have T1 := Lib.hid (T0.out.trans (t.mono T0.out.size))
  have R1 := Lib.hid (blk_kept R0.out t)
  clear t R0 T0 E0
  have hlR := blk_lt R1.out
  obtain ⟨d0, d1, d2, d3, d4, d5⟩ := blk_cell6 R1.out
  obtain ⟨m0, m1, m2, m3, m4, m5⟩ := blk_froz6 R1.out
  obtain ⟨z0, z1, z2, z3, z4, z5⟩ := blk_cell6 (blk_all6 (x0 := .int .i64 x.d) (x1 := .int .i64 x.s) (x2 := .int .i64 x.i) (x3 := .int .i64 x.w) (x4 := .bool x.l) (x5 := .int .i64 x.g) R1.out)
  have Z0 := Lib.hid z0
  have Z1 := Lib.hid z1
  have Z2 := Lib.hid z2
  have Z3 := Lib.hid z3
  have Z4 := Lib.hid z4
  have Z5 := Lib.hid z5
  clear z0 z1 z2 z3 z4 z5
  have TF := Lib.hid (below_all6 T1.out (Nat.le_refl _) (.int .i64 x.d) (.int .i64 x.s) (.int .i64 x.i) (.int .i64 x.w) (.bool x.l) (.int .i64 x.g))
  go_wp2
  refine bodyPost_ret (v := .agg #[.int .i64 x.d, .int .i64 x.s, .int .i64 x.i, .int .i64 x.w, .bool x.l, .int .i64 x.g]) (by simp [results, Tryd.results11, go_sem, Z0.out, Z1.out, Z2.out, Z3.out, Z4.out, Z5.out]) rfl ⟨x, rfl, TF.out⟩
set_option maxRecDepth 100000 in
set_option maxHeartbeats 2000000 in
theorem DrawQuickestGo_any (a : Option Addr) (len cap : Nat) (w : World) (h : ByteRow w a len) :
    Calls Tryd.prog 6 #[.slice a len cap] w (DiPost w) := by
  have B1 := (Below.refl w.heap.size w).alloc (Nat.le_refl _) (.cells #[.int .i64 0, .int .i64 0, .int .i64 0, .int .i64 0, .bool false, .int .i64 0] 25)
  have R0 := Lib.hid (heap_alloc_new w (.cells #[.int .i64 0, .int .i64 0, .int .i64 0, .int .i64 0, .bool false, .int .i64 0] 25))
  have hs0 : (w.alloc (.cells #[.int .i64 0, .int .i64 0, .int .i64 0, .int .i64 0, .bool false, .int .i64 0] 25)).heap.size = w.heap.size + 1 := by simp
  have E0 := Lib.hid (DrawIsPlatform_any a len cap _ (h.below B1))
  have T0 := Lib.hid B1
  clear h B1 hs0
  go_enter Tryd.func6, Tryd.ntmps6
  go_upto_region 1 with fail
  generalize w.alloc (.cells #[.int .i64 0, .int .i64 0, .int .i64 0, .int .i64 0, .bool false, .int .i64 0] 25) = w0 at *
  go_wp2_with fail
  refine (E0.out).mono ?_
  rintro e w1 ⟨x, rfl, t⟩
  have T1 := Lib.hid (T0.out.trans (t.mono T0.out.size))
  have R1 := Lib.hid (blk_kept R0.out t)
  clear t R0 T0 E0
  have hlR := blk_lt R1.out
  obtain ⟨d0, d1, d2, d3, d4, d5⟩ := blk_cell6 R1.out
  obtain ⟨m0, m1, m2, m3, m4, m5⟩ := blk_froz6 R1.out
  obtain ⟨z0, z1, z2, z3, z4, z5⟩ := blk_cell6 (blk_all6 (x0 := .int .i64 x.d) (x1 := .int .i64 x.s) (x2 := .int .i64 x.i) (x3 := .int .i64 x.w) (x4 := .bool x.l) (x5 := .int .i64 x.g) R1.out)
  have Z0 := Lib.hid z0
  have Z1 := Lib.hid z1
  have Z2 := Lib.hid z2
  have Z3 := Lib.hid z3
  have Z4 := Lib.hid z4
  have Z5 := Lib.hid z5
  clear z0 z1 z2 z3 z4 z5
  have TF := Lib.hid (below_all6 T1.out (Nat.le_refl _) (.int .i64 x.d) (.int .i64 x.s) (.int .i64 x.i) (.int .i64 x.w) (.bool x.l) (.int .i64 x.g))
  go_wp2
  refine bodyPost_ret (v := .agg #[.int .i64 x.d, .int .i64 x.s, .int .i64 x.i, .int .i64 x.w, .bool x.l, .int .i64 x.g]) (by simp [results, Tryd.results6, go_sem, Z0.out, Z1.out, Z2.out, Z3.out, Z4.out, Z5.out]) rfl ⟨x, rfl, TF.out⟩
set_option maxRecDepth 100000 in
set_option maxHeartbeats 2000000 in
theorem DrawBoardText_any (a : Option Addr) (len cap : Nat) (w : World) (h : ByteRow w a len) :
    Calls Tryd.prog 15 #[.slice a len cap] w (DiPost w) := by
  have B1 := (Below.refl w.heap.size w).alloc (Nat.le_refl _) (.cells #[.int .i64 0, .int .i64 0, .int .i64 0, .int .i64 0, .bool false, .int .i64 0] 25)
  have R0 := Lib.hid (heap_alloc_new w (.cells #[.int .i64 0, .int .i64 0, .int .i64 0, .int .i64 0, .bool false, .int .i64 0] 25))
  have hs0 : (w.alloc (.cells #[.int .i64 0, .int .i64 0, .int .i64 0, .int .i64 0, .bool false, .int .i64 0] 25)).heap.size = w.heap.size + 1 := by simp
  have E0 := Lib.hid (DrawIsPlatform_any a len cap _ (h.below B1))
  have T0 := Lib.hid B1
  clear h B1 hs0
  go_enter Tryd.func15, Tryd.ntmps15
  go_upto_region 1 with fail
  generalize w.alloc (.cells #[.int .i64 0, .int .i64 0, .int .i64 0, .int .i64 0, .bool false, .int .i64 0] 25) = w0 at *
  go_wp2_with fail
  refine (E0.out).mono ?_
  rintro e w1 ⟨x, rfl, t⟩
  have T1 := Lib.hid (T0.out.trans (t.mono T0.out.size))
  have R1 := Lib.hid (blk_kept R0.out t)
  clear t R0 T0 E0
  have hlR := blk_lt R1.out
  obtain ⟨d0, d1, d2, d3, d4, d5⟩ := blk_cell6 R1.out
  obtain ⟨m0, m1, m2, m3, m4, m5⟩ := blk_froz6 R1.out
  obtain ⟨z0, z1, z2, z3, z4, z5⟩ := blk_cell6 (blk_all6 (x0 := .int .i64 x.d) (x1 := .int .i64 x.s) (x2 := .int .i64 x.i) (x3 := .int .i64 x.w) (x4 := .bool x.l) (x5 := .int .i64 x.g) R1.out)
  have Z0 := Lib.hid z0
  have Z1 := Lib.hid z1
  have Z2 := Lib.hid z2
  have Z3 := Lib.hid z3
  have Z4 := Lib.hid z4
  have Z5 := Lib.hid z5
  clear z0 z1 z2 z3 z4 z5
  have TF := Lib.hid (below_all6 T1.out (Nat.le_refl _) (.int .i64 x.d) (.int .i64 x.s) (.int .i64 x.i) (.int .i64 x.w) (.bool x.l) (.int .i64 x.g))
  go_wp2
  refine bodyPost_ret (v := .agg #[.int .i64 x.d, .int .i64 x.s, .int .i64 x.i, .int .i64 x.w, .bool x.l, .int .i64 x.g]) (by simp [results, Tryd.results15, go_sem, Z0.out, Z1.out, Z2.out, Z3.out, Z4.out, Z5.out]) rfl ⟨x, rfl, TF.out⟩
end Go.Proofs.YtinlcbljpclccaaDoor
