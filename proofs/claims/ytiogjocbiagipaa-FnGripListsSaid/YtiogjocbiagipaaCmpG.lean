/- The comparing closure of WeakestGrip. No condition. -/
import Derived.Test.YtiogjocbiagipaaGrpMath
import Derived.Test.YtiogjocbiagipaaShelf
import Derived.Sort.Grow
import Derived.Deep.RegionHeld3
namespace Go.Proofs.Ytiogjocbiagipaa
open Go.RowKit Go.Sort Go.Shelf Go.Lib
set_option linter.unusedVariables false
/-- A world some draws and new blocks on. -/
structure Gr (W W' : World) : Prop where
  out : ∃ q os, W' = grow (W.drewN q) os
theorem Gr.refl (W : World) : Gr W W := ⟨0, #[], by rw [grow_empty]; rfl⟩
theorem Gr.drew {W W' : World} (h : Gr W W') : Gr W W'.drew := by
  obtain ⟨q, os, rfl⟩ := h
  exact ⟨q + 1, os, rfl⟩
theorem Gr.alloc {W W' : World} (h : Gr W W') (o : Obj) : Gr W (W'.alloc o) := by
  obtain ⟨q, os, rfl⟩ := h
  exact ⟨q, os ++ #[o], by rw [alloc_eq_grow, grow_grow]⟩
theorem Gr.drewN {W W' : World} (h : Gr W W') (m : Nat) : Gr W (W'.drewN m) := by
  obtain ⟨q, os, rfl⟩ := h
  exact ⟨q + m, os, by show grow ((W.drewN q).drewN m) os = _; rw [World.drewN_drewN]⟩
theorem Gr.trans {a b c : World} (h : Gr a b) (g : Gr b c) : Gr a c := by
  obtain ⟨q, os, rfl⟩ := g
  obtain ⟨q', os', h⟩ := h.drewN q
  exact ⟨q', os' ++ os, by rw [h, grow_grow]⟩
theorem Gr.below {W W' : World} (h : Gr W W') : Below W.heap.size W W' := by
  obtain ⟨q, os, rfl⟩ := h
  exact ⟨rfl, rfl, rfl, by simp, fun k hk => by rw [heap_grow_old _ _ (by simpa using hk)]; rfl⟩
theorem cmpI_c (a b : Int) (w : World) : Calls Try.prog 83 #[.int .i64 a, .int .i64 b] w fun e w' => e = .returned (.int .i64 (Lib.compareInt a b)) ∧ w = w' :=
  (Try.cmp_Compare_int a b w).mono fun _ _ ⟨h, g⟩ => ⟨h, g.symm⟩
theorem cmpD (a b : Int) (w : World) : Calls Try.prog 83 #[.int .i64 a, .int .i64 b] w.drew fun e w' => e = .returned (.int .i64 (Lib.compareInt a b)) ∧ w' = w.drew := Try.cmp_Compare_int a b w.drew
def orI (a b : Int) : Int := if a ≠ 0 then a else b
set_option maxHeartbeats 1000000 in
theorem or2_c (g : Nat) (a b : Int) (w : World) (h0 : w.cell? ⟨g, 0, none⟩ = some (.int .i64 a)) (h1 : w.cell? ⟨g, 1, none⟩ = some (.int .i64 b)) :
    Calls Try.prog 82 #[.slice (some ⟨g, 0, none⟩) 2 2] w fun e w' => e = .returned (.int .i64 (orI a b)) ∧ w = w' := by
  have HA := Lib.hid (show orI a b = if a ≠ 0 then a else b from rfl)
  by_cases ha : a = 0
  · have t0 : (a != 0) = false := by simpa using ha
    have HR : Hid (orI a b = b) := Lib.hid (by simp [orI, ha])
    by_cases hb : b = 0
    · have t1 : (b != 0) = false := by simpa using hb
      have HB := Lib.hid hb
      clear ha hb
      go_enter Try.func82, Try.ntmps82
      go_wp2
      refine wp_loop_rounds 3 ?_
      rw [rounds_succ]
      go_wp2
      rw [rounds_succ]
      go_wp2
      rw [rounds_succ]
      go_wp2
      go_ret
      exact ⟨by rw [HR.out, HB.out]; rfl, rfl⟩
    · have t1 : (b != 0) = true := by simpa using hb
      clear ha hb
      go_enter Try.func82, Try.ntmps82
      go_wp2
      refine wp_loop_rounds 2 ?_
      rw [rounds_succ]
      go_wp2
      rw [rounds_succ]
      go_wp2
      go_ret
      exact ⟨by rw [HR.out]; rfl, rfl⟩
  · have t0 : (a != 0) = true := by simpa using ha
    have HR : Hid (orI a b = a) := Lib.hid (by simp [orI, ha])
    clear ha
    go_enter Try.func82, Try.ntmps82
    go_wp2
    refine wp_loop_rounds 1 ?_
    rw [rounds_succ]
    go_wp2
    go_ret
    exact ⟨by rw [HR.out]; rfl, rfl⟩
theorem or_new (a b : Int) (w : World) (t : TypeId) :
    Calls Try.prog 82 #[.slice (some ⟨w.heap.size, 0, none⟩) 2 2] (w.alloc (.cells #[.int .i64 a, .int .i64 b] t)) fun e w' => e = .returned (.int .i64 (orI a b)) ∧ w.alloc (.cells #[.int .i64 a, .int .i64 b] t) = w' :=
  or2_c w.heap.size a b _ (by rw [World.cell?_alloc_at _ _ _ _ rfl]; rfl) (by rw [World.cell?_alloc_at _ _ _ _ rfl]; rfl)
theorem or_drew (g : Nat) (a b : Int) (w : World) (t : TypeId) (hg : g = w.heap.size) :
    Calls Try.prog 82 #[.slice (some ⟨g, 0, none⟩) 2 2] (w.alloc (.cells #[.int .i64 a, .int .i64 b] t)).drew fun e w' => e = .returned (.int .i64 (orI a b)) ∧ (w.alloc (.cells #[.int .i64 a, .int .i64 b] t)).drew = w' :=
  or2_c g a b _ (by show (w.alloc _).cell? _ = _; rw [World.cell?_alloc_at _ _ _ _ hg]; rfl) (by show (w.alloc _).cell? _ = _; rw [World.cell?_alloc_at _ _ _ _ hg]; rfl)
theorem ret_iv {a b : Int} (h : a = b) : Ending.returned (.int .i64 a) = .returned (.int .i64 b) := by rw [h]
/-- x is weaker than y. -/
def ltW (x y : Grp) : Bool := decide (x.s < y.s) || (decide (x.s = y.s) && decide (y.w < x.w))
def cwC (x y : Grp) : Int := orI (Lib.compareInt x.s y.s) (Lib.compareInt y.w x.w)
theorem cw_lt (x y : Grp) : decide (cwC x y < 0) = ltW x y := by
  unfold cwC orI Lib.compareInt ltW
  by_cases h1 : x.s < y.s
  · simp [h1]
  · by_cases h2 : y.s < x.s
    · have : ¬ x.s = y.s := by omega
      simp [h1, h2, this]
    · have h3 : x.s = y.s := by omega
      by_cases h4 : y.w < x.w
      · simp [h3, h4]
      · by_cases h5 : x.w < y.w
        · simp [h3, h4, h5]
        · simp [h3, h4, h5]
set_option maxRecDepth 100000 in
set_option maxHeartbeats 4000000 in
theorem clo_weak (x y : Grp) (w : World) :
    Calls Try.prog 81 #[.agg #[.int .i64 x.i, .int .i64 x.s, .int .i64 x.w, .int .i64 x.g, .int .i64 x.p], .agg #[.int .i64 y.i, .int .i64 y.s, .int .i64 y.w, .int .i64 y.g, .int .i64 y.p]] w fun e w' => e = .returned (.int .i64 (cwC x y)) ∧ Gr w w' := by
  have HC : Hid (orI (Lib.compareInt x.s y.s) (Lib.compareInt y.w x.w) = cwC x y) := Lib.hid rfl
  generalize hcf : cwC x y = cf at *
  clear hcf
  go_enter Try.func81, Try.ntmps81
  go_wp2_with fail
  have HX : Hid (∀ W, Below (w.heap.size + 2) ((w.alloc (.cells #[.int .i64 x.i, .int .i64 x.s, .int .i64 x.w, .int .i64 x.g, .int .i64 x.p] 25)).alloc (.cells #[.int .i64 y.i, .int .i64 y.s, .int .i64 y.w, .int .i64 y.g, .int .i64 y.p] 25)) W → W.cell? ⟨w.heap.size, 0, none⟩ = some (.int .i64 x.i) ∧ W.cell? ⟨w.heap.size, 1, none⟩ = some (.int .i64 x.s) ∧ W.cell? ⟨w.heap.size, 2, none⟩ = some (.int .i64 x.w) ∧ W.cell? ⟨w.heap.size, 3, none⟩ = some (.int .i64 x.g) ∧ W.cell? ⟨w.heap.size, 4, none⟩ = some (.int .i64 x.p)) := Lib.hid (fun W h => box_Grp w x _ _ rfl W (((Below.refl _ _).alloc (by simp) _).trans (h.mono (by simp))))
  have HY : Hid (∀ W, Below (w.heap.size + 2) ((w.alloc (.cells #[.int .i64 x.i, .int .i64 x.s, .int .i64 x.w, .int .i64 x.g, .int .i64 x.p] 25)).alloc (.cells #[.int .i64 y.i, .int .i64 y.s, .int .i64 y.w, .int .i64 y.g, .int .i64 y.p] 25)) W → W.cell? ⟨w.heap.size + 1, 0, none⟩ = some (.int .i64 y.i) ∧ W.cell? ⟨w.heap.size + 1, 1, none⟩ = some (.int .i64 y.s) ∧ W.cell? ⟨w.heap.size + 1, 2, none⟩ = some (.int .i64 y.w) ∧ W.cell? ⟨w.heap.size + 1, 3, none⟩ = some (.int .i64 y.g) ∧ W.cell? ⟨w.heap.size + 1, 4, none⟩ = some (.int .i64 y.p)) := Lib.hid (fun W h => box_Grp (w.alloc (.cells #[.int .i64 x.i, .int .i64 x.s, .int .i64 x.w, .int .i64 x.g, .int .i64 x.p] 25)) y _ _ (by simp) W h)
  have HG : Hid (Gr w ((w.alloc (.cells #[.int .i64 x.i, .int .i64 x.s, .int .i64 x.w, .int .i64 x.g, .int .i64 x.p] 25)).alloc (.cells #[.int .i64 y.i, .int .i64 y.s, .int .i64 y.w, .int .i64 y.g, .int .i64 y.p] 25))) := Lib.hid (((Gr.refl w).alloc _).alloc _)
  have hs0 : ((w.alloc (.cells #[.int .i64 x.i, .int .i64 x.s, .int .i64 x.w, .int .i64 x.g, .int .i64 x.p] 25)).alloc (.cells #[.int .i64 y.i, .int .i64 y.s, .int .i64 y.w, .int .i64 y.g, .int .i64 y.p] 25)).heap.size = w.heap.size + 2 := by simp
  generalize (w.alloc (.cells #[.int .i64 x.i, .int .i64 x.s, .int .i64 x.w, .int .i64 x.g, .int .i64 x.p] 25)).alloc (.cells #[.int .i64 y.i, .int .i64 y.s, .int .i64 y.w, .int .i64 y.g, .int .i64 y.p] 25) = W0 at *
  have HB2 : Hid (Below (w.heap.size + 2) W0 W0.drew) := Lib.hid ((Below.refl _ _).drew)
  obtain ⟨x0, x1, x2, x3, x4⟩ := HX.out _ HB2.out
  obtain ⟨y0, y1, y2, y3, y4⟩ := HY.out _ HB2.out
  have HC1 := Lib.hid (cmpD x.s y.s W0)
  have HC2 := Lib.hid (cmpD y.w x.w W0)
  go_still_tail 10, (by kernel_rfl)
  still_call HC1.out
  repeat still_step
  still_call HC2.out
  repeat still_step
  refine wpStill_nil ?_
  change wpList _ _ _ _ _ W0.drew
  go_wp2_with fail
  refine (or_drew _ _ _ W0 _ hs0.symm).mono ?_
  rintro e W1 ⟨rfl, rfl⟩
  go_wp2
  go_ret
  exact ⟨ret_iv HC.out, HG.out.trans (by first | exact ((Gr.refl _).alloc _).drew | exact (Gr.refl _).drew.alloc _)⟩
end Go.Proofs.Ytiogjocbiagipaa
