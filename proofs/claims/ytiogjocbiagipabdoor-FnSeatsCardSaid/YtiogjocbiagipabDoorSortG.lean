/- The comparing closures and slices.SortFunc at cabins. Condition: at most twelve of them. -/
import Derived.Test.YtiogjocbiagipabDoorSortK
import Derived.Test.YtiogjocbiagipabDoorOrdMath
import Derived.Test.YtiogjocbiagipabDoorShelf
import Derived.Test.YtiogjocbiagipabDoorShelfS
import Derived.Deep.RegionHeld3
namespace Go.Proofs.YtiogjocbiagipabDoor
open Go.RowKit Go.Sort Go.Shelf Go.Lib
set_option linter.unusedVariables false
/-- A world some draws and new blocks on. -/
structure Gr (W W' : World) : Prop where
  out : ∃ q os, W' = grow (W.drewN q) os
theorem Gr.refl (W : World) : Gr W W := ⟨0, #[], by rw [grow_empty]; rfl⟩
theorem Gr.drew {W W' : World} (h : Gr W W') : Gr W W'.drew := by
  obtain ⟨q, os, rfl⟩ := h
  exact ⟨q + 1, os, rfl⟩
theorem Gr.alloc {W W' : World} (h : Gr W W') (o : Obj) : Gr W (W'.alloc o) := by
  obtain ⟨q, os, rfl⟩ := h
  exact ⟨q, os ++ #[o], by rw [alloc_eq_grow, grow_grow]⟩
theorem Gr.drewN {W W' : World} (h : Gr W W') (m : Nat) : Gr W (W'.drewN m) := by
  obtain ⟨q, os, rfl⟩ := h
  exact ⟨q + m, os, by show grow ((W.drewN q).drewN m) os = _; rw [World.drewN_drewN]⟩
theorem Gr.trans {a b c : World} (h : Gr a b) (g : Gr b c) : Gr a c := by
  obtain ⟨q, os, rfl⟩ := g
  obtain ⟨q', os', h⟩ := h.drewN q
  exact ⟨q', os' ++ os, by rw [h, grow_grow]⟩
theorem Gr.below {W W' : World} (h : Gr W W') : Below W.heap.size W W' := by
  obtain ⟨q, os, rfl⟩ := h
  exact ⟨rfl, rfl, rfl, by simp, fun k hk => by rw [heap_grow_old _ _ (by simpa using hk)]; rfl⟩
theorem cmpI_c (a b : Int) (w : World) : Calls Tryd.prog 76 #[.int .i64 a, .int .i64 b] w fun e w' => e = .returned (.int .i64 (Lib.compareInt a b)) ∧ w = w' :=
  (Tryd.cmp_Compare_int a b w).mono fun _ _ ⟨h, g⟩ => ⟨h, g.symm⟩
theorem cmpD (a b : Int) (w : World) : Calls Tryd.prog 76 #[.int .i64 a, .int .i64 b] w.drew fun e w' => e = .returned (.int .i64 (Lib.compareInt a b)) ∧ w' = w.drew := Tryd.cmp_Compare_int a b w.drew
def orI (a b : Int) : Int := if a ≠ 0 then a else b
set_option maxHeartbeats 1000000 in
theorem or2_c (g : Nat) (a b : Int) (w : World) (h0 : w.cell? ⟨g, 0, none⟩ = some (.int .i64 a)) (h1 : w.cell? ⟨g, 1, none⟩ = some (.int .i64 b)) :
    Calls Tryd.prog 75 #[.slice (some ⟨g, 0, none⟩) 2 2] w fun e w' => e = .returned (.int .i64 (orI a b)) ∧ w = w' := by
  have HA := Lib.hid (show orI a b = if a ≠ 0 then a else b from rfl)
  by_cases ha : a = 0
  · have t0 : (a != 0) = false := by simpa using ha
    have HR : Hid (orI a b = b) := Lib.hid (by simp [orI, ha])
    by_cases hb : b = 0
    · have t1 : (b != 0) = false := by simpa using hb
      have HB := Lib.hid hb
      clear ha hb
      go_enter Tryd.func75, Tryd.ntmps75
      go_wp2
      refine wp_loop_rounds 3 ?_
      rw [rounds_succ]
      go_wp2
      rw [rounds_succ]
      go_wp2
      rw [rounds_succ]
      go_wp2
      go_ret
      exact ⟨by rw [HR.out, HB.out]; rfl, rfl⟩
    · have t1 : (b != 0) = true := by simpa using hb
      clear ha hb
      go_enter Tryd.func75, Tryd.ntmps75
      go_wp2
      refine wp_loop_rounds 2 ?_
      rw [rounds_succ]
      go_wp2
      rw [rounds_succ]
      go_wp2
      go_ret
      exact ⟨by rw [HR.out]; rfl, rfl⟩
  · have t0 : (a != 0) = true := by simpa using ha
    have HR : Hid (orI a b = a) := Lib.hid (by simp [orI, ha])
    clear ha
    go_enter Tryd.func75, Tryd.ntmps75
    go_wp2
    refine wp_loop_rounds 1 ?_
    rw [rounds_succ]
    go_wp2
    go_ret
    exact ⟨by rw [HR.out]; rfl, rfl⟩
theorem or_new (a b : Int) (w : World) (t : TypeId) :
    Calls Tryd.prog 75 #[.slice (some ⟨w.heap.size, 0, none⟩) 2 2] (w.alloc (.cells #[.int .i64 a, .int .i64 b] t)) fun e w' => e = .returned (.int .i64 (orI a b)) ∧ w.alloc (.cells #[.int .i64 a, .int .i64 b] t) = w' :=
  or2_c w.heap.size a b _ (by rw [World.cell?_alloc_at _ _ _ _ rfl]; rfl) (by rw [World.cell?_alloc_at _ _ _ _ rfl]; rfl)
theorem or_drew (g : Nat) (a b : Int) (w : World) (t : TypeId) (hg : g = w.heap.size) :
    Calls Tryd.prog 75 #[.slice (some ⟨g, 0, none⟩) 2 2] (w.alloc (.cells #[.int .i64 a, .int .i64 b] t)).drew fun e w' => e = .returned (.int .i64 (orI a b)) ∧ (w.alloc (.cells #[.int .i64 a, .int .i64 b] t)).drew = w' :=
  or2_c g a b _ (by show (w.alloc _).cell? _ = _; rw [World.cell?_alloc_at _ _ _ _ hg]; rfl) (by show (w.alloc _).cell? _ = _; rw [World.cell?_alloc_at _ _ _ _ hg]; rfl)
theorem orI_cf (b : Bool) (x y : Cab) : orI (Lib.compareInt (keyC b y) (keyC b x)) (Lib.compareInt x.i y.i) = cfC b x y := rfl
theorem ret_iv {a b : Int} (h : a = b) : Ending.returned (.int .i64 a) = .returned (.int .i64 b) := by rw [h]
end Go.Proofs.YtiogjocbiagipabDoor
