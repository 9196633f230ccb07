/- The draws, the helpers and the walk of the law FnCabins. Condition: sizes; the tables are as laid. -/
import Derived.Test.YtiogjocbiagipabDoorIntS
import Derived.Test.YtiogjocbiagipabDoorDrawBase
import Derived.Test.YtiogjocbiagipabDoorCurAm
import Derived.Test.YtiogjocbiagipabDoorRs
import Derived.Deep.DeepCutAuto
import Derived.Test.YtiogjocbiagipabDoorCabS
import Derived.Deep.AppendLies
import Derived.Test.YtiogjocbiagipabDoorByteRow
import Derived.Test.YtiogjocbiagipabDoorCurW
import Derived.Below
import Derived.Test.YtiogjocbiagipabDoorCabNextC
import Derived.Deep.RegionHeld3
import Derived.Test.YtiogjocbiagipabDoorAft
import Derived.Test.YtiogjocbiagipabDoorNumW
import Derived.Test.YtiogjocbiagipabDoorL1Math
import Derived.Test.YtiogjocbiagipabDoorCabTextC
import Derived.Test.YtiogjocbiagipabDoorPcSpecM
import Derived.Test.YtiogjocbiagipabDoorMoveMath
import Derived.Test.YtiogjocbiagipabDoorCabInC
import Derived.Test.YtiogjocbiagipabDoorPcMath
import Derived.Test.YtiogjocbiagipabDoorMoveS
import Derived.Test.YtiogjocbiagipabDoorPcImpl
import Derived.Test.YtiogjocbiagipabDoorPcSpec
import Derived.WalkArith
import Derived.Deep.CutRange
import Derived.Deep.CutBlock
namespace Go.Proofs.YtiogjocbiagipabDoor
open Go.RowKit
set_option linter.unusedVariables false
end Go.Proofs.YtiogjocbiagipabDoor

namespace Go.Proofs.YtiogjocbiagipabDoor
open Go.RowKit
set_option linter.unusedVariables false
theorem num_part (w : World) (t : TypeId) (l : List Int) (n : Nat) (cs : Array Value) (hcs : cs = (l.map (Value.int .i64)).toArray) (W : World) (b : Nat) (hg : (w.alloc (.cells cs t)).grownBy W (some b)) (hb : w.heap.size ≠ b) :
    ∀ (i : Nat) (h : i < (l.take n).length), W.cell? ⟨w.heap.size, i, none⟩ = some (.int .i64 (l.take n)[i]) := by
  intro i h
  have h2 : i < l.length := by rw [List.length_take] at h; omega
  have h1 := num_cells w t l cs hcs i h2
  rw [List.getElem_take]
  exact grown_cell hg h1 (by simp; exact hb)
theorem keepD {W W' : World} {b g : Nat} {o : Obj} (hg : W.grownBy W' (some b)) (hne : g ≠ b) (h : W.heap[g]? = some o) : W'.heap[g]? = some o :=
  (hg.block g ((Array.getElem?_eq_some_iff.1 h).1) (fun e => hne (Option.some.inj e))).trans h
theorem cur_at {w : World} {a : Option Addr} {len cap : Nat} (h : ByteRow w a len) (t : TypeId) {n : Nat} (hn : n = w.heap.size) : Cur n n 0 (w.alloc (.cells #[.slice a len cap, .int .i64 0, .int .u64 0] t)) := by subst hn; exact cur_new h t
theorem rs_grownD {w w' : World} {S n : Nat} {v : Value} {xs : List Value} (h : Rs w v n xs) (hg : w.grownBy w' (some S)) (hb : ∀ j, v.ownBlock = some j → j ≠ S) : Rs w' v n xs := by
  rcases h with ⟨rfl, h⟩ | ⟨b, off, cap, rfl, hlt, hm, hc⟩
  · exact .inl ⟨rfl, h⟩
  · have hne : b ≠ S := hb b rfl
    exact .inr ⟨b, off, cap, rfl, Nat.lt_of_lt_of_le hlt hg.size, hm, fun i u hi => grown_cell hg (hc i u hi) (by simp; exact hne)⟩
theorem results_tmp4 {fn : Func} {t u v x : Tmp} (h : fn.results = #[.tmp t, .tmp u, .tmp v, .tmp x]) (tmps : Array Value) (P : Program) (w : World) :
    (results fn tmps).run P w = .ok (.tuple #[tmps.getD t undef, tmps.getD u undef, tmps.getD v undef, tmps.getD x undef]) w := by
  simp [results, h]
theorem sel3 (r : Nat) (hr : (r : Int) < 24) : ∃ c n : Nat, (3 ≤ n ∧ n ≤ 5) ∧ Int.tdiv (r : Int) 11 = (c : Int) ∧ IntKind.i64.wrap (c : Int) = (c : Int) ∧ IntKind.i64.wrap (3 + (c : Int)) = (n : Int) := by
  refine ⟨r / 11, 3 + r / 11, by omega, by rw [Int.tdiv_eq_ediv_of_nonneg (by omega)]; omega, IntWalk.i64_in _ (by omega), ?_⟩
  rw [IntWalk.i64_in _ (by omega)]
  omega
theorem sel4 (r : Nat) (hr : (r : Int) < 24) : ∃ c n : Nat, (4 ≤ n ∧ n ≤ 6) ∧ Int.tdiv (r : Int) 11 = (c : Int) ∧ IntKind.i64.wrap (c : Int) = (c : Int) ∧ IntKind.i64.wrap (4 + (c : Int)) = (n : Int) := by
  refine ⟨r / 11, 4 + r / 11, by omega, by rw [Int.tdiv_eq_ediv_of_nonneg (by omega)]; omega, IntWalk.i64_in _ (by omega), ?_⟩
  rw [IntWalk.i64_in _ (by omega)]
  omega
theorem sel5 (r : Nat) (hr : (r : Int) < 24) : ∃ c n : Nat, (5 ≤ n ∧ n ≤ 7) ∧ Int.tdiv (r : Int) 11 = (c : Int) ∧ IntKind.i64.wrap (c : Int) = (c : Int) ∧ IntKind.i64.wrap (5 + (c : Int)) = (n : Int) := by
  refine ⟨r / 11, 5 + r / 11, by omega, by rw [Int.tdiv_eq_ediv_of_nonneg (by omega)]; omega, IntWalk.i64_in _ (by omega), ?_⟩
  rw [IntWalk.i64_in _ (by omega)]
  omega
theorem sel6 (r : Nat) (hr : (r : Int) < 24) : ∃ c n : Nat, (6 ≤ n ∧ n ≤ 8) ∧ Int.tdiv (r : Int) 11 = (c : Int) ∧ IntKind.i64.wrap (c : Int) = (c : Int) ∧ IntKind.i64.wrap (6 + (c : Int)) = (n : Int) := by
  refine ⟨r / 11, 6 + r / 11, by omega, by rw [Int.tdiv_eq_ediv_of_nonneg (by omega)]; omega, IntWalk.i64_in _ (by omega), ?_⟩
  rw [IntWalk.i64_in _ (by omega)]
  omega
end Go.Proofs.YtiogjocbiagipabDoor

namespace Go.Proofs.YtiogjocbiagipabDoor
open Go.RowKit
set_option linter.unusedVariables false
/-- A drawn cabin's numbers. -/
def CabB (x : Cab) : Prop := (-10 ≤ x.i ∧ x.i ≤ 200) ∧ (0 ≤ x.s ∧ x.s ≤ 17) ∧ (99 ≤ x.w ∧ x.w ≤ 2001) ∧ (-1 ≤ x.g ∧ x.g ≤ 4) ∧ (-1 ≤ x.p ∧ x.p ≤ 100000)
/-- What drawing a cabin leaves. -/
def CbPost (B b k : Nat) (w : World) (e : Ending) (w' : World) : Prop := ∃ x : Cab, e = .returned x.agg ∧ CabB x ∧ Cur B b (k + 20) w' ∧ w.grownBy w' (some b)
set_option maxRecDepth 100000 in
set_option maxHeartbeats 8000000 in
theorem cabin_any (B b k : Nat) (id : Int) (w : World) (h : Cur B b k w) (hk : k ≤ 800000000) (hid : -10 ≤ id ∧ id ≤ 200) :
    Calls Tryd.prog 63 #[.pointer (some ⟨b, 0, none⟩), .int .i64 id] w (CbPost B b k w) := by
  have HH := Lib.hid h
  have hb := h.2.1
  clear h
  go_enter Tryd.func63, Tryd.ntmps63
  go_wp2_with fail
  refine (among_any B b k (w.heap.size + 1) 5 5 [1, 4, 8, 8, 16] _ ((HH.out.alloc _).alloc _) (by omega) rfl (by omega) (by omega) (by omega) (num_cells1 _ 3 [1, 4, 8, 8, 16] _ rfl _ (aszD _ _))).mono ?_
  rintro e w1 ⟨xs, hx0, rfl, hc, hg⟩
  have hsb : 1 ≤ xs ∧ xs ≤ 16 := by simp at hx0; omega
  have K1 := Lib.hid ((hg.block w.heap.size (by simp; omega) (fun e => by have := Option.some.inj e; omega)).trans (old_allocD (o' := .cells #[.int .i64 1, .int .i64 4, .int .i64 8, .int .i64 8, .int .i64 16] 3) (heap_alloc_new w (.cells #[.int .i64 0, .int .i64 0, .int .i64 0, .int .i64 0, .int .i64 0] 34))))
  have G1 := Lib.hid (grown_trans (grown_trans (World.grownBy_alloc w (.cells #[.int .i64 0, .int .i64 0, .int .i64 0, .int .i64 0, .int .i64 0] 34) (some b)) (World.grownBy_alloc _ (.cells #[.int .i64 1, .int .i64 4, .int .i64 8, .int .i64 8, .int .i64 16] 3) (some b))) hg)
  have C1 := Lib.hid hc
  have hz1 := hg.size
  simp at hz1
  clear hc hg hx0
  go_wp2_with fail
  refine (among_any B b (k + 2) w1.heap.size 3 3 [100, 450, 2000] _ (C1.out.alloc _) (by omega) rfl (by omega) (by omega) (by omega) (num_cells w1 3 [100, 450, 2000] _ rfl)).mono ?_
  rintro e w2 ⟨xw, hx2, rfl, hc, hg⟩
  have hb2 : 100 ≤ xw ∧ xw ≤ 2000 := by simp at hx2; omega
  have K2 := Lib.hid ((hg.block w.heap.size (by simp; omega) (fun e => by have := Option.some.inj e; omega)).trans (old_allocD (o' := .cells #[.int .i64 100, .int .i64 450, .int .i64 2000] 3) K1.out))
  have G2 := Lib.hid (grown_trans (grown_trans G1.out (World.grownBy_alloc _ (.cells #[.int .i64 100, .int .i64 450, .int .i64 2000] 3) (some b))) hg)
  have C2 := Lib.hid hc
  have hz2 := hg.size
  simp at hz2
  clear hc hg hx2
  go_wp2_with fail
  refine (among_any B b (k + 2 + 2) w2.heap.size 7 7 [0, 0, 0, 1, 1, 2, 3] _ (C2.out.alloc _) (by omega) rfl (by omega) (by omega) (by omega) (num_cells w2 3 [0, 0, 0, 1, 1, 2, 3] _ rfl)).mono ?_
  rintro e w3 ⟨xg, hx3, rfl, hc, hg⟩
  have hb3 : 0 ≤ xg ∧ xg ≤ 3 := by simp at hx3; omega
  have K3 := Lib.hid ((hg.block w.heap.size (by simp; omega) (fun e => by have := Option.some.inj e; omega)).trans (old_allocD (o' := .cells #[.int .i64 0, .int .i64 0, .int .i64 0, .int .i64 1, .int .i64 1, .int .i64 2, .int .i64 3] 3) K2.out))
  have G3 := Lib.hid (grown_trans (grown_trans G2.out (World.grownBy_alloc _ (.cells #[.int .i64 0, .int .i64 0, .int .i64 0, .int .i64 1, .int .i64 1, .int .i64 2, .int .i64 3] 3) (some b))) hg)
  have C3 := Lib.hid hc
  have hz3 := hg.size
  simp at hz3
  clear hc hg hx3
  go_wp2_with fail
  refine (among_any B b (k + 2 + 2 + 2) w3.heap.size 5 5 [0, 5, 5, 900, 99999] _ (C3.out.alloc _) (by omega) rfl (by omega) (by omega) (by omega) (num_cells w3 3 [0, 5, 5, 900, 99999] _ rfl)).mono ?_
  rintro e w4 ⟨xp, hx4, rfl, hc, hg⟩
  have hb4 : 0 ≤ xp ∧ xp ≤ 99999 := by simp at hx4; omega
  have K4 := Lib.hid ((hg.block w.heap.size (by simp; omega) (fun e => by have := Option.some.inj e; omega)).trans (old_allocD (o' := .cells #[.int .i64 0, .int .i64 5, .int .i64 5, .int .i64 900, .int .i64 99999] 3) K3.out))
  have G4 := Lib.hid (grown_trans (grown_trans G3.out (World.grownBy_alloc _ (.cells #[.int .i64 0, .int .i64 5, .int .i64 5, .int .i64 900, .int .i64 99999] 3) (some b))) hg)
  have C4 := Lib.hid hc
  have hz4 := hg.size
  simp at hz4
  clear hc hg hx4
  go_wp2_with fail
  have M4 := Lib.hid (heap_alloc_new w4 (.cells #[.int .i64 id, .int .i64 xs, .int .i64 xw, .int .i64 xg, .int .i64 xp] 34))
  have K5 := Lib.hid (old_allocD (o' := .cells #[.int .i64 id, .int .i64 xs, .int .i64 xw, .int .i64 xg, .int .i64 xp] 34) K4.out)
  have G5 := Lib.hid (grown_trans G4.out (World.grownBy_alloc w4 (.cells #[.int .i64 id, .int .i64 xs, .int .i64 xw, .int .i64 xg, .int .i64 xp] 34) (some b)))
  have C5 := Lib.hid (C4.out.alloc (.cells #[.int .i64 id, .int .i64 xs, .int .i64 xw, .int .i64 xg, .int .i64 xp] 34))
  have hz5 : (w4.alloc (.cells #[.int .i64 id, .int .i64 xs, .int .i64 xw, .int .i64 xg, .int .i64 xp] 34)).heap.size = w4.heap.size + 1 := by simp
  generalize hw5 : w4.alloc (.cells #[.int .i64 id, .int .i64 xs, .int .i64 xw, .int .i64 xg, .int .i64 xp] 34) = w5 at *
  clear hw5
  refine (pick_any B b (k + 2 + 2 + 2 + 2) 70 w5 C5.out (by omega) (by omega) (by omega)).mono ?_
  rintro e w6 ⟨r, rfl, hr, hc, hg⟩
  have K6 := Lib.hid ((hg.block w.heap.size (by omega) (fun e => by have := Option.some.inj e; omega)).trans K5.out)
  have M6 := Lib.hid ((hg.block w4.heap.size (by omega) (fun e => by have := Option.some.inj e; omega)).trans M4.out)
  have G6 := Lib.hid (grown_trans G5.out hg)
  have C6 := Lib.hid hc
  have hz6 := hg.size
  clear hc hg K1 K2 K3 K4 K5 G1 G2 G3 G4 G5 C1 C2 C3 C4 C5 M4
  have hT : w.heap.size < w4.heap.size := by omega
  have hTb : b < w4.heap.size := by omega
  by_cases e0 : r = 0
  · have t0 : ((r : Int) == 0) = true := by rw [beq_iff_eq]; omega
    go_wp2_with fail
    refine (among_any B b (k + 2 + 2 + 2 + 2 + 2) w6.heap.size 3 3 [0, 99, 100] _ (C6.out.alloc _) (by omega) rfl (by omega) (by omega) (by omega) (num_cells w6 3 [0, 99, 100] _ rfl)).mono ?_
    rintro e w7 ⟨y, hx7, rfl, hc, hg⟩
    have hb7 : 0 ≤ y ∧ y ≤ 100 := by simp at hx7; omega
    have K7 := Lib.hid ((hg.block w.heap.size (by simp; omega) (fun e => by have := Option.some.inj e; omega)).trans (old_allocD (o' := .cells #[.int .i64 0, .int .i64 99, .int .i64 100] 3) K6.out))
    have M7 := Lib.hid ((hg.block w4.heap.size (by simp; omega) (fun e => by have := Option.some.inj e; omega)).trans (old_allocD (o' := .cells #[.int .i64 0, .int .i64 99, .int .i64 100] 3) M6.out))
    have G7 := Lib.hid (grown_trans (grown_trans G6.out (World.grownBy_alloc _ (.cells #[.int .i64 0, .int .i64 99, .int .i64 100] 3) (some b))) hg)
    have C7 := Lib.hid hc
    have hz7 := hg.size
    simp at hz7
    clear hc hg hx7
    have mm := M7.out
    have q0 := cell_of_row w7 w4.heap.size 0 _ _ _ mm
    have q1 := frozen_of_row w7 w4.heap.size 0 _ _ mm
    simp at q0
    clear mm
    have M8 := Lib.hid (blk_setD (i := 0) (v := .int .i64 y) M7.out)
    have K8 : Hid ((w7.setCell ⟨w4.heap.size, 0, none⟩ (.int .i64 y)).heap[w.heap.size]? = some (.cells #[.int .i64 0, .int .i64 0, .int .i64 0, .int .i64 0, .int .i64 0] 34 (0, 0))) := Lib.hid (by simp only [World.setCell, Array.getElem?_modify]; rw [if_neg (by show ¬ w4.heap.size = w.heap.size; omega)]; exact K7.out)
    have G8 := Lib.hid (grown_past G7.out (grown_setCell w7 w4.heap.size 0 (.int .i64 y)) (by omega))
    have C8 := Lib.hid (C7.out.grown (grown_setCell w7 w4.heap.size 0 (.int .i64 y)) (fun j hj => by cases hj; omega))
    go_upto_region 13 with fail
    generalize hw8 : w7.setCell ⟨w4.heap.size, 0, none⟩ (.int .i64 y) = w8 at *
    clear hw8 q0 q1
    have kk8 := K8.out
    have mm8 := M8.out
    have a0 := cell_of_row w8 w4.heap.size 0 _ _ _ mm8
    have a1 := cell_of_row w8 w4.heap.size 1 _ _ _ mm8
    have a2 := cell_of_row w8 w4.heap.size 2 _ _ _ mm8
    have a3 := cell_of_row w8 w4.heap.size 3 _ _ _ mm8
    have a4 := cell_of_row w8 w4.heap.size 4 _ _ _ mm8
    have c0 := cell_of_row w8 w.heap.size 0 _ _ _ kk8
    have c1 := cell_of_row w8 w.heap.size 1 _ _ _ kk8
    have c2 := cell_of_row w8 w.heap.size 2 _ _ _ kk8
    have c3 := cell_of_row w8 w.heap.size 3 _ _ _ kk8
    have c4 := cell_of_row w8 w.heap.size 4 _ _ _ kk8
    have d0 := frozen_of_row w8 w.heap.size 0 _ _ kk8
    have d1 := frozen_of_row w8 w.heap.size 1 _ _ kk8
    have d2 := frozen_of_row w8 w.heap.size 2 _ _ kk8
    have d3 := frozen_of_row w8 w.heap.size 3 _ _ kk8
    have d4 := frozen_of_row w8 w.heap.size 4 _ _ kk8
    have s0 := blk_setD (i := 0) (v := .int .i64 y) kk8
    have z0 := cell_of_row _ w.heap.size 0 _ _ _ s0
    have s1 := blk_setD (i := 1) (v := .int .i64 xs) s0
    have z1 := cell_of_row _ w.heap.size 1 _ _ _ s1
    have s2 := blk_setD (i := 2) (v := .int .i64 xw) s1
    have z2 := cell_of_row _ w.heap.size 2 _ _ _ s2
    have s3 := blk_setD (i := 3) (v := .int .i64 xg) s2
    have z3 := cell_of_row _ w.heap.size 3 _ _ _ s3
    have s4 := blk_setD (i := 4) (v := .int .i64 xp) s3
    have z4 := cell_of_row _ w.heap.size 4 _ _ _ s4
    simp at a0 a1 a2 a3 a4 c0 c1 c2 c3 c4 z0 z1 z2 z3 z4
    have Z0 := Lib.hid z0
    have Z1 := Lib.hid z1
    have Z2 := Lib.hid z2
    have Z3 := Lib.hid z3
    have Z4 := Lib.hid z4
    clear kk8 mm8 s0 s1 s2 s3 s4 z0 z1 z2 z3 z4
    have GG := Lib.hid (grown_trans (grown_trans (grown_trans (grown_trans (grown_setCell w8 w.heap.size 0 (.int .i64 y)) (grown_setCell _ w.heap.size 1 (.int .i64 xs))) (grown_setCell _ w.heap.size 2 (.int .i64 xw))) (grown_setCell _ w.heap.size 3 (.int .i64 xg))) (grown_setCell _ w.heap.size 4 (.int .i64 xp)))
    go_wp2
    refine bodyPost_ret (v := .agg #[.int .i64 y, .int .i64 xs, .int .i64 xw, .int .i64 xg, .int .i64 xp]) (by simp [results, Tryd.results63, go_sem, Z0.out, Z1.out, Z2.out, Z3.out, Z4.out]) rfl ⟨⟨y, xs, xw, xg, xp⟩, rfl, by show (-10 ≤ y ∧ y ≤ 200) ∧ (0 ≤ xs ∧ xs ≤ 17) ∧ (99 ≤ xw ∧ xw ≤ 2001) ∧ (-1 ≤ xg ∧ xg ≤ 4) ∧ (-1 ≤ xp ∧ xp ≤ 100000); omega, (C8.out.grown GG.out (fun j hj => by cases hj; exact hb)).mono (by omega), grown_past G8.out GG.out (Nat.le_refl _)⟩
  · have t0 : ((r : Int) == 0) = false := by rw [beq_eq_false_iff_ne]; omega
    by_cases e1 : r = 1
    · have t1 : ((r : Int) == 1) = true := by rw [beq_iff_eq]; omega
      go_wp2_with fail
      refine (among_any B b (k + 2 + 2 + 2 + 2 + 2) w6.heap.size 2 2 [0, 17] _ (C6.out.alloc _) (by omega) rfl (by omega) (by omega) (by omega) (num_cells w6 3 [0, 17] _ rfl)).mono ?_
      rintro e w7 ⟨y, hx7, rfl, hc, hg⟩
      have hb7 : 0 ≤ y ∧ y ≤ 17 := by simp at hx7; omega
      have K7 := Lib.hid ((hg.block w.heap.size (by simp; omega) (fun e => by have := Option.some.inj e; omega)).trans (old_allocD (o' := .cells #[.int .i64 0, .int .i64 17] 3) K6.out))
      have M7 := Lib.hid ((hg.block w4.heap.size (by simp; omega) (fun e => by have := Option.some.inj e; omega)).trans (old_allocD (o' := .cells #[.int .i64 0, .int .i64 17] 3) M6.out))
      have G7 := Lib.hid (grown_trans (grown_trans G6.out (World.grownBy_alloc _ (.cells #[.int .i64 0, .int .i64 17] 3) (some b))) hg)
      have C7 := Lib.hid hc
      have hz7 := hg.size
      simp at hz7
      clear hc hg hx7
      have mm := M7.out
      have q0 := cell_of_row w7 w4.heap.size 1 _ _ _ mm
      have q1 := frozen_of_row w7 w4.heap.size 1 _ _ mm
      simp at q0
      clear mm
      have M8 := Lib.hid (blk_setD (i := 1) (v := .int .i64 y) M7.out)
      have K8 : Hid ((w7.setCell ⟨w4.heap.size, 1, none⟩ (.int .i64 y)).heap[w.heap.size]? = some (.cells #[.int .i64 0, .int .i64 0, .int .i64 0, .int .i64 0, .int .i64 0] 34 (0, 0))) := Lib.hid (by simp only [World.setCell, Array.getElem?_modify]; rw [if_neg (by show ¬ w4.heap.size = w.heap.size; omega)]; exact K7.out)
      have G8 := Lib.hid (grown_past G7.out (grown_setCell w7 w4.heap.size 1 (.int .i64 y)) (by omega))
      have C8 := Lib.hid (C7.out.grown (grown_setCell w7 w4.heap.size 1 (.int .i64 y)) (fun j hj => by cases hj; omega))
      go_upto_region 13 with fail
      generalize hw8 : w7.setCell ⟨w4.heap.size, 1, none⟩ (.int .i64 y) = w8 at *
      clear hw8 q0 q1
      have kk8 := K8.out
      have mm8 := M8.out
      have a0 := cell_of_row w8 w4.heap.size 0 _ _ _ mm8
      have a1 := cell_of_row w8 w4.heap.size 1 _ _ _ mm8
      have a2 := cell_of_row w8 w4.heap.size 2 _ _ _ mm8
      have a3 := cell_of_row w8 w4.heap.size 3 _ _ _ mm8
      have a4 := cell_of_row w8 w4.heap.size 4 _ _ _ mm8
      have c0 := cell_of_row w8 w.heap.size 0 _ _ _ kk8
      have c1 := cell_of_row w8 w.heap.size 1 _ _ _ kk8
      have c2 := cell_of_row w8 w.heap.size 2 _ _ _ kk8
      have c3 := cell_of_row w8 w.heap.size 3 _ _ _ kk8
      have c4 := cell_of_row w8 w.heap.size 4 _ _ _ kk8
      have d0 := frozen_of_row w8 w.heap.size 0 _ _ kk8
      have d1 := frozen_of_row w8 w.heap.size 1 _ _ kk8
      have d2 := frozen_of_row w8 w.heap.size 2 _ _ kk8
      have d3 := frozen_of_row w8 w.heap.size 3 _ _ kk8
      have d4 := frozen_of_row w8 w.heap.size 4 _ _ kk8
      have s0 := blk_setD (i := 0) (v := .int .i64 id) kk8
      have z0 := cell_of_row _ w.heap.size 0 _ _ _ s0
      have s1 := blk_setD (i := 1) (v := .int .i64 y) s0
      have z1 := cell_of_row _ w.heap.size 1 _ _ _ s1
      have s2 := blk_setD (i := 2) (v := .int .i64 xw) s1
      have z2 := cell_of_row _ w.heap.size 2 _ _ _ s2
      have s3 := blk_setD (i := 3) (v := .int .i64 xg) s2
      have z3 := cell_of_row _ w.heap.size 3 _ _ _ s3
      have s4 := blk_setD (i := 4) (v := .int .i64 xp) s3
      have z4 := cell_of_row _ w.heap.size 4 _ _ _ s4
      simp at a0 a1 a2 a3 a4 c0 c1 c2 c3 c4 z0 z1 z2 z3 z4
      have Z0 := Lib.hid z0
      have Z1 := Lib.hid z1
      have Z2 := Lib.hid z2
      have Z3 := Lib.hid z3
      have Z4 := Lib.hid z4
      clear kk8 mm8 s0 s1 s2 s3 s4 z0 z1 z2 z3 z4
      have GG := Lib.hid (grown_trans (grown_trans (grown_trans (grown_trans (grown_setCell w8 w.heap.size 0 (.int .i64 id)) (grown_setCell _ w.heap.size 1 (.int .i64 y))) (grown_setCell _ w.heap.size 2 (.int .i64 xw))) (grown_setCell _ w.heap.size 3 (.int .i64 xg))) (grown_setCell _ w.heap.size 4 (.int .i64 xp)))
      go_wp2
      refine bodyPost_ret (v := .agg #[.int .i64 id, .int .i64 y, .int .i64 xw, .int .i64 xg, .int .i64 xp]) (by simp [results, Tryd.results63, go_sem, Z0.out, Z1.out, Z2.out, Z3.out, Z4.out]) rfl ⟨⟨id, y, xw, xg, xp⟩, rfl, by show (-10 ≤ id ∧ id ≤ 200) ∧ (0 ≤ y ∧ y ≤ 17) ∧ (99 ≤ xw ∧ xw ≤ 2001) ∧ (-1 ≤ xg ∧ xg ≤ 4) ∧ (-1 ≤ xp ∧ xp ≤ 100000); omega, (C8.out.grown GG.out (fun j hj => by cases hj; exact hb)).mono (by omega), grown_past G8.out GG.out (Nat.le_refl _)⟩
    · have t1 : ((r : Int) == 1) = false := by rw [beq_eq_false_iff_ne]; omega
      by_cases e2 : r = 2
      · have t2 : ((r : Int) == 2) = true := by rw [beq_iff_eq]; omega
        go_wp2_with fail
        refine (among_any B b (k + 2 + 2 + 2 + 2 + 2) w6.heap.size 2 2 [99, 2001] _ (C6.out.alloc _) (by omega) rfl (by omega) (by omega) (by omega) (num_cells w6 3 [99, 2001] _ rfl)).mono ?_
        rintro e w7 ⟨y, hx7, rfl, hc, hg⟩
        have hb7 : 99 ≤ y ∧ y ≤ 2001 := by simp at hx7; omega
        have K7 := Lib.hid ((hg.block w.heap.size (by simp; omega) (fun e => by have := Option.some.inj e; omega)).trans (old_allocD (o' := .cells #[.int .i64 99, .int .i64 2001] 3) K6.out))
        have M7 := Lib.hid ((hg.block w4.heap.size (by simp; omega) (fun e => by have := Option.some.inj e; omega)).trans (old_allocD (o' := .cells #[.int .i64 99, .int .i64 2001] 3) M6.out))
        have G7 := Lib.hid (grown_trans (grown_trans G6.out (World.grownBy_alloc _ (.cells #[.int .i64 99, .int .i64 2001] 3) (some b))) hg)
        have C7 := Lib.hid hc
        have hz7 := hg.size
        simp at hz7
        clear hc hg hx7
        have mm := M7.out
        have q0 := cell_of_row w7 w4.heap.size 2 _ _ _ mm
        have q1 := frozen_of_row w7 w4.heap.size 2 _ _ mm
        simp at q0
        clear mm
        have M8 := Lib.hid (blk_setD (i := 2) (v := .int .i64 y) M7.out)
        have K8 : Hid ((w7.setCell ⟨w4.heap.size, 2, none⟩ (.int .i64 y)).heap[w.heap.size]? = some (.cells #[.int .i64 0, .int .i64 0, .int .i64 0, .int .i64 0, .int .i64 0] 34 (0, 0))) := Lib.hid (by simp only [World.setCell, Array.getElem?_modify]; rw [if_neg (by show ¬ w4.heap.size = w.heap.size; omega)]; exact K7.out)
        have G8 := Lib.hid (grown_past G7.out (grown_setCell w7 w4.heap.size 2 (.int .i64 y)) (by omega))
        have C8 := Lib.hid (C7.out.grown (grown_setCell w7 w4.heap.size 2 (.int .i64 y)) (fun j hj => by cases hj; omega))
        go_upto_region 13 with fail
        generalize hw8 : w7.setCell ⟨w4.heap.size, 2, none⟩ (.int .i64 y) = w8 at *
        clear hw8 q0 q1
        have kk8 := K8.out
        have mm8 := M8.out
        have a0 := cell_of_row w8 w4.heap.size 0 _ _ _ mm8
        have a1 := cell_of_row w8 w4.heap.size 1 _ _ _ mm8
        have a2 := cell_of_row w8 w4.heap.size 2 _ _ _ mm8
        have a3 := cell_of_row w8 w4.heap.size 3 _ _ _ mm8
        have a4 := cell_of_row w8 w4.heap.size 4 _ _ _ mm8
        have c0 := cell_of_row w8 w.heap.size 0 _ _ _ kk8
        have c1 := cell_of_row w8 w.heap.size 1 _ _ _ kk8
        have c2 := cell_of_row w8 w.heap.size 2 _ _ _ kk8
        have c3 := cell_of_row w8 w.heap.size 3 _ _ _ kk8
        have c4 := cell_of_row w8 w.heap.size 4 _ _ _ kk8
        have d0 := frozen_of_row w8 w.heap.size 0 _ _ kk8
        have d1 := frozen_of_row w8 w.heap.size 1 _ _ kk8
        have d2 := frozen_of_row w8 w.heap.size 2 _ _ kk8
        have d3 := frozen_of_row w8 w.heap.size 3 _ _ kk8
        have d4 := frozen_of_row w8 w.heap.size 4 _ _ kk8
        have s0 := blk_setD (i := 0) (v := .int .i64 id) kk8
        have z0 := cell_of_row _ w.heap.size 0 _ _ _ s0
        have s1 := blk_setD (i := 1) (v := .int .i64 xs) s0
        have z1 := cell_of_row _ w.heap.size 1 _ _ _ s1
        have s2 := blk_setD (i := 2) (v := .int .i64 y) s1
        have z2 := cell_of_row _ w.heap.size 2 _ _ _ s2
        have s3 := blk_setD (i := 3) (v := .int .i64 xg) s2
        have z3 := cell_of_row _ w.heap.size 3 _ _ _ s3
        have s4 := blk_setD (i := 4) (v := .int .i64 xp) s3
        have z4 := cell_of_row _ w.heap.size 4 _ _ _ s4
        simp at a0 a1 a2 a3 a4 c0 c1 c2 c3 c4 z0 z1 z2 z3 z4
        have Z0 := Lib.hid z0
        have Z1 := Lib.hid z1
        have Z2 := Lib.hid z2
        have Z3 := Lib.hid z3
        have Z4 := Lib.hid z4
        clear kk8 mm8 s0 s1 s2 s3 s4 z0 z1 z2 z3 z4
        have GG := Lib.hid (grown_trans (grown_trans (grown_trans (grown_trans (grown_setCell w8 w.heap.size 0 (.int .i64 id)) (grown_setCell _ w.heap.size 1 (.int .i64 xs))) (grown_setCell _ w.heap.size 2 (.int .i64 y))) (grown_setCell _ w.heap.size 3 (.int .i64 xg))) (grown_setCell _ w.heap.size 4 (.int .i64 xp)))
        go_wp2
        refine bodyPost_ret (v := .agg #[.int .i64 id, .int .i64 xs, .int .i64 y, .int .i64 xg, .int .i64 xp]) (by simp [results, Tryd.results63, go_sem, Z0.out, Z1.out, Z2.out, Z3.out, Z4.out]) rfl ⟨⟨id, xs, y, xg, xp⟩, rfl, by show (-10 ≤ id ∧ id ≤ 200) ∧ (0 ≤ xs ∧ xs ≤ 17) ∧ (99 ≤ y ∧ y ≤ 2001) ∧ (-1 ≤ xg ∧ xg ≤ 4) ∧ (-1 ≤ xp ∧ xp ≤ 100000); omega, (C8.out.grown GG.out (fun j hj => by cases hj; exact hb)).mono (by omega), grown_past G8.out GG.out (Nat.le_refl _)⟩
      · have t2 : ((r : Int) == 2) = false := by rw [beq_eq_false_iff_ne]; omega
        by_cases e3 : r = 3
        · have t3 : ((r : Int) == 3) = true := by rw [beq_iff_eq]; omega
          go_wp2_with fail
          refine (among_any B b (k + 2 + 2 + 2 + 2 + 2) w6.heap.size 2 2 [-1, 4] _ (C6.out.alloc _) (by omega) rfl (by omega) (by omega) (by omega) (num_cells w6 3 [-1, 4] _ rfl)).mono ?_
          rintro e w7 ⟨y, hx7, rfl, hc, hg⟩
          have hb7 : -1 ≤ y ∧ y ≤ 4 := by simp at hx7; omega
          have K7 := Lib.hid ((hg.block w.heap.size (by simp; omega) (fun e => by have := Option.some.inj e; omega)).trans (old_allocD (o' := .cells #[.int .i64 (-1), .int .i64 4] 3) K6.out))
          have M7 := Lib.hid ((hg.block w4.heap.size (by simp; omega) (fun e => by have := Option.some.inj e; omega)).trans (old_allocD (o' := .cells #[.int .i64 (-1), .int .i64 4] 3) M6.out))
          have G7 := Lib.hid (grown_trans (grown_trans G6.out (World.grownBy_alloc _ (.cells #[.int .i64 (-1), .int .i64 4] 3) (some b))) hg)
          have C7 := Lib.hid hc
          have hz7 := hg.size
          simp at hz7
          clear hc hg hx7
          have mm := M7.out
          have q0 := cell_of_row w7 w4.heap.size 3 _ _ _ mm
          have q1 := frozen_of_row w7 w4.heap.size 3 _ _ mm
          simp at q0
          clear mm
          have M8 := Lib.hid (blk_setD (i := 3) (v := .int .i64 y) M7.out)
          have K8 : Hid ((w7.setCell ⟨w4.heap.size, 3, none⟩ (.int .i64 y)).heap[w.heap.size]? = some (.cells #[.int .i64 0, .int .i64 0, .int .i64 0, .int .i64 0, .int .i64 0] 34 (0, 0))) := Lib.hid (by simp only [World.setCell, Array.getElem?_modify]; rw [if_neg (by show ¬ w4.heap.size = w.heap.size; omega)]; exact K7.out)
          have G8 := Lib.hid (grown_past G7.out (grown_setCell w7 w4.heap.size 3 (.int .i64 y)) (by omega))
          have C8 := Lib.hid (C7.out.grown (grown_setCell w7 w4.heap.size 3 (.int .i64 y)) (fun j hj => by cases hj; omega))
          go_upto_region 13 with fail
          generalize hw8 : w7.setCell ⟨w4.heap.size, 3, none⟩ (.int .i64 y) = w8 at *
          clear hw8 q0 q1
          have kk8 := K8.out
          have mm8 := M8.out
          have a0 := cell_of_row w8 w4.heap.size 0 _ _ _ mm8
          have a1 := cell_of_row w8 w4.heap.size 1 _ _ _ mm8
          have a2 := cell_of_row w8 w4.heap.size 2 _ _ _ mm8
          have a3 := cell_of_row w8 w4.heap.size 3 _ _ _ mm8
          have a4 := cell_of_row w8 w4.heap.size 4 _ _ _ mm8
          have c0 := cell_of_row w8 w.heap.size 0 _ _ _ kk8
          have c1 := cell_of_row w8 w.heap.size 1 _ _ _ kk8
          have c2 := cell_of_row w8 w.heap.size 2 _ _ _ kk8
          have c3 := cell_of_row w8 w.heap.size 3 _ _ _ kk8
          have c4 := cell_of_row w8 w.heap.size 4 _ _ _ kk8
          have d0 := frozen_of_row w8 w.heap.size 0 _ _ kk8
          have d1 := frozen_of_row w8 w.heap.size 1 _ _ kk8
          have d2 := frozen_of_row w8 w.heap.size 2 _ _ kk8
          have d3 := frozen_of_row w8 w.heap.size 3 _ _ kk8
          have d4 := frozen_of_row w8 w.heap.size 4 _ _ kk8
          have s0 := blk_setD (i := 0) (v := .int .i64 id) kk8
          have z0 := cell_of_row _ w.heap.size 0 _ _ _ s0
          have s1 := blk_setD (i := 1) (v := .int .i64 xs) s0
          have z1 := cell_of_row _ w.heap.size 1 _ _ _ s1
          have s2 := blk_setD (i := 2) (v := .int .i64 xw) s1
          have z2 := cell_of_row _ w.heap.size 2 _ _ _ s2
          have s3 := blk_setD (i := 3) (v := .int .i64 y) s2
          have z3 := cell_of_row _ w.heap.size 3 _ _ _ s3
          have s4 := blk_setD (i := 4) (v := .int .i64 xp) s3
          have z4 := cell_of_row _ w.heap.size 4 _ _ _ s4
          simp at a0 a1 a2 a3 a4 c0 c1 c2 c3 c4 z0 z1 z2 z3 z4
          have Z0 := Lib.hid z0
          have Z1 := Lib.hid z1
          have Z2 := Lib.hid z2
          have Z3 := Lib.hid z3
          have Z4 := Lib.hid z4
          clear kk8 mm8 s0 s1 s2 s3 s4 z0 z1 z2 z3 z4
          have GG := Lib.hid (grown_trans (grown_trans (grown_trans (grown_trans (grown_setCell w8 w.heap.size 0 (.int .i64 id)) (grown_setCell _ w.heap.size 1 (.int .i64 xs))) (grown_setCell _ w.heap.size 2 (.int .i64 xw))) (grown_setCell _ w.heap.size 3 (.int .i64 y))) (grown_setCell _ w.heap.size 4 (.int .i64 xp)))
          go_wp2
          refine bodyPost_ret (v := .agg #[.int .i64 id, .int .i64 xs, .int .i64 xw, .int .i64 y, .int .i64 xp]) (by simp [results, Tryd.results63, go_sem, Z0.out, Z1.out, Z2.out, Z3.out, Z4.out]) rfl ⟨⟨id, xs, xw, y, xp⟩, rfl, by show (-10 ≤ id ∧ id ≤ 200) ∧ (0 ≤ xs ∧ xs ≤ 17) ∧ (99 ≤ xw ∧ xw ≤ 2001) ∧ (-1 ≤ y ∧ y ≤ 4) ∧ (-1 ≤ xp ∧ xp ≤ 100000); omega, (C8.out.grown GG.out (fun j hj => by cases hj; exact hb)).mono (by omega), grown_past G8.out GG.out (Nat.le_refl _)⟩
        · have t3 : ((r : Int) == 3) = false := by rw [beq_eq_false_iff_ne]; omega
          by_cases e4 : r = 4
          · have t4 : ((r : Int) == 4) = true := by rw [beq_iff_eq]; omega
            go_wp2_with fail
            refine (among_any B b (k + 2 + 2 + 2 + 2 + 2) w6.heap.size 2 2 [-1, 100000] _ (C6.out.alloc _) (by omega) rfl (by omega) (by omega) (by omega) (num_cells w6 3 [-1, 100000] _ rfl)).mono ?_
            rintro e w7 ⟨y, hx7, rfl, hc, hg⟩
            have hb7 : -1 ≤ y ∧ y ≤ 100000 := by simp at hx7; omega
            have K7 := Lib.hid ((hg.block w.heap.size (by simp; omega) (fun e => by have := Option.some.inj e; omega)).trans (old_allocD (o' := .cells #[.int .i64 (-1), .int .i64 100000] 3) K6.out))
            have M7 := Lib.hid ((hg.block w4.heap.size (by simp; omega) (fun e => by have := Option.some.inj e; omega)).trans (old_allocD (o' := .cells #[.int .i64 (-1), .int .i64 100000] 3) M6.out))
            have G7 := Lib.hid (grown_trans (grown_trans G6.out (World.grownBy_alloc _ (.cells #[.int .i64 (-1), .int .i64 100000] 3) (some b))) hg)
            have C7 := Lib.hid hc
            have hz7 := hg.size
            simp at hz7
            clear hc hg hx7
            have mm := M7.out
            have q0 := cell_of_row w7 w4.heap.size 4 _ _ _ mm
            have q1 := frozen_of_row w7 w4.heap.size 4 _ _ mm
            simp at q0
            clear mm
            have M8 := Lib.hid (blk_setD (i := 4) (v := .int .i64 y) M7.out)
            have K8 : Hid ((w7.setCell ⟨w4.heap.size, 4, none⟩ (.int .i64 y)).heap[w.heap.size]? = some (.cells #[.int .i64 0, .int .i64 0, .int .i64 0, .int .i64 0, .int .i64 0] 34 (0, 0))) := Lib.hid (by simp only [World.setCell, Array.getElem?_modify]; rw [if_neg (by show ¬ w4.heap.size = w.heap.size; omega)]; exact K7.out)
            have G8 := Lib.hid (grown_past G7.out (grown_setCell w7 w4.heap.size 4 (.int .i64 y)) (by omega))
            have C8 := Lib.hid (C7.out.grown (grown_setCell w7 w4.heap.size 4 (.int .i64 y)) (fun j hj => by cases hj; omega))
            go_upto_region 13 with fail
            generalize hw8 : w7.setCell ⟨w4.heap.size, 4, none⟩ (.int .i64 y) = w8 at *
            clear hw8 q0 q1
            have kk8 := K8.out
            have mm8 := M8.out
            have a0 := cell_of_row w8 w4.heap.size 0 _ _ _ mm8
            have a1 := cell_of_row w8 w4.heap.size 1 _ _ _ mm8
            have a2 := cell_of_row w8 w4.heap.size 2 _ _ _ mm8
            have a3 := cell_of_row w8 w4.heap.size 3 _ _ _ mm8
            have a4 := cell_of_row w8 w4.heap.size 4 _ _ _ mm8
            have c0 := cell_of_row w8 w.heap.size 0 _ _ _ kk8
            have c1 := cell_of_row w8 w.heap.size 1 _ _ _ kk8
            have c2 := cell_of_row w8 w.heap.size 2 _ _ _ kk8
            have c3 := cell_of_row w8 w.heap.size 3 _ _ _ kk8
            have c4 := cell_of_row w8 w.heap.size 4 _ _ _ kk8
            have d0 := frozen_of_row w8 w.heap.size 0 _ _ kk8
            have d1 := frozen_of_row w8 w.heap.size 1 _ _ kk8
            have d2 := frozen_of_row w8 w.heap.size 2 _ _ kk8
            have d3 := frozen_of_row w8 w.heap.size 3 _ _ kk8
            have d4 := frozen_of_row w8 w.heap.size 4 _ _ kk8
            have s0 := blk_setD (i := 0) (v := .int .i64 id) kk8
            have z0 := cell_of_row _ w.heap.size 0 _ _ _ s0
            have s1 := blk_setD (i := 1) (v := .int .i64 xs) s0
            have z1 := cell_of_row _ w.heap.size 1 _ _ _ s1
            have s2 := blk_setD (i := 2) (v := .int .i64 xw) s1
            have z2 := cell_of_row _ w.heap.size 2 _ _ _ s2
            have s3 := blk_setD (i := 3) (v := .int .i64 xg) s2
            have z3 := cell_of_row _ w.heap.size 3 _ _ _ s3
            have s4 := blk_setD (i := 4) (v := .int .i64 y) s3
            have z4 := cell_of_row _ w.heap.size 4 _ _ _ s4
            simp at a0 a1 a2 a3 a4 c0 c1 c2 c3 c4 z0 z1 z2 z3 z4
            have Z0 := Lib.hid z0
            have Z1 := Lib.hid z1
            have Z2 := Lib.hid z2
            have Z3 := Lib.hid z3
            have Z4 := Lib.hid z4
            clear kk8 mm8 s0 s1 s2 s3 s4 z0 z1 z2 z3 z4
            have GG := Lib.hid (grown_trans (grown_trans (grown_trans (grown_trans (grown_setCell w8 w.heap.size 0 (.int .i64 id)) (grown_setCell _ w.heap.size 1 (.int .i64 xs))) (grown_setCell _ w.heap.size 2 (.int .i64 xw))) (grown_setCell _ w.heap.size 3 (.int .i64 xg))) (grown_setCell _ w.heap.size 4 (.int .i64 y)))
            go_wp2
            refine bodyPost_ret (v := .agg #[.int .i64 id, .int .i64 xs, .int .i64 xw, .int .i64 xg, .int .i64 y]) (by simp [results, Tryd.results63, go_sem, Z0.out, Z1.out, Z2.out, Z3.out, Z4.out]) rfl ⟨⟨id, xs, xw, xg, y⟩, rfl, by show (-10 ≤ id ∧ id ≤ 200) ∧ (0 ≤ xs ∧ xs ≤ 17) ∧ (99 ≤ xw ∧ xw ≤ 2001) ∧ (-1 ≤ xg ∧ xg ≤ 4) ∧ (-1 ≤ y ∧ y ≤ 100000); omega, (C8.out.grown GG.out (fun j hj => by cases hj; exact hb)).mono (by omega), grown_past G8.out GG.out (Nat.le_refl _)⟩
          · have t4 : ((r : Int) == 4) = false := by rw [beq_eq_false_iff_ne]; omega
            have kk6 := K6.out
            have mm6 := M6.out
            have a0 := cell_of_row w6 w4.heap.size 0 _ _ _ mm6
            have a1 := cell_of_row w6 w4.heap.size 1 _ _ _ mm6
            have a2 := cell_of_row w6 w4.heap.size 2 _ _ _ mm6
            have a3 := cell_of_row w6 w4.heap.size 3 _ _ _ mm6
            have a4 := cell_of_row w6 w4.heap.size 4 _ _ _ mm6
            have c0 := cell_of_row w6 w.heap.size 0 _ _ _ kk6
            have c1 := cell_of_row w6 w.heap.size 1 _ _ _ kk6
            have c2 := cell_of_row w6 w.heap.size 2 _ _ _ kk6
            have c3 := cell_of_row w6 w.heap.size 3 _ _ _ kk6
            have c4 := cell_of_row w6 w.heap.size 4 _ _ _ kk6
            have d0 := frozen_of_row w6 w.heap.size 0 _ _ kk6
            have d1 := frozen_of_row w6 w.heap.size 1 _ _ kk6
            have d2 := frozen_of_row w6 w.heap.size 2 _ _ kk6
            have d3 := frozen_of_row w6 w.heap.size 3 _ _ kk6
            have d4 := frozen_of_row w6 w.heap.size 4 _ _ kk6
            have s0 := blk_setD (i := 0) (v := .int .i64 id) kk6
            have z0 := cell_of_row _ w.heap.size 0 _ _ _ s0
            have s1 := blk_setD (i := 1) (v := .int .i64 xs) s0
            have z1 := cell_of_row _ w.heap.size 1 _ _ _ s1
            have s2 := blk_setD (i := 2) (v := .int .i64 xw) s1
            have z2 := cell_of_row _ w.heap.size 2 _ _ _ s2
            have s3 := blk_setD (i := 3) (v := .int .i64 xg) s2
            have z3 := cell_of_row _ w.heap.size 3 _ _ _ s3
            have s4 := blk_setD (i := 4) (v := .int .i64 xp) s3
            have z4 := cell_of_row _ w.heap.size 4 _ _ _ s4
            simp at a0 a1 a2 a3 a4 c0 c1 c2 c3 c4 z0 z1 z2 z3 z4
            have Z0 := Lib.hid z0
            have Z1 := Lib.hid z1
            have Z2 := Lib.hid z2
            have Z3 := Lib.hid z3
            have Z4 := Lib.hid z4
            clear kk6 mm6 s0 s1 s2 s3 s4 z0 z1 z2 z3 z4
            have GG := Lib.hid (grown_trans (grown_trans (grown_trans (grown_trans (grown_setCell w6 w.heap.size 0 (.int .i64 id)) (grown_setCell _ w.heap.size 1 (.int .i64 xs))) (grown_setCell _ w.heap.size 2 (.int .i64 xw))) (grown_setCell _ w.heap.size 3 (.int .i64 xg))) (grown_setCell _ w.heap.size 4 (.int .i64 xp)))
            go_wp2
            refine bodyPost_ret (v := .agg #[.int .i64 id, .int .i64 xs, .int .i64 xw, .int .i64 xg, .int .i64 xp]) (by simp [results, Tryd.results63, go_sem, Z0.out, Z1.out, Z2.out, Z3.out, Z4.out]) rfl ⟨⟨id, xs, xw, xg, xp⟩, rfl, by show (-10 ≤ id ∧ id ≤ 200) ∧ (0 ≤ xs ∧ xs ≤ 17) ∧ (99 ≤ xw ∧ xw ≤ 2001) ∧ (-1 ≤ xg ∧ xg ≤ 4) ∧ (-1 ≤ xp ∧ xp ≤ 100000); omega, (C6.out.grown GG.out (fun j hj => by cases hj; exact hb)).mono (by omega), grown_past G6.out GG.out (Nat.le_refl _)⟩
end Go.Proofs.YtiogjocbiagipabDoor

namespace Go.Proofs.YtiogjocbiagipabDoor
open Go.RowKit
set_option linter.unusedVariables false
/-- What drawing cabins leaves. -/
def CbsPost (B b k : Nat) (w : World) (e : Ending) (w' : World) : Prop := ∃ (v : Value) (l : List Cab), e = .returned v ∧ w'.ownsRow w.heap.size 34 5 v l.length (cabs l) ∧ l.length ≤ 13 ∧ Cur B b (k + 500) w' ∧ Below B w w' ∧ (∀ q, q < l.length → CabB (gth l q))
theorem cab_all {l : List Cab} {x : Cab} (h : ∀ q, q < l.length → CabB (gth l q)) (hx : CabB x) : ∀ q, q < (l ++ [x]).length → CabB (gth (l ++ [x]) q) := by
  intro q hq
  rw [List.length_append] at hq
  by_cases e : q < l.length
  · rw [gth_append_left e]; exact h q e
  · have : q = l.length := by simp at hq; omega
    rw [gth_append_right (by omega), this, Nat.sub_self]
    exact hx
theorem slice_of_own {w : World} {B e size n : Nat} {v : Value} {xs : List Value} (h : w.ownsRow B e size v n xs) : ∃ a ca, v = .slice a n ca := by
  rcases h.2 with ⟨rfl, rfl⟩ | ⟨g, cap, cur, rfl, _⟩
  · exact ⟨_, _, rfl⟩
  · exact ⟨_, _, rfl⟩
set_option maxRecDepth 100000 in
set_option maxHeartbeats 1500000 in
theorem cabins_any (B b k : Nat) (w : World) (h : Cur B b k w) (hk : k ≤ 700000000) :
    Calls Tryd.prog 69 #[.pointer (some ⟨b, 0, none⟩)] w (CbsPost B b k w) := by
  obtain ⟨i0, hi, hz0, hz1, hz2⟩ := info_parts Tryd.infoCab
  have hBb := h.1
  have hbw := h.2.1
  have HO0 : Hid ((w.alloc (.cells #[] 34)).ownsRow w.heap.size 34 5 (.slice (some ⟨w.heap.size, 0, none⟩) 0 0) 0 []) := Lib.hid (World.ownsRow_made w (e := 34) (size := 5) #[] 0 (Nat.le_refl _) (by decide) rfl)
  have HG0 := Lib.hid ((Below.refl B w).alloc (by omega) (.cells #[] 34))
  have HC0 := Lib.hid (h.alloc (.cells #[] 34))
  have hsa : (w.alloc (.cells #[] 34)).heap.size = w.heap.size + 1 := by simp
  clear h
  go_enter Tryd.func69, Tryd.ntmps69
  go_upto_region 2 with fail
  generalize hwa : w.alloc (.cells #[] 34) = wa at *
  clear hwa
  go_wp2_with fail
  refine (pick_any B b k 9 wa HC0.out (by omega) (by omega) (by omega)).mono ?_
  rintro e w1 ⟨m0, rfl, hm0, hc, hg⟩
  have HS1 : Hid (Cur B b (k + 2) w1 ∧ Below B w w1) := Lib.hid ⟨hc, Below.trans HG0.out (grown_below hg (by omega) (fun k hk => by cases hk; exact hBb))⟩
  have HO1 := Lib.hid (HO0.out.kept hg (.inr (fun e => by have e2 : w.heap.size = b := Option.some.inj e; omega)))
  have hs1 := hg.size
  clear hc hg HO0 HG0 HC0
  go_wp2
  go_loopw [3, 4, 5] (fun out id n wr => ∃ (m : Nat) (i : Int) (l : List Cab), n = .int .i64 (m : Int) ∧ id = .int .i64 i ∧ m ≤ 8 ∧ (0 ≤ i ∧ i ≤ 3 * (8 - (m : Int))) ∧ l.length + m ≤ 8 ∧ w.heap.size < wr.heap.size ∧ wr.ownsRow w.heap.size 34 5 out l.length (cabs l) ∧ Hid (Cur B b (k + 2 + 24 * (8 - m)) wr ∧ Below B w wr) ∧ Hid (∀ q, q < l.length → CabB (gth l q))) (fun _ _ n _ => (intOf n).toNat)
  case atStart => exact ⟨m0, 0, [], rfl, rfl, by omega, by omega, by simp; omega, by omega, HO1.out, Lib.hid ⟨HS1.out.1.mono (by omega), HS1.out.2⟩, Lib.hid (fun q hq => by simp at hq)⟩
  case round =>
    obtain ⟨m, i, l, rfl, rfl, hm5, hib, hlm, hsz, hown, HS, HQ⟩ := hrel
    by_cases hm : 0 < m
    · have HO := Lib.hid hown
      have hbo : u3.ownBlock = none ∨ u3.ownBlock ≠ some b := by
        cases hu : u3.ownBlock with
        | none => exact .inl rfl
        | some j => exact .inr (fun e => by have := (hown.lt j hu).1; have := Option.some.inj e; omega)
      clear hown
      have hmi : (0 : Int) < (m : Int) := by omega
      have s1 : IntKind.i64.wrap (i + 1) = i + 1 := IntWalk.i64_in _ (by omega)
      go_wp2_with fail
      refine (pick_any B b _ 3 wr HS.out.1 (by omega) (by omega) (by omega)).mono ?_
      rintro e w2 ⟨r, rfl, hr, hc, hg⟩
      have HS2 : Hid (Cur B b _ w2 ∧ Below B w w2) := Lib.hid ⟨hc, Below.trans HS.out.2 (grown_below hg (by omega) (fun k hk => by cases hk; exact hBb))⟩
      have HO2 := Lib.hid (HO.out.kept hg hbo)
      have hs2 := hg.size
      clear hc hg HO HS
      have s2 : IntKind.i64.wrap (i + 1 + (r : Int)) = i + 1 + (r : Int) := IntWalk.i64_in _ (by omega)
      go_wp2_with fail
      refine (pick_any B b _ 80 w2 HS2.out.1 (by omega) (by omega) (by omega)).mono ?_
      rintro e w3 ⟨r2, rfl, hr2, hc, hg⟩
      have HS3 : Hid (Cur B b _ w3 ∧ Below B w w3) := Lib.hid ⟨hc, Below.trans HS2.out.2 (grown_below hg (by omega) (fun k hk => by cases hk; exact hBb))⟩
      have HO3 := Lib.hid (HO2.out.kept hg hbo)
      have hs3 := hg.size
      clear hc hg HO2 HS2
      obtain ⟨c, hc01, t1⟩ : ∃ c : Int, (0 ≤ c ∧ c ≤ 1) ∧ Int.tdiv (r2 : Int) 79 = c := ⟨Int.tdiv (r2 : Int) 79, by rw [Int.tdiv_eq_ediv_of_nonneg (by omega)]; omega, rfl⟩
      have s3 : IntKind.i64.wrap c = c := IntWalk.i64_in _ (by omega)
      obtain ⟨i2, hid2⟩ : ∃ i2, i2 = i + 1 + (r : Int) - c := ⟨_, rfl⟩
      have s4 : IntKind.i64.wrap (i + 1 + (r : Int) - c) = i2 := by rw [hid2]; exact IntWalk.i64_in _ (by omega)
      have hi2 : 0 ≤ i2 ∧ i2 ≤ i + 3 := by omega
      clear hid2
      go_wp2_with fail
      refine (cabin_any B b _ i2 w3 HS3.out.1 (by omega) (by omega)).mono ?_
      rintro e w4 ⟨x, rfl, hx, hc, hg⟩
      have HXB := Lib.hid hx
      clear hx
      have HS4 : Hid (Cur B b _ w4 ∧ Below B w w4) := Lib.hid ⟨hc, Below.trans HS3.out.2 (grown_below hg (by omega) (fun k hk => by cases hk; exact hBb))⟩
      have hown4 := HO3.out.kept hg hbo
      have hs4 := hg.size
      clear hc hg HO3 HS3 t1 s1 s2 s3 s4
      unfold Cab.agg
      go_wp2_with (at_builtin; refine wpList_append_own _ rfl _ _ 24 rfl w.heap.size 34 i0 (.agg #[.int .i64 0, .int .i64 0, .int .i64 0, .int .i64 0, .int .i64 0]) 5 40 Tryd.underlying24 hi hz0 hz1 hz2 rfl (by decide) _ _ _ rfl (hown4.alloc _) ⟨w4.heap.size, 0, none⟩ 1 1 [.int .i64 x.i, .int .i64 x.s, .int .i64 x.w, .int .i64 x.g, .int .i64 x.p] rfl rfl (World.news_of_block (cs := #[.int .i64 x.i, .int .i64 x.s, .int .i64 x.w, .int .i64 x.g, .int .i64 x.p]) (t := 34) (fr := (0, 0)) (heap_alloc_new w4 _)) (by simp [Value.oneCell']) (by unfold maxLen; omega) (by omega) (by simp; omega) ?_; intro v' w8 hown' hgrow _)
      have HGa := Lib.hid (HS4.out.2.alloc (by omega) (.cells #[.int .i64 x.i, .int .i64 x.s, .int .i64 x.w, .int .i64 x.g, .int .i64 x.p] 34))
      have hgr : (w4.alloc (.cells #[.int .i64 x.i, .int .i64 x.s, .int .i64 x.w, .int .i64 x.g, .int .i64 x.p] 34)).grownBy w8 u3.ownBlock := hgrow
      have HC8 := Lib.hid ((HS4.out.1.alloc (.cells #[.int .i64 x.i, .int .i64 x.s, .int .i64 x.w, .int .i64 x.g, .int .i64 x.p] 34)).grown hgr (fun j hj => by have := (hown4.lt j hj).1; omega))
      have hgs := hgr.size
      simp at hgs
      have p1 : IntKind.i64.wrap ((m : Int) - 1) = ((m - 1 : Nat) : Int) := by rw [show (m : Int) - 1 = ((m - 1 : Nat) : Int) by omega]; exact IntWalk.i64_in _ (by omega)
      have hlt4 := fun j hj => (hown4.lt j hj).1
      have HX8 : Hid (Below B w w8) := Lib.hid (HGa.out.grown hgr (by simp; omega) (fun j hj => by have := hlt4 j hj; omega))
      have HOW := Lib.hid hown'
      clear hown' hgrow hown4
      go_wp2
      go_roundw
      case rel => exact ⟨m - 1, i2, l ++ [x], by go_num, rfl, by omega, by omega, by rw [List.length_append]; simp; omega, by omega, by rw [cabs_append, cabs_one, List.length_append]; exact HOW.out, Lib.hid ⟨HC8.out.mono (by omega), HX8.out⟩, Lib.hid (cab_all HQ.out HXB.out)⟩
      case measure => simp [intOf]; omega
    · obtain rfl : m = 0 := by omega
      have HO := Lib.hid hown
      have hbo : u3.ownBlock = none ∨ u3.ownBlock ≠ some b := by
        cases hu : u3.ownBlock with
        | none => exact .inl rfl
        | some j => exact .inr (fun e => by have := (hown.lt j hu).1; have := Option.some.inj e; omega)
      obtain ⟨ao, cao, hve⟩ := slice_of_own hown
      subst hve
      clear hown
      go_wp2_with fail
      refine (one_any B b _ 24 wr HS.out.1 (by omega) (by omega) (by omega)).mono ?_
      rintro e w2 ⟨q, rfl, hc, hg⟩
      have HS2 : Hid (Cur B b _ w2 ∧ Below B w w2) := Lib.hid ⟨hc, Below.trans HS.out.2 (grown_below hg (by omega) (fun k hk => by cases hk; exact hBb))⟩
      have HO2 := Lib.hid (HO.out.kept hg hbo)
      have hs2 := hg.size
      clear hc hg HO HS
      cases q with
      | false =>
        go_wp2
        go_ret
        exact ⟨_, l, rfl, HO2.out, by omega, HS2.out.1.mono (by omega), HS2.out.2, HQ.out⟩
      | true =>
        go_wp2_with fail
        go_loopw [3, 4] (fun out id wr => ∃ (i : Int) (l2 : List Cab), id = .int .i64 i ∧ (∃ a ca, out = .slice a l2.length ca) ∧ (0 ≤ i ∧ i ≤ 24 + (l2.length : Int)) ∧ l2.length ≤ 13 ∧ w.heap.size < wr.heap.size ∧ wr.ownsRow w.heap.size 34 5 out l2.length (cabs l2) ∧ Hid (Cur B b (k + 400 + 2 * l2.length) wr ∧ Below B w wr) ∧ Hid (∀ q, q < l2.length → CabB (gth l2 q))) (fun out _ _ => match out with | .slice _ n _ => 14 - n | _ => 0)
        case atStart => exact ⟨i, l, rfl, ⟨_, _, rfl⟩, by omega, by omega, by omega, HO2.out, Lib.hid ⟨HS2.out.1.mono (by omega), HS2.out.2⟩, HQ⟩
        case round =>
          obtain ⟨i, l2, rfl, ⟨a2, ca2, rfl⟩, hib, hl7, hsz, hown, HS, HQ2⟩ := hrel
          have HO := Lib.hid hown
          have hbo : (Value.slice a2 l2.length ca2).ownBlock = none ∨ (Value.slice a2 l2.length ca2).ownBlock ≠ some b := by
            cases hu : (Value.slice a2 l2.length ca2).ownBlock with
            | none => exact .inl rfl
            | some j => exact .inr (fun e => by have := (hown.lt j hu).1; have := Option.some.inj e; omega)
          clear hown
          go_wp2_with fail
          refine (pick_any B b _ 2 wr HS.out.1 (by omega) (by omega) (by omega)).mono ?_
          rintro e w3 ⟨r, rfl, hr, hc, hg⟩
          have HS3 : Hid (Cur B b _ w3 ∧ Below B w w3) := Lib.hid ⟨hc, Below.trans HS.out.2 (grown_below hg (by omega) (fun k hk => by cases hk; exact hBb))⟩
          have hown3 := HO.out.kept hg hbo
          have hs3 := hg.size
          clear hc hg HO HS
          have s1 : IntKind.i64.wrap (12 + (r : Int)) = 12 + (r : Int) := IntWalk.i64_in _ (by omega)
          by_cases hlt : (l2.length : Int) < 12 + (r : Int)
          · have hd : decide ((l2.length : Int) < 12 + (r : Int)) = true := by simpa using hlt
            have s2 : IntKind.i64.wrap (i + 1) = i + 1 := IntWalk.i64_in _ (by omega)
            have hlt4 := fun j hj => (hown3.lt j hj).1
            have hl12 : l2.length ≤ 12 := by omega
            clear hlt
            go_wp2_with (at_builtin; refine wpList_append_own _ rfl _ _ 24 rfl w.heap.size 34 i0 (.agg #[.int .i64 0, .int .i64 0, .int .i64 0, .int .i64 0, .int .i64 0]) 5 40 Tryd.underlying24 hi hz0 hz1 hz2 rfl (by decide) _ _ _ rfl (hown3.alloc _) ⟨w3.heap.size, 0, none⟩ 1 1 [.int .i64 (i + 1), .int .i64 4, .int .i64 300, .int .i64 0, .int .i64 0] rfl rfl (World.news_of_block (cs := #[.int .i64 (i + 1), .int .i64 4, .int .i64 300, .int .i64 0, .int .i64 0]) (t := 34) (fr := (0, 0)) (heap_alloc_new w3 _)) (by simp [Value.oneCell']) (by unfold maxLen; omega) (by omega) (by simp; omega) ?_; intro v' w8 hown' hgrow _)
            have hgr : (w3.alloc (.cells #[.int .i64 (i + 1), .int .i64 4, .int .i64 300, .int .i64 0, .int .i64 0] 34)).grownBy w8 (Value.slice a2 l2.length ca2).ownBlock := hgrow
            have HC8 := Lib.hid ((HS3.out.1.alloc (.cells #[.int .i64 (i + 1), .int .i64 4, .int .i64 300, .int .i64 0, .int .i64 0] 34)).grown hgr (fun j hj => by have := hlt4 j hj; omega))
            have hgs := hgr.size
            simp at hgs
            have HX8 := Lib.hid ((HS3.out.2.alloc (by omega) (.cells #[.int .i64 (i + 1), .int .i64 4, .int .i64 300, .int .i64 0, .int .i64 0] 34)).grown hgr (by simp; omega) (fun j hj => by have := hlt4 j hj; omega))
            have HOW := Lib.hid hown'
            obtain ⟨a3, ca3, hv3⟩ := slice_of_own hown'
            subst hv3
            clear hown' hgrow hown3
            have hl1 : (l2 ++ [(⟨i + 1, 4, 300, 0, 0⟩ : Cab)]).length = l2.length + 1 := by simp
            go_roundw
            case rel => exact ⟨i + 1, l2 ++ [⟨i + 1, 4, 300, 0, 0⟩], rfl, ⟨a3, ca3, by rw [hl1]⟩, by rw [hl1]; omega, by rw [hl1]; omega, by omega, by rw [cabs_append, cabs_one, hl1]; exact HOW.out, Lib.hid ⟨HC8.out.mono (by rw [hl1]; omega), HX8.out⟩, Lib.hid (cab_all HQ2.out (by show (-10 ≤ i + 1 ∧ i + 1 ≤ 200) ∧ (0 ≤ (4 : Int) ∧ (4 : Int) ≤ 17) ∧ (99 ≤ (300 : Int) ∧ (300 : Int) ≤ 2001) ∧ (-1 ≤ (0 : Int) ∧ (0 : Int) ≤ 4) ∧ (-1 ≤ (0 : Int) ∧ (0 : Int) ≤ 100000); omega))⟩
            case measure => simp; omega
          · have hd : decide ((l2.length : Int) < 12 + (r : Int)) = false := by simpa using hlt
            clear hlt
            go_wp2
            go_ret
            exact ⟨_, l2, rfl, hown3, hl7, HS3.out.1.mono (by omega), HS3.out.2, HQ2.out⟩
end Go.Proofs.YtiogjocbiagipabDoor

namespace Go.Proofs.YtiogjocbiagipabDoor
open Go.RowKit
set_option linter.unusedVariables false
theorem ByteRow.below {w w' : World} {a : Option Addr} {len : Nat} (h : ByteRow w a len) (hb : Below w.heap.size w w') : ByteRow w' a len :=
  ⟨h.1, fun i hi => by
    obtain ⟨c, o, x, h1, h2, h3, h4⟩ := h.2 i hi
    exact ⟨c, o, x, h1, Nat.lt_of_lt_of_le h2 hb.size, h3, (hb.cell (p := ⟨c, o + i, none⟩) h2).trans h4⟩⟩
end Go.Proofs.YtiogjocbiagipabDoor

namespace Go.Proofs.YtiogjocbiagipabDoor
open Go.RowKit
set_option linter.unusedVariables false
set_option linter.unusedVariables false
set_option maxHeartbeats 400000 in
theorem rBig_yes (a : Option Addr) (len cap : Nat) (w : World) (h : 65536 < len) (hm : len ≤ 9223372036854775807) :
    Calls Tryd.prog 13 #[.slice a len cap] w fun e w' => e = .returned (.bool true) ∧ w = w' := by
  have h1 : (65536 : Int) < (len : Int) := by omega
  go_enter Tryd.func13, Tryd.ntmps13
  go_wp2
  go_ret
  exact ⟨rfl, rfl⟩
set_option maxHeartbeats 400000 in
theorem rBig_no (a : Option Addr) (len cap : Nat) (w : World) (h : len ≤ 65536) :
    Calls Tryd.prog 13 #[.slice a len cap] w fun e w' => e = .returned (.bool false) ∧ w = w' := by
  have h1 : decide ((65536 : Int) < (len : Int)) = false := by simp; omega
  go_enter Tryd.func13, Tryd.ntmps13
  go_wp2
  go_ret
  exact ⟨rfl, rfl⟩
set_option maxRecDepth 100000 in
set_option maxHeartbeats 2000000 in
theorem rCabins_same (va vb : Value) (l : List Cab) (w : World) (ha : Rs w va l.length (cabs l)) (hb : Rs w vb l.length (cabs l)) :
    Calls Tryd.prog 22 #[va, vb] w fun e w' => e = .returned (.bool true) ∧ Below w.heap.size w w' := by
  by_cases h0 : l.length = 0
  · obtain rfl := List.eq_nil_of_length_eq_zero h0
    obtain ⟨a, ca, rfl⟩ := ha.zero
    obtain ⟨b, cb, rfl⟩ := hb.zero
    clear ha hb h0
    go_enter Tryd.func22, Tryd.ntmps22
    go_wp2
    refine wp_loop_rounds 1 ?_
    rw [rounds_succ]
    go_wp2
    go_ret
    exact ⟨rfl, Below.refl _ _⟩
  · obtain ⟨a, oa, ca, rfl, hla, hcap, hm, hca⟩ := ha.pos h0
    obtain ⟨b, ob, cb, rfl, hlb, _, _, hcb⟩ := hb.pos h0
    unfold maxLen at hm
    have HA := Lib.hid hca
    have HB := Lib.hid hcb
    clear hca hcb ha hb h0
    go_enter Tryd.func22, Tryd.ntmps22
    go_wp2
    go_loopw [5] (fun i wr => ∃ k : Nat, k ≤ l.length ∧ i = .int .i64 k ∧ Below w.heap.size w wr) (fun i _ => l.length - (intOf i).toNat)
    case atStart => exact ⟨0, Nat.zero_le _, rfl, Below.refl _ _⟩
    case round =>
      obtain ⟨k, hk, rfl, hb⟩ := hrel
      by_cases hlt : k < l.length
      · obtain ⟨e0, e1, e2, e3, e4⟩ := cabs_at l k hlt
        have c0 : wr.cell? ⟨a, oa + k * 5, none⟩ = some (.int .i64 (gth l k).i) := (hb.cell (p := ⟨a, oa + k * 5, none⟩) hla).trans (HA.out _ _ e0)
        have c1 : wr.cell? ⟨a, oa + k * 5 + 1, none⟩ = some (.int .i64 (gth l k).s) := (hb.cell (p := ⟨a, oa + k * 5 + 1, none⟩) hla).trans (HA.out _ _ e1)
        have c2 : wr.cell? ⟨a, oa + k * 5 + 2, none⟩ = some (.int .i64 (gth l k).w) := (hb.cell (p := ⟨a, oa + k * 5 + 2, none⟩) hla).trans (HA.out _ _ e2)
        have c3 : wr.cell? ⟨a, oa + k * 5 + 3, none⟩ = some (.int .i64 (gth l k).g) := (hb.cell (p := ⟨a, oa + k * 5 + 3, none⟩) hla).trans (HA.out _ _ e3)
        have c4 : wr.cell? ⟨a, oa + k * 5 + 4, none⟩ = some (.int .i64 (gth l k).p) := (hb.cell (p := ⟨a, oa + k * 5 + 4, none⟩) hla).trans (HA.out _ _ e4)
        have d0 : wr.cell? ⟨b, ob + k * 5, none⟩ = some (.int .i64 (gth l k).i) := (hb.cell (p := ⟨b, ob + k * 5, none⟩) hlb).trans (HB.out _ _ e0)
        have d1 : wr.cell? ⟨b, ob + k * 5 + 1, none⟩ = some (.int .i64 (gth l k).s) := (hb.cell (p := ⟨b, ob + k * 5 + 1, none⟩) hlb).trans (HB.out _ _ e1)
        have d2 : wr.cell? ⟨b, ob + k * 5 + 2, none⟩ = some (.int .i64 (gth l k).w) := (hb.cell (p := ⟨b, ob + k * 5 + 2, none⟩) hlb).trans (HB.out _ _ e2)
        have d3 : wr.cell? ⟨b, ob + k * 5 + 3, none⟩ = some (.int .i64 (gth l k).g) := (hb.cell (p := ⟨b, ob + k * 5 + 3, none⟩) hlb).trans (HB.out _ _ e3)
        have d4 : wr.cell? ⟨b, ob + k * 5 + 4, none⟩ = some (.int .i64 (gth l k).p) := (hb.cell (p := ⟨b, ob + k * 5 + 4, none⟩) hlb).trans (HB.out _ _ e4)
        have p1 : IntKind.i64.wrap ((k : Int) + 1) = (k : Int) + 1 := IntWalk.i64_in _ (by omega)
        clear e0 e1 e2 e3 e4
        go_wp2_with fail
        go_region
        go_wp2
        go_roundw
        case rel => exact ⟨k + 1, by omega, by go_num, hb.drew⟩
        case measure => simp [intOf]; omega
      · go_wp2
        go_ret
        exact ⟨rfl, hb⟩
set_option linter.unusedVariables false
set_option maxHeartbeats 400000 in
theorem rInts_same (va vb : Value) (l : List Int) (w : World) (ha : Rd w va (intVs l)) (hb : Rd w vb (intVs l)) :
    Calls Tryd.prog 26 #[va, vb] w fun e w' => e = .returned (.bool true) ∧ Drew w w' := by
  by_cases h0 : l = []
  · subst h0
    obtain ⟨a, ca, rfl⟩ := ha.iv0
    obtain ⟨b, cb, rfl⟩ := hb.iv0
    clear ha hb
    go_enter Tryd.func26, Tryd.ntmps26
    go_wp2
    refine wp_loop_rounds 1 ?_
    rw [rounds_succ]
    go_wp2
    go_ret
    exact ⟨rfl, Drew.refl _⟩
  · obtain ⟨a, oa, ca, rfl, hla, hm, hca⟩ := ha.iv h0
    obtain ⟨b, ob, cb, rfl, hlb, _, hcb⟩ := hb.iv h0
    unfold maxLen at hm
    have HA := Lib.hid hca
    have HB := Lib.hid hcb
    clear hca hcb ha hb
    go_enter Tryd.func26, Tryd.ntmps26
    go_wp2
    go_loopw [5] (fun i wr => ∃ k m : Nat, k ≤ l.length ∧ i = .int .i64 k ∧ wr = w.drewN m) (fun i _ => l.length - (intOf i).toNat)
    case atStart => exact ⟨0, 0, Nat.zero_le _, rfl, rfl⟩
    case round =>
      obtain ⟨k, m, hk, rfl, rfl⟩ := hrel
      by_cases hlt : k < l.length
      · have c1 : w.cell? ⟨a, oa + k, none⟩ = some (.int .i64 (l.getD k 0)) := HA.out k hlt
        have c2 : w.cell? ⟨b, ob + k, none⟩ = some (.int .i64 (l.getD k 0)) := HB.out k hlt
        generalize l.getD k 0 = x at c1 c2
        go_wp2
        go_quiet (fail)
        go_wp2
        go_roundw
        case rel => exact ⟨k + 1, m + nq, by omega, by go_num, rfl⟩
        case measure => simp [intOf]; omega
      · go_wp2
        go_ret
        exact ⟨rfl, m, rfl⟩
theorem rInts_c (va vb : Value) (l : List Int) (w : World) (ha : Rd w va (intVs l)) (hb : Rd w vb (intVs l)) :
    Calls Tryd.prog 26 #[va, vb] w fun e w' => e = .returned (.bool true) ∧ Below w.heap.size w w' := (rInts_same va vb l w ha hb).mono fun _ _ h => ⟨h.1, h.2.below _⟩
theorem ret_b0 {a b : Bool} (h : a = b) : Ending.returned (.bool a) = .returned (.bool b) := by rw [h]
set_option maxHeartbeats 1000000 in
theorem rHas_b (v : Value) (l : List Int) (x : Int) (b : Bool) (w : World) (hr : Rd w v (intVs l)) (hn : l.length ≤ 16) (hx : b = true ↔ x ∈ l) :
    Calls Tryd.prog 30 #[v, .int .i64 x] w fun e w' => e = .returned (.bool b) ∧ Below w.heap.size w w' := by
  by_cases h0 : l = []
  · subst h0
    obtain ⟨a, ca, rfl⟩ := hr.iv0
    have hbf : b = false := by cases b; rfl; simp at hx
    subst hbf
    clear hr hx
    go_enter Tryd.func30, Tryd.ntmps30
    go_wp2
    refine wp_loop_rounds 1 ?_
    rw [rounds_succ]
    go_wp2
    go_ret
    exact ⟨rfl, Below.refl _ _⟩
  · obtain ⟨a, oa, ca, rfl, hla, hm, hca⟩ := hr.iv h0
    have HA := Lib.hid hca
    have HX := Lib.hid hx
    have HM : Hid (∀ k, k < l.length → l.getD k 0 = x → x ∈ l) := Lib.hid (fun k hk e => by rw [← e]; simp [List.getD, hk])
    have HE : Hid ((∀ k, k < l.length → l.getD k 0 ≠ x) → x ∉ l) := Lib.hid (fun h g => by
      obtain ⟨i, hi, e⟩ := List.getElem_of_mem g
      exact h i hi (by simp [List.getD, hi, e]))
    clear hca hr h0 hx
    go_enter Tryd.func30, Tryd.ntmps30
    go_wp2
    go_loop [5] (fun i => ∃ k : Nat, k ≤ l.length ∧ i = .int .i64 k ∧ Hid (∀ j, j < k → l.getD j 0 ≠ x)) (fun i => l.length - (intOf i).toNat)
    case atStart => exact ⟨0, Nat.zero_le _, rfl, Lib.hid (fun j h => by omega)⟩
    case round =>
      obtain ⟨k, hk, rfl, HN⟩ := hrel
      by_cases hlt : k < l.length
      · have c1 : w.cell? ⟨a, oa + k, none⟩ = some (.int .i64 (l.getD k 0)) := HA.out k hlt
        have HK := Lib.hid (HM.out k hlt)
        have HS : Hid (l.getD k 0 ≠ x → ∀ j, j < k + 1 → l.getD j 0 ≠ x) := Lib.hid (fun h j hj => by
          by_cases e : j = k
          · subst e; exact h
          · exact HN.out j (by omega))
        generalize l.getD k 0 = X at *
        by_cases hx : X = x
        · have t1 : (X == x) = true := by simpa using hx
          have HB : Hid (true = b) := Lib.hid ((HX.out.2 (HK.out hx)).symm)
          clear hx
          go_wp2
          go_ret
          exact ⟨ret_b0 HB.out, Below.refl _ _⟩
        · have t1 : (X == x) = false := by simpa using hx
          have HT := Lib.hid (HS.out hx)
          clear hx
          go_wp2
          go_round
          case rel => exact ⟨k + 1, by omega, by go_num, HT⟩
          case measure => simp [intOf]; omega
      · obtain rfl : k = l.length := by omega
        have HB : Hid (false = b) := Lib.hid (by
          have := HE.out HN.out
          cases b
          · rfl
          · exact absurd (HX.out.1 rfl) this)
        go_wp2
        go_ret
        exact ⟨ret_b0 HB.out, Below.refl _ _⟩
end Go.Proofs.YtiogjocbiagipabDoor

namespace Go.Proofs.YtiogjocbiagipabDoor
open Go.RowKit
set_option linter.unusedVariables false
def DlcPost (w : World) (e : Ending) (w' : World) : Prop := ∃ (v : Value) (l : List Cab), e = .returned v ∧ Rs w' v l.length (cabs l) ∧ l.length ≤ 13 ∧ Below w.heap.size w w'
set_option maxRecDepth 100000 in
set_option maxHeartbeats 1000000 in
theorem DrawAreCabins_any (a : Option Addr) (len cap : Nat) (w : World) (h : ByteRow w a len) :
    Calls Tryd.prog 82 #[.slice a len cap] w (DlcPost w) := by
  have HC := Lib.hid (cur_new (cap := cap) h 80)
  have HB0 := Lib.hid ((Below.refl w.heap.size w).alloc (Nat.le_refl _) (.cells #[.slice a len cap, .int .i64 0, .int .u64 0] 80))
  clear h
  go_enter Tryd.func82, Tryd.ntmps82
  go_upto_region 2 with fail
  generalize hw0 : w.alloc (.cells #[.slice a len cap, .int .i64 0, .int .u64 0] 80) = w0 at *
  clear hw0
  go_wp2_with fail
  refine (cabins_any w.heap.size w.heap.size 0 w0 HC.out (by omega)).mono ?_
  rintro e w1 ⟨v, l, rfl, o1, hl, hc, b1, hq⟩
  have HO := Lib.hid (Rs.of_own o1)
  have HB := Lib.hid (HB0.out.trans b1)
  clear o1 hc b1
  go_wp2_with fail
  go_ret
  exact ⟨v, l, rfl, HO.out, hl, HB.out⟩
theorem DrawSeatsOnLine_any (a : Option Addr) (len cap : Nat) (w : World) (h : ByteRow w a len) :
    Calls Tryd.prog 41 #[.slice a len cap] w (DlcPost w) := by
  have HH := Lib.hid h
  clear h
  go_enter Tryd.func41, Tryd.ntmps41
  go_wp2_with fail
  refine (DrawAreCabins_any a len cap w HH.out).mono ?_
  rintro e w1 ⟨v, l, rfl, o1, hl, b1⟩
  have HO := Lib.hid o1
  have HB := Lib.hid b1
  clear o1 b1
  go_wp2_with fail
  go_ret
  exact ⟨v, l, rfl, HO.out, hl, HB.out⟩
def DfcPost (w : World) (e : Ending) (w' : World) : Prop := ∃ (v : Value) (l : List Cab) (m : Int), e = .returned (.tuple #[v, .int .i64 m]) ∧ Rs w' v l.length (cabs l) ∧ l.length ≤ 13 ∧ (-1 ≤ m ∧ m ≤ 201) ∧ Below w.heap.size w w'
set_option maxRecDepth 100000 in
set_option maxHeartbeats 1000000 in
theorem DrawFewestCabins_any (a : Option Addr) (len cap : Nat) (w : World) (h : ByteRow w a len) :
    Calls Tryd.prog 27 #[.slice a len cap] w (DfcPost w) := by
  have HC := Lib.hid (cur_new (cap := cap) h 80)
  have HB0 := Lib.hid ((Below.refl w.heap.size w).alloc (Nat.le_refl _) (.cells #[.slice a len cap, .int .i64 0, .int .u64 0] 80))
  have hs0 : (w.alloc (.cells #[.slice a len cap, .int .i64 0, .int .u64 0] 80)).heap.size = w.heap.size + 1 := by simp
  clear h
  go_enter Tryd.func27, Tryd.ntmps27
  go_upto_region 2 with fail
  generalize hw0 : w.alloc (.cells #[.slice a len cap, .int .i64 0, .int .u64 0] 80) = w0 at *
  clear hw0
  go_wp2_with fail
  refine (cabins_any w.heap.size w.heap.size 0 w0 HC.out (by omega)).mono ?_
  rintro e w1 ⟨v, l, rfl, o1, hl, hc, b1, hq⟩
  have HO := Lib.hid o1
  have HB := Lib.hid (HB0.out.trans b1)
  have Cw1 := Lib.hid hc
  have hs1 := b1.size
  have HQ := Lib.hid hq
  clear o1 hc b1 hq HC
  have hz1 : w.heap.size < w1.heap.size := by omega
  have hne : v.ownBlock = none ∨ v.ownBlock ≠ some w.heap.size := by
    cases hu : v.ownBlock with
    | none => exact .inl rfl
    | some j => exact .inr (fun e => by have := (HO.out.lt j hu).1; have := Option.some.inj e; omega)
  go_wp2_with fail
  refine (pick_any w.heap.size w.heap.size (0 + 500) 24 _ (Cw1.out.alloc _) (by omega) (by omega) (by omega)).mono ?_
  rintro e w2 ⟨rm, rfl, hr, hc, hg⟩
  have Cw2 := Lib.hid hc
  have Gw2 := Lib.hid hg
  have hsw2 := hg.size
  simp at hsw2
  clear hc hg
  obtain ⟨cm, nm, hn, t1, s1, s2⟩ := sel6 rm hr
  clear hr
  go_wp2_with fail
  refine (among_any w.heap.size w.heap.size (0 + 500 + 2) w1.heap.size nm _ ([0, 1, 8, 9, 30, 200, -1, 201].take nm) w2 Cw2.out (by omega) (by rw [List.length_take]; simp; omega) (by omega) (by omega) (by omega) (num_part w1 3 [0, 1, 8, 9, 30, 200, -1, 201] nm _ rfl w2 w.heap.size Gw2.out (by omega))).mono ?_
  rintro e w3 ⟨m, hx, rfl, hc, hg⟩
  have hbm : -1 ≤ m ∧ m ≤ 201 := by have h := List.mem_of_mem_take hx; simp at h; omega
  have Cw3 := Lib.hid hc
  have Gw3 := Lib.hid (grown_trans (grown_trans (World.grownBy_alloc w1 (.cells #[.int .i64 0, .int .i64 1, .int .i64 8, .int .i64 9, .int .i64 30, .int .i64 200, .int .i64 (-1), .int .i64 201] 3) (some w.heap.size)) Gw2.out) hg)
  have hsw3 := hg.size
  clear hc hg hx hn t1 s1 s2 Cw2 Gw2
  have Tw3 := Gw3
  have hzw3 : w.heap.size < w3.heap.size := by omega
  have HR := Lib.hid (Rs.of_own (HO.out.kept Tw3.out hne))
  have HB9 := Lib.hid (HB.out.trans (grown_below Tw3.out (by omega) (fun k hk => by cases hk; exact Nat.le_refl _)))
  go_wp2_with fail
  go_ret2
  exact ⟨v, l, m, rfl, HR.out, hl, hbm, HB9.out⟩
def DnoPost (w : World) (e : Ending) (w' : World) : Prop := ∃ (v : Value) (l : List Cab) (m : Int), e = .returned (.tuple #[v, .int .i64 m]) ∧ Rs w' v l.length (cabs l) ∧ l.length ≤ 13 ∧ (0 ≤ m ∧ m ≤ 17) ∧ Below w.heap.size w w'
set_option maxRecDepth 100000 in
set_option maxHeartbeats 1000000 in
theorem DrawNextOut_any (a : Option Addr) (len cap : Nat) (w : World) (h : ByteRow w a len) :
    Calls Tryd.prog 31 #[.slice a len cap] w (DnoPost w) := by
  have HC := Lib.hid (cur_new (cap := cap) h 80)
  have HB0 := Lib.hid ((Below.refl w.heap.size w).alloc (Nat.le_refl _) (.cells #[.slice a len cap, .int .i64 0, .int .u64 0] 80))
  have hs0 : (w.alloc (.cells #[.slice a len cap, .int .i64 0, .int .u64 0] 80)).heap.size = w.heap.size + 1 := by simp
  clear h
  go_enter Tryd.func31, Tryd.ntmps31
  go_upto_region 2 with fail
  generalize hw0 : w.alloc (.cells #[.slice a len cap, .int .i64 0, .int .u64 0] 80) = w0 at *
  clear hw0
  go_wp2_with fail
  refine (cabins_any w.heap.size w.heap.size 0 w0 HC.out (by omega)).mono ?_
  rintro e w1 ⟨v, l, rfl, o1, hl, hc, b1, hq⟩
  have HO := Lib.hid o1
  have HB := Lib.hid (HB0.out.trans b1)
  have Cw1 := Lib.hid hc
  have hs1 := b1.size
  have HQ := Lib.hid hq
  clear o1 hc b1 hq HC
  have hz1 : w.heap.size < w1.heap.size := by omega
  have hne : v.ownBlock = none ∨ v.ownBlock ≠ some w.heap.size := by
    cases hu : v.ownBlock with
    | none => exact .inl rfl
    | some j => exact .inr (fun e => by have := (HO.out.lt j hu).1; have := Option.some.inj e; omega)
  go_wp2_with fail
  refine (pick_any w.heap.size w.heap.size (0 + 500) 24 _ (Cw1.out.alloc _) (by omega) (by omega) (by omega)).mono ?_
  rintro e w2 ⟨rm, rfl, hr, hc, hg⟩
  have Cw2 := Lib.hid hc
  have Gw2 := Lib.hid hg
  have hsw2 := hg.size
  simp at hsw2
  clear hc hg
  obtain ⟨cm, nm, hn, t1, s1, s2⟩ := sel4 rm hr
  clear hr
  go_wp2_with fail
  refine (among_any w.heap.size w.heap.size (0 + 500 + 2) w1.heap.size nm _ ([1, 4, 8, 16, 0, 17].take nm) w2 Cw2.out (by omega) (by rw [List.length_take]; simp; omega) (by omega) (by omega) (by omega) (num_part w1 3 [1, 4, 8, 16, 0, 17] nm _ rfl w2 w.heap.size Gw2.out (by omega))).mono ?_
  rintro e w3 ⟨m, hx, rfl, hc, hg⟩
  have hbm : 0 ≤ m ∧ m ≤ 17 := by have h := List.mem_of_mem_take hx; simp at h; omega
  have Cw3 := Lib.hid hc
  have Gw3 := Lib.hid (grown_trans (grown_trans (World.grownBy_alloc w1 (.cells #[.int .i64 1, .int .i64 4, .int .i64 8, .int .i64 16, .int .i64 0, .int .i64 17] 3) (some w.heap.size)) Gw2.out) hg)
  have hsw3 := hg.size
  clear hc hg hx hn t1 s1 s2 Cw2 Gw2
  have Tw3 := Gw3
  have hzw3 : w.heap.size < w3.heap.size := by omega
  have HR := Lib.hid (Rs.of_own (HO.out.kept Tw3.out hne))
  have HB9 := Lib.hid (HB.out.trans (grown_below Tw3.out (by omega) (fun k hk => by cases hk; exact Nat.le_refl _)))
  go_wp2_with fail
  go_ret2
  exact ⟨v, l, m, rfl, HR.out, hl, hbm, HB9.out⟩
def DwcPost (w : World) (e : Ending) (w' : World) : Prop := ∃ (v : Value) (l : List Cab) (m : Int), e = .returned (.tuple #[v, .int .i64 m]) ∧ Rs w' v l.length (cabs l) ∧ l.length ≤ 13 ∧ (0 ≤ m ∧ m ≤ 100000) ∧ Below w.heap.size w w'
set_option maxRecDepth 100000 in
set_option maxHeartbeats 1000000 in
theorem DrawWornCabins_any (a : Option Addr) (len cap : Nat) (w : World) (h : ByteRow w a len) :
    Calls Tryd.prog 35 #[.slice a len cap] w (DwcPost w) := by
  have HC := Lib.hid (cur_new (cap := cap) h 80)
  have HB0 := Lib.hid ((Below.refl w.heap.size w).alloc (Nat.le_refl _) (.cells #[.slice a len cap, .int .i64 0, .int .u64 0] 80))
  have hs0 : (w.alloc (.cells #[.slice a len cap, .int .i64 0, .int .u64 0] 80)).heap.size = w.heap.size + 1 := by simp
  clear h
  go_enter Tryd.func35, Tryd.ntmps35
  go_upto_region 2 with fail
  generalize hw0 : w.alloc (.cells #[.slice a len cap, .int .i64 0, .int .u64 0] 80) = w0 at *
  clear hw0
  go_wp2_with fail
  refine (cabins_any w.heap.size w.heap.size 0 w0 HC.out (by omega)).mono ?_
  rintro e w1 ⟨v, l, rfl, o1, hl, hc, b1, hq⟩
  have HO := Lib.hid o1
  have HB := Lib.hid (HB0.out.trans b1)
  have Cw1 := Lib.hid hc
  have hs1 := b1.size
  have HQ := Lib.hid hq
  clear o1 hc b1 hq HC
  have hz1 : w.heap.size < w1.heap.size := by omega
  have hne : v.ownBlock = none ∨ v.ownBlock ≠ some w.heap.size := by
    cases hu : v.ownBlock with
    | none => exact .inl rfl
    | some j => exact .inr (fun e => by have := (HO.out.lt j hu).1; have := Option.some.inj e; omega)
  go_wp2_with fail
  refine (pick_any w.heap.size w.heap.size (0 + 500) 24 _ (Cw1.out.alloc _) (by omega) (by omega) (by omega)).mono ?_
  rintro e w2 ⟨rm, rfl, hr, hc, hg⟩
  have Cw2 := Lib.hid hc
  have Gw2 := Lib.hid hg
  have hsw2 := hg.size
  simp at hsw2
  clear hc hg
  obtain ⟨cm, nm, hn, t1, s1, s2⟩ := sel5 rm hr
  clear hr
  go_wp2_with fail
  refine (among_any w.heap.size w.heap.size (0 + 500 + 2) w1.heap.size nm _ ([1, 5, 6, 900, 99999, 0, 100000].take nm) w2 Cw2.out (by omega) (by rw [List.length_take]; simp; omega) (by omega) (by omega) (by omega) (num_part w1 3 [1, 5, 6, 900, 99999, 0, 100000] nm _ rfl w2 w.heap.size Gw2.out (by omega))).mono ?_
  rintro e w3 ⟨m, hx, rfl, hc, hg⟩
  have hbm : 0 ≤ m ∧ m ≤ 100000 := by have h := List.mem_of_mem_take hx; simp at h; omega
  have Cw3 := Lib.hid hc
  have Gw3 := Lib.hid (grown_trans (grown_trans (World.grownBy_alloc w1 (.cells #[.int .i64 1, .int .i64 5, .int .i64 6, .int .i64 900, .int .i64 99999, .int .i64 0, .int .i64 100000] 3) (some w.heap.size)) Gw2.out) hg)
  have hsw3 := hg.size
  clear hc hg hx hn t1 s1 s2 Cw2 Gw2
  have Tw3 := Gw3
  have hzw3 : w.heap.size < w3.heap.size := by omega
  have HR := Lib.hid (Rs.of_own (HO.out.kept Tw3.out hne))
  have HB9 := Lib.hid (HB.out.trans (grown_below Tw3.out (by omega) (fun k hk => by cases hk; exact Nat.le_refl _)))
  go_wp2_with fail
  go_ret2
  exact ⟨v, l, m, rfl, HR.out, hl, hbm, HB9.out⟩
def DciPost (w : World) (e : Ending) (w' : World) : Prop := ∃ (v : Value) (l : List Cab) (m : Int), e = .returned (.tuple #[v, .int .i64 m]) ∧ Rs w' v l.length (cabs l) ∧ l.length ≤ 13 ∧ (-1 ≤ m ∧ m ≤ 4) ∧ Below w.heap.size w w'
set_option maxRecDepth 100000 in
set_option maxHeartbeats 1000000 in
theorem DrawCabinsIn_any (a : Option Addr) (len cap : Nat) (w : World) (h : ByteRow w a len) :
    Calls Tryd.prog 23 #[.slice a len cap] w (DciPost w) := by
  have HC := Lib.hid (cur_new (cap := cap) h 80)
  have HB0 := Lib.hid ((Below.refl w.heap.size w).alloc (Nat.le_refl _) (.cells #[.slice a len cap, .int .i64 0, .int .u64 0] 80))
  have hs0 : (w.alloc (.cells #[.slice a len cap, .int .i64 0, .int .u64 0] 80)).heap.size = w.heap.size + 1 := by simp
  clear h
  go_enter Tryd.func23, Tryd.ntmps23
  go_upto_region 2 with fail
  generalize hw0 : w.alloc (.cells #[.slice a len cap, .int .i64 0, .int .u64 0] 80) = w0 at *
  clear hw0
  go_wp2_with fail
  refine (cabins_any w.heap.size w.heap.size 0 w0 HC.out (by omega)).mono ?_
  rintro e w1 ⟨v, l, rfl, o1, hl, hc, b1, hq⟩
  have HO := Lib.hid o1
  have HB := Lib.hid (HB0.out.trans b1)
  have Cw1 := Lib.hid hc
  have hs1 := b1.size
  have HQ := Lib.hid hq
  clear o1 hc b1 hq HC
  have hz1 : w.heap.size < w1.heap.size := by omega
  have hne : v.ownBlock = none ∨ v.ownBlock ≠ some w.heap.size := by
    cases hu : v.ownBlock with
    | none => exact .inl rfl
    | some j => exact .inr (fun e => by have := (HO.out.lt j hu).1; have := Option.some.inj e; omega)
  go_wp2_with fail
  refine (pick_any w.heap.size w.heap.size (0 + 500) 24 _ (Cw1.out.alloc _) (by omega) (by omega) (by omega)).mono ?_
  rintro e w2 ⟨rm, rfl, hr, hc, hg⟩
  have Cw2 := Lib.hid hc
  have Gw2 := Lib.hid hg
  have hsw2 := hg.size
  simp at hsw2
  clear hc hg
  obtain ⟨cm, nm, hn, t1, s1, s2⟩ := sel4 rm hr
  clear hr
  go_wp2_with fail
  refine (among_any w.heap.size w.heap.size (0 + 500 + 2) w1.heap.size nm _ ([0, 1, 2, 3, -1, 4].take nm) w2 Cw2.out (by omega) (by rw [List.length_take]; simp; omega) (by omega) (by omega) (by omega) (num_part w1 3 [0, 1, 2, 3, -1, 4] nm _ rfl w2 w.heap.size Gw2.out (by omega))).mono ?_
  rintro e w3 ⟨m, hx, rfl, hc, hg⟩
  have hbm : -1 ≤ m ∧ m ≤ 4 := by have h := List.mem_of_mem_take hx; simp at h; omega
  have Cw3 := Lib.hid hc
  have Gw3 := Lib.hid (grown_trans (grown_trans (World.grownBy_alloc w1 (.cells #[.int .i64 0, .int .i64 1, .int .i64 2, .int .i64 3, .int .i64 (-1), .int .i64 4] 3) (some w.heap.size)) Gw2.out) hg)
  have hsw3 := hg.size
  clear hc hg hx hn t1 s1 s2 Cw2 Gw2
  have Tw3 := Gw3
  have hzw3 : w.heap.size < w3.heap.size := by omega
  have HR := Lib.hid (Rs.of_own (HO.out.kept Tw3.out hne))
  have HB9 := Lib.hid (HB.out.trans (grown_below Tw3.out (by omega) (fun k hk => by cases hk; exact Nat.le_refl _)))
  go_wp2_with fail
  go_ret2
  exact ⟨v, l, m, rfl, HR.out, hl, hbm, HB9.out⟩
def DicPost (w : World) (e : Ending) (w' : World) : Prop := ∃ (x : Cab), e = .returned (x.agg) ∧ CabB x ∧ Below w.heap.size w w'
set_option maxRecDepth 100000 in
set_option maxHeartbeats 4000000 in
theorem DrawIsCabin_any (a : Option Addr) (len cap : Nat) (w : World) (h : ByteRow w a len) :
    Calls Tryd.prog 53 #[.slice a len cap] w (DicPost w) := by
  have h1 := h.below ((Below.refl _ _).alloc (Nat.le_refl _) (.cells #[.int .i64 0, .int .i64 0, .int .i64 0, .int .i64 0, .int .i64 0] 34))
  have C0 := Lib.hid (cur_at (cap := cap) h1 80 (n := w.heap.size + 1) (by simp))
  have K0 := Lib.hid (old_allocD (o' := .cells #[.slice a len cap, .int .i64 0, .int .u64 0] 80) (heap_alloc_new w (.cells #[.int .i64 0, .int .i64 0, .int .i64 0, .int .i64 0, .int .i64 0] 34)))
  have B0 := Lib.hid (((Below.refl w.heap.size w).alloc (Nat.le_refl _) (.cells #[.int .i64 0, .int .i64 0, .int .i64 0, .int .i64 0, .int .i64 0] 34)).alloc (by simp; try omega) (.cells #[.slice a len cap, .int .i64 0, .int .u64 0] 80))
  have hz : ((w.alloc (.cells #[.int .i64 0, .int .i64 0, .int .i64 0, .int .i64 0, .int .i64 0] 34)).alloc (.cells #[.slice a len cap, .int .i64 0, .int .u64 0] 80)).heap.size = w.heap.size + 2 := by simp
  clear h h1
  go_enter Tryd.func53, Tryd.ntmps53
  go_upto_region 2 with fail
  generalize hw0 : (w.alloc (.cells #[.int .i64 0, .int .i64 0, .int .i64 0, .int .i64 0, .int .i64 0] 34)).alloc (.cells #[.slice a len cap, .int .i64 0, .int .u64 0] 80) = w0 at *
  clear hw0
  have hb0 := B0.out.size
  go_wp2_with fail
  refine (among_any _ _ 0 (w.heap.size + 2) 3 3 [1, 42, 99] _ (C0.out.alloc _) (by omega) rfl (by omega) (by omega) (by omega) (num_cells1 w0 3 [1, 42, 99] _ rfl _ hz.symm)).mono ?_
  rintro e w1 ⟨id, hx, rfl, hc, hg⟩
  have hid : -10 ≤ id ∧ id ≤ 200 := by simp at hx; omega
  have K1 := Lib.hid (keepD hg (by omega) (old_allocD (o' := .cells #[.int .i64 1, .int .i64 42, .int .i64 99] 3) K0.out))
  have G1 := Lib.hid (grown_trans (World.grownBy_alloc w0 (.cells #[.int .i64 1, .int .i64 42, .int .i64 99] 3) (some (w.heap.size + 1))) hg)
  have C1 := Lib.hid hc
  clear hc hg hx
  go_wp2_with fail
  refine (cabin_any _ _ (0 + 2) id w1 C1.out (by omega) hid).mono ?_
  rintro e w2 ⟨x, rfl, hx, hc, hg⟩
  have K2 := Lib.hid (keepD hg (by omega) K1.out)
  have G2 := Lib.hid (grown_trans G1.out hg)
  have C2 := Lib.hid hc
  clear hc hg
  unfold Cab.agg
  have KK := K2.out
  have BB := Lib.hid (B0.out.trans (grown_below G2.out (by omega) (fun k hk => by cases hk; omega)))
  have c0 := cell_of_row w2 w.heap.size 0 _ _ _ KK
  have c1 := cell_of_row w2 w.heap.size 1 _ _ _ KK
  have c2 := cell_of_row w2 w.heap.size 2 _ _ _ KK
  have c3 := cell_of_row w2 w.heap.size 3 _ _ _ KK
  have c4 := cell_of_row w2 w.heap.size 4 _ _ _ KK
  have d0 := frozen_of_row w2 w.heap.size 0 _ _ KK
  have d1 := frozen_of_row w2 w.heap.size 1 _ _ KK
  have d2 := frozen_of_row w2 w.heap.size 2 _ _ KK
  have d3 := frozen_of_row w2 w.heap.size 3 _ _ KK
  have d4 := frozen_of_row w2 w.heap.size 4 _ _ KK
  have s0 := blk_setD (i := 0) (v := .int .i64 x.i) KK
  have z0 := cell_of_row _ w.heap.size 0 _ _ _ s0
  have s1 := blk_setD (i := 1) (v := .int .i64 x.s) s0
  have z1 := cell_of_row _ w.heap.size 1 _ _ _ s1
  have s2 := blk_setD (i := 2) (v := .int .i64 x.w) s1
  have z2 := cell_of_row _ w.heap.size 2 _ _ _ s2
  have s3 := blk_setD (i := 3) (v := .int .i64 x.g) s2
  have z3 := cell_of_row _ w.heap.size 3 _ _ _ s3
  have s4 := blk_setD (i := 4) (v := .int .i64 x.p) s3
  have z4 := cell_of_row _ w.heap.size 4 _ _ _ s4
  simp at c0 c1 c2 c3 c4 z0 z1 z2 z3 z4
  have Z0 := Lib.hid z0
  have Z1 := Lib.hid z1
  have Z2 := Lib.hid z2
  have Z3 := Lib.hid z3
  have Z4 := Lib.hid z4
  clear z0 z1 z2 z3 z4 KK s0 s1 s2 s3 s4
  go_wp2
  refine bodyPost_ret (v := .agg #[.int .i64 x.i, .int .i64 x.s, .int .i64 x.w, .int .i64 x.g, .int .i64 x.p]) (by simp [results, Tryd.results53, go_sem, Z0.out, Z1.out, Z2.out, Z3.out, Z4.out]) rfl ⟨x, rfl, hx, ?_⟩
  exact ((((BB.out.setCell (Nat.le_refl _) _).setCell (Nat.le_refl _) _).setCell (Nat.le_refl _) _).setCell (Nat.le_refl _) _).setCell (Nat.le_refl _) _
set_option maxRecDepth 100000 in
set_option maxHeartbeats 4000000 in
theorem DrawCabinText_any (a : Option Addr) (len cap : Nat) (w : World) (h : ByteRow w a len) :
    Calls Tryd.prog 14 #[.slice a len cap] w (DicPost w) := by
  have HH := Lib.hid (h.below ((Below.refl _ _).alloc (Nat.le_refl _) (.cells #[.int .i64 0, .int .i64 0, .int .i64 0, .int .i64 0, .int .i64 0] 34)))
  have K0 := Lib.hid (heap_alloc_new w (.cells #[.int .i64 0, .int .i64 0, .int .i64 0, .int .i64 0, .int .i64 0] 34))
  have B0 := Lib.hid ((Below.refl w.heap.size w).alloc (Nat.le_refl _) (.cells #[.int .i64 0, .int .i64 0, .int .i64 0, .int .i64 0, .int .i64 0] 34))
  have hz : (w.alloc (.cells #[.int .i64 0, .int .i64 0, .int .i64 0, .int .i64 0, .int .i64 0] 34)).heap.size = w.heap.size + 1 := by simp
  clear h
  go_enter Tryd.func14, Tryd.ntmps14
  go_upto_region 1 with fail
  generalize hw0 : w.alloc (.cells #[.int .i64 0, .int .i64 0, .int .i64 0, .int .i64 0, .int .i64 0] 34) = w0 at *
  clear hw0
  go_wp2_with fail
  refine (DrawIsCabin_any a len cap w0 HH.out).mono ?_
  rintro e w1 ⟨x, rfl, hx, b1⟩
  have KK := (b1.block w.heap.size (by omega)).trans K0.out
  have BB := Lib.hid (B0.out.trans (b1.mono (by omega)))
  clear b1
  unfold Cab.agg
  have c0 := cell_of_row w1 w.heap.size 0 _ _ _ KK
  have c1 := cell_of_row w1 w.heap.size 1 _ _ _ KK
  have c2 := cell_of_row w1 w.heap.size 2 _ _ _ KK
  have c3 := cell_of_row w1 w.heap.size 3 _ _ _ KK
  have c4 := cell_of_row w1 w.heap.size 4 _ _ _ KK
  have d0 := frozen_of_row w1 w.heap.size 0 _ _ KK
  have d1 := frozen_of_row w1 w.heap.size 1 _ _ KK
  have d2 := frozen_of_row w1 w.heap.size 2 _ _ KK
  have d3 := frozen_of_row w1 w.heap.size 3 _ _ KK
  have d4 := frozen_of_row w1 w.heap.size 4 _ _ KK
  have s0 := blk_setD (i := 0) (v := .int .i64 x.i) KK
  have z0 := cell_of_row _ w.heap.size 0 _ _ _ s0
  have s1 := blk_setD (i := 1) (v := .int .i64 x.s) s0
  have z1 := cell_of_row _ w.heap.size 1 _ _ _ s1
  have s2 := blk_setD (i := 2) (v := .int .i64 x.w) s1
  have z2 := cell_of_row _ w.heap.size 2 _ _ _ s2
  have s3 := blk_setD (i := 3) (v := .int .i64 x.g) s2
  have z3 := cell_of_row _ w.heap.size 3 _ _ _ s3
  have s4 := blk_setD (i := 4) (v := .int .i64 x.p) s3
  have z4 := cell_of_row _ w.heap.size 4 _ _ _ s4
  simp at c0 c1 c2 c3 c4 z0 z1 z2 z3 z4
  have Z0 := Lib.hid z0
  have Z1 := Lib.hid z1
  have Z2 := Lib.hid z2
  have Z3 := Lib.hid z3
  have Z4 := Lib.hid z4
  clear z0 z1 z2 z3 z4 KK s0 s1 s2 s3 s4
  go_wp2
  refine bodyPost_ret (v := .agg #[.int .i64 x.i, .int .i64 x.s, .int .i64 x.w, .int .i64 x.g, .int .i64 x.p]) (by simp [results, Tryd.results14, go_sem, Z0.out, Z1.out, Z2.out, Z3.out, Z4.out]) rfl ⟨x, rfl, hx, ?_⟩
  exact ((((BB.out.setCell (Nat.le_refl _) _).setCell (Nat.le_refl _) _).setCell (Nat.le_refl _) _).setCell (Nat.le_refl _) _).setCell (Nat.le_refl _) _
theorem cell5_of {W : World} {g : Nat} {c0 c1 c2 c3 c4 : Value} {t : TypeId} (h : W.heap[g]? = some (.cells #[c0, c1, c2, c3, c4] t (0, 0))) : W.cell? ⟨g, 0, none⟩ = some c0 ∧ W.cell? ⟨g, 1, none⟩ = some c1 ∧ W.cell? ⟨g, 2, none⟩ = some c2 ∧ W.cell? ⟨g, 3, none⟩ = some c3 ∧ W.cell? ⟨g, 4, none⟩ = some c4 :=
  ⟨cell_of_row _ g 0 _ _ _ h, cell_of_row _ g 1 _ _ _ h, cell_of_row _ g 2 _ _ _ h, cell_of_row _ g 3 _ _ _ h, cell_of_row _ g 4 _ _ _ h⟩
def DclPost (w : World) (e : Ending) (w' : World) : Prop := ∃ (x : Cab) (n : Int), e = .returned (.tuple #[x.agg, .int .i64 n]) ∧ CabB x ∧ (-1 ≤ n ∧ n ≤ 18) ∧ Below w.heap.size w w'
end Go.Proofs.YtiogjocbiagipabDoor

namespace Go.Proofs.YtiogjocbiagipabDoor
open Go.RowKit
set_option linter.unusedVariables false
theorem run_lo_str (P : Program) (t : TypeId) (s : ByteArray) (lo : Nat) (W : World) (ht : P.underlying t = some .string) (h1 : lo ≤ s.size) :
    (Instr.slice t (.string s) (some (.int .i64 (lo : Int))) none none).run P W = .ok (.string (s.extract lo s.size)) W := by
  have a1 : (lo : Int) ≤ (s.size : Int) := by omega
  go_simp
theorem run_lo1_str (P : Program) (t : TypeId) (s : ByteArray) (lo : Nat) (W : World) (ht : P.underlying t = some .string) (h1 : lo + 1 ≤ s.size) :
    (Instr.slice t (.string s) (some (.int .i64 ((lo : Int) + 1))) none none).run P W = .ok (.string (s.extract (lo + 1) s.size)) W := by
  have h := run_lo_str P t s (lo + 1) W ht h1
  rw [show (((lo + 1 : Nat)) : Int) = (lo : Int) + 1 by omega] at h
  exact h
theorem run_hi_str (P : Program) (t : TypeId) (s : ByteArray) (hi : Nat) (W : World) (ht : P.underlying t = some .string) (h1 : hi ≤ s.size) :
    (Instr.slice t (.string s) none (some (.int .i64 (hi : Int))) none).run P W = .ok (.string (s.extract 0 hi)) W := by
  have a1 : (hi : Int) ≤ (s.size : Int) := by omega
  go_simp
theorem run_hi1_str (P : Program) (t : TypeId) (s : ByteArray) (W : World) (ht : P.underlying t = some .string) (h1 : 1 ≤ s.size) :
    (Instr.slice t (.string s) none (some (.int .i64 1)) none).run P W = .ok (.string (s.extract 0 1)) W := run_hi_str P t s 1 W ht h1
theorem Cur.drewD1 {B b k : Nat} {w : World} (h : Cur B b k w) (n : Nat) : Cur B b k (w.drewN n) := h.grown (row := none) (grown_drew w n none) (fun j hj => by cases hj)
def SpPost (B b k : Nat) (t : ByteArray) (w : World) (e : Ending) (w' : World) : Prop := ∃ u : ByteArray, e = .returned (.string u) ∧ u.size ≤ t.size + 8 ∧ Cur B b (k + 6) w' ∧ w.grownBy w' (some b)
set_option maxRecDepth 100000 in
set_option maxHeartbeats 2000000 in
theorem spoilt_any (B b k : Nat) (t : ByteArray) (w : World) (h : Cur B b k w) (hk : k ≤ 800000000) (ht : t.size ≤ 200) :
    Calls Tryd.prog 66 #[.pointer (some ⟨b, 0, none⟩), .string t, .string ⟨#[48, 32, 58, 44, 114, 107, 49]⟩] w (SpPost B b k t w) := by
  have HC := Lib.hid h
  have hb := h.2.1
  clear h
  have hU : Tryd.prog.underlying 9 = some .string := Tryd.underlying9
  by_cases h0 : t = ⟨#[]⟩
  · subst h0
    go_enter Tryd.func66, Tryd.ntmps66
    go_wp2
    go_ret
    exact ⟨_, rfl, by rw [ByteArray.size_extract]; omega, HC.out.mono (by omega), grown_drew w 0 (some b)⟩
  · have hts : 1 ≤ t.size := by
      by_cases hz : t.size = 0
      · have e : t.data = #[] := Array.eq_empty_of_size_eq_zero hz
        exact absurd (by cases t; simp_all) h0
      · omega
    have t0 : t.toList.isEmpty = false := by
      rw [ByteArray.toList_eq, List.isEmpty_eq_false_iff]
      intro e
      have : t.data.toList.length = 0 := by rw [e]; rfl
      have h2 : t.data.toList.length = t.size := Array.length_toList
      omega
    clear h0
    go_enter Tryd.func66, Tryd.ntmps66
    go_wp2_with fail
    refine (pick_any B b k (t.size : Int) w HC.out (by omega) (by omega) (by omega)).mono ?_
    rintro e w1 ⟨i, rfl, hi, hc, hg⟩
    have hil : i < t.size := by omega
    have C1 := Lib.hid hc
    have G1 := Lib.hid hg
    clear hc hg HC hi
    go_wp2_with fail
    refine (pick_any B b (k + 2) 7 w1 C1.out (by omega) (by omega) (by omega)).mono ?_
    rintro e w2 ⟨j, rfl, hj, hc, hg⟩
    have hjl : j < 7 := by omega
    have C2 := Lib.hid hc
    have G2 := Lib.hid (grown_trans G1.out hg)
    clear hc hg C1 hj
    have hC7 : (⟨#[48, 32, 58, 44, 114, 107, 49]⟩ : ByteArray).size = 7 := rfl
    have R1 := fun W => run_lo_str Tryd.prog 9 ⟨#[48, 32, 58, 44, 114, 107, 49]⟩ j W hU (by omega)
    have hs1 : ((⟨#[48, 32, 58, 44, 114, 107, 49]⟩ : ByteArray).extract j (⟨#[48, 32, 58, 44, 114, 107, 49]⟩ : ByteArray).size).size = 7 - j := by rw [ByteArray.size_extract, hC7]; omega
    generalize (⟨#[48, 32, 58, 44, 114, 107, 49]⟩ : ByteArray).extract j (⟨#[48, 32, 58, 44, 114, 107, 49]⟩ : ByteArray).size = W1 at *
    have R2 := fun W => run_hi1_str Tryd.prog 9 W1 W hU (by omega)
    have hs2 : (W1.extract 0 1).size = 1 := by rw [ByteArray.size_extract]; omega
    generalize W1.extract 0 1 = X at *
    have R3 := fun W => run_hi_str Tryd.prog 9 t i W hU (by omega)
    have hs3 : (t.extract 0 i).size = i := by rw [ByteArray.size_extract]; omega
    generalize t.extract 0 i = A at *
    have R4 := fun W => run_lo_str Tryd.prog 9 t i W hU (by omega)
    have hs4 : (t.extract i t.size).size = t.size - i := by rw [ByteArray.size_extract]; omega
    generalize t.extract i t.size = B1 at *
    have R5 := fun W => run_lo1_str Tryd.prog 9 t i W hU (by omega)
    have hs5 : (t.extract (i + 1) t.size).size = t.size - (i + 1) := by rw [ByteArray.size_extract]; omega
    generalize t.extract (i + 1) t.size = B2 at *
    have e1 : IntKind.i64.wrap ((i : Int) + 1) = (i : Int) + 1 := IntWalk.i64_in _ (by omega)
    go_wp2_with fail
    refine (pick_any B b (k + 4) 3 w2 C2.out (by omega) (by omega) (by omega)).mono ?_
    rintro e w3 ⟨r, rfl, hr, hc, hg⟩
    have C3 := Lib.hid hc
    have G3 := Lib.hid (grown_trans G2.out hg)
    clear hc hg C2 hr
    by_cases r0 : r = 0
    · have q0 : ((r : Int) == 0) = true := by rw [beq_iff_eq]; omega
      clear r0
      go_wp2_with fail
      go_region
      go_wp2
      go_ret
      exact ⟨_, rfl, by simp only [ByteArray.size_append]; omega, (C3.out.drewD1 1).mono (by omega), grown_trans G3.out (grown_drew w3 1 (some b))⟩
    · have q0 : ((r : Int) == 0) = false := by rw [beq_eq_false_iff_ne]; omega
      clear r0
      by_cases r1 : r = 1
      · have q1 : ((r : Int) == 1) = true := by rw [beq_iff_eq]; omega
        clear r1
        go_wp2_with fail
        go_region
        go_wp2
        go_ret
        exact ⟨_, rfl, by simp only [ByteArray.size_append]; omega, (C3.out.drewD1 1).mono (by omega), grown_trans G3.out (grown_drew w3 1 (some b))⟩
      · have q1 : ((r : Int) == 1) = false := by rw [beq_eq_false_iff_ne]; omega
        clear r1
        go_wp2_with fail
        go_region
        go_wp2
        go_ret
        exact ⟨_, rfl, by simp only [ByteArray.size_append]; omega, (C3.out.drewD1 1).mono (by omega), grown_trans G3.out (grown_drew w3 1 (some b))⟩
end Go.Proofs.YtiogjocbiagipabDoor

namespace Go.Proofs.YtiogjocbiagipabDoor
open Go.RowKit
set_option linter.unusedVariables false
def DmvPost (w : World) (e : Ending) (w' : World) : Prop := ∃ (v : Value) (l : List Cab) (n t : Int), e = .returned (.tuple #[v, .int .i64 n, .int .i64 t]) ∧ Rs w' v l.length (cabs l) ∧ l.length ≤ 13 ∧ (-10 ≤ n ∧ n ≤ 200) ∧ (-1 ≤ t ∧ t ≤ 4) ∧ Below w.heap.size w w'
set_option maxRecDepth 100000 in
set_option maxHeartbeats 2000000 in
theorem DrawMoveCabin_any (a : Option Addr) (len cap : Nat) (w : World) (h : ByteRow w a len) :
    Calls Tryd.prog 21 #[.slice a len cap] w (DmvPost w) := by
  have HC := Lib.hid (cur_new (cap := cap) h 80)
  have HB0 := Lib.hid ((Below.refl w.heap.size w).alloc (Nat.le_refl _) (.cells #[.slice a len cap, .int .i64 0, .int .u64 0] 80))
  have hs0 : (w.alloc (.cells #[.slice a len cap, .int .i64 0, .int .u64 0] 80)).heap.size = w.heap.size + 1 := by simp
  clear h
  go_enter Tryd.func21, Tryd.ntmps21
  go_upto_region 2 with fail
  generalize hw0 : w.alloc (.cells #[.slice a len cap, .int .i64 0, .int .u64 0] 80) = w0 at *
  clear hw0
  go_wp2_with fail
  refine (cabins_any w.heap.size w.heap.size 0 w0 HC.out (by omega)).mono ?_
  rintro e w1 ⟨v, l, rfl, o1, hl, hc, b1, hq⟩
  have HB := Lib.hid (HB0.out.trans b1)
  have Cw1 := Lib.hid hc
  have hs1 := b1.size
  have HQ := Lib.hid hq
  have hz1 : w.heap.size < w1.heap.size := by omega
  have hne : v.ownBlock = none ∨ v.ownBlock ≠ some w.heap.size := by
    cases hu : v.ownBlock with
    | none => exact .inl rfl
    | some j => exact .inr (fun e => by have := (o1.lt j hu).1; have := Option.some.inj e; omega)
  have HO := Lib.hid o1
  obtain ⟨ao, ba, oa, ca, rfl, hao, hat⟩ := own_at5 o1
  have HA := Lib.hid hao
  have HL := Lib.hid hat
  clear o1 hc b1 hq HC hao hat
  go_wp2_with fail
  refine (among_any w.heap.size w.heap.size (0 + 500) w1.heap.size 3 3 [0, 1, 50] _ (Cw1.out.alloc _) (by omega) rfl (by omega) (by omega) (by omega) (num_cells w1 3 [0, 1, 50] _ rfl)).mono ?_
  rintro e w2 ⟨n0, hx, rfl, hc, hg⟩
  have hbn : -10 ≤ n0 ∧ n0 ≤ 200 := by simp at hx; omega
  have C2 := Lib.hid hc
  have G2 := Lib.hid (grown_trans (World.grownBy_alloc w1 (.cells #[.int .i64 0, .int .i64 1, .int .i64 50] 3) (some w.heap.size)) hg)
  have hs2 := G2.out.size
  clear hc hg hx
  by_cases h0 : l.length = 0
  · have t0 : ¬ (0 : Int) < (l.length : Int) := by omega
    clear h0
    have hzz : w.heap.size < w2.heap.size := by omega
    go_wp2_with fail
    refine (pick_any w.heap.size w.heap.size (0 + 500 + 2) 24 _ (C2.out.alloc _) (by omega) (by omega) (by omega)).mono ?_
    rintro e w7 ⟨rt, rfl, hr, hc, hg⟩
    have Cw7 := Lib.hid hc
    have Gw7 := Lib.hid hg
    have hsw7 := hg.size
    simp at hsw7
    clear hc hg
    obtain ⟨ct, nt, hn, t1, s1, s2⟩ := sel4 rt hr
    clear hr
    go_wp2_with fail
    refine (among_any w.heap.size w.heap.size (0 + 500 + 2 + 2) w2.heap.size nt _ ([0, 1, 2, 3, -1, 4].take nt) w7 Cw7.out (by omega) (by rw [List.length_take]; simp; omega) (by omega) (by omega) (by omega) (num_part w2 3 [0, 1, 2, 3, -1, 4] nt _ rfl w7 w.heap.size Gw7.out (by omega))).mono ?_
    rintro e w8 ⟨t, hx, rfl, hc, hg⟩
    have hbt : -1 ≤ t ∧ t ≤ 4 := by have h := List.mem_of_mem_take hx; simp at h; omega
    have Cw8 := Lib.hid hc
    have Gw8 := Lib.hid (grown_trans (grown_trans (World.grownBy_alloc w2 (.cells #[.int .i64 0, .int .i64 1, .int .i64 2, .int .i64 3, .int .i64 (-1), .int .i64 4] 3) (some w.heap.size)) Gw7.out) hg)
    have hsw8 := hg.size
    clear hc hg hx hn t1 s1 s2 Cw7 Gw7
    have T9 := Lib.hid (grown_trans G2.out Gw8.out)
    have HR := Lib.hid (Rs.of_own (HO.out.kept T9.out hne))
    have HB9 := Lib.hid (HB.out.trans (grown_below T9.out (by omega) (fun k hk => by cases hk; exact Nat.le_refl _)))
    go_wp2_with fail
    go_ret3
    exact ⟨_, l, n0, t, rfl, HR.out, hl, hbn, hbt, HB9.out⟩
  · have t0 : (0 : Int) < (l.length : Int) := by omega
    have hp : 0 < l.length := by omega
    clear h0
    go_wp2_with fail
    refine (one_any w.heap.size w.heap.size (0 + 500 + 2) 8 w2 C2.out (by omega) (by omega) (by omega)).mono ?_
    rintro e w3 ⟨u, rfl, hc, hg⟩
    have C3 := Lib.hid hc
    have G3 := Lib.hid (grown_trans G2.out hg)
    have hs3 := hg.size
    clear hc hg
    cases u with
    | true =>
      have hzz : w.heap.size < w3.heap.size := by omega
      go_wp2_with fail
      refine (pick_any w.heap.size w.heap.size (_) 24 _ (C3.out.alloc _) (by omega) (by omega) (by omega)).mono ?_
      rintro e w7 ⟨rt, rfl, hr, hc, hg⟩
      have Cw7 := Lib.hid hc
      have Gw7 := Lib.hid hg
      have hsw7 := hg.size
      simp at hsw7
      clear hc hg
      obtain ⟨ct, nt, hn, t1, s1, s2⟩ := sel4 rt hr
      clear hr
      go_wp2_with fail
      refine (among_any w.heap.size w.heap.size (_ + 2) w3.heap.size nt _ ([0, 1, 2, 3, -1, 4].take nt) w7 Cw7.out (by omega) (by rw [List.length_take]; simp; omega) (by omega) (by omega) (by omega) (num_part w3 3 [0, 1, 2, 3, -1, 4] nt _ rfl w7 w.heap.size Gw7.out (by omega))).mono ?_
      rintro e w8 ⟨t, hx, rfl, hc, hg⟩
      have hbt : -1 ≤ t ∧ t ≤ 4 := by have h := List.mem_of_mem_take hx; simp at h; omega
      have Cw8 := Lib.hid hc
      have Gw8 := Lib.hid (grown_trans (grown_trans (World.grownBy_alloc w3 (.cells #[.int .i64 0, .int .i64 1, .int .i64 2, .int .i64 3, .int .i64 (-1), .int .i64 4] 3) (some w.heap.size)) Gw7.out) hg)
      have hsw8 := hg.size
      clear hc hg hx hn t1 s1 s2 Cw7 Gw7
      have T9 := Lib.hid (grown_trans G3.out Gw8.out)
      have HR := Lib.hid (Rs.of_own (HO.out.kept T9.out hne))
      have HB9 := Lib.hid (HB.out.trans (grown_below T9.out (by omega) (fun k hk => by cases hk; exact Nat.le_refl _)))
      go_wp2_with fail
      go_ret3
      exact ⟨_, l, n0, t, rfl, HR.out, hl, hbn, hbt, HB9.out⟩
    | false =>
      go_wp2_with fail
      refine (pick_any w.heap.size w.heap.size _ (l.length : Int) w3 C3.out (by omega) (by omega) (by omega)).mono ?_
      rintro e w4 ⟨r, rfl, hr, hc, hg⟩
      have hrl : r < l.length := by omega
      obtain ⟨rfl, haB, hla, hlm⟩ := HA.out hp
      have C4 := Lib.hid hc
      have G4 := Lib.hid (grown_trans G3.out hg)
      have hs4 := hg.size
      obtain ⟨c0, c1, c2, c3, c4⟩ := (HL.out.kept G4.out (by intro e; have := Option.some.inj e; omega)) r hrl
      obtain ⟨b1, _⟩ := HQ.out r hrl
      have i1 : (r : Int) < (l.length : Int) := by omega
      generalize (gth l r).i = Q at *
      clear hc hg hr c1 c2 c3 c4
      have hzz : w.heap.size < w4.heap.size := by omega
      go_wp2_with fail
      refine (pick_any w.heap.size w.heap.size (_) 24 _ (C4.out.alloc _) (by omega) (by omega) (by omega)).mono ?_
      rintro e w7 ⟨rt, rfl, hr, hc, hg⟩
      have Cw7 := Lib.hid hc
      have Gw7 := Lib.hid hg
      have hsw7 := hg.size
      simp at hsw7
      clear hc hg
      obtain ⟨ct, nt, hn, t1, s1, s2⟩ := sel4 rt hr
      clear hr
      go_wp2_with fail
      refine (among_any w.heap.size w.heap.size (_ + 2) w4.heap.size nt _ ([0, 1, 2, 3, -1, 4].take nt) w7 Cw7.out (by omega) (by rw [List.length_take]; simp; omega) (by omega) (by omega) (by omega) (num_part w4 3 [0, 1, 2, 3, -1, 4] nt _ rfl w7 w.heap.size Gw7.out (by omega))).mono ?_
      rintro e w8 ⟨t, hx, rfl, hc, hg⟩
      have hbt : -1 ≤ t ∧ t ≤ 4 := by have h := List.mem_of_mem_take hx; simp at h; omega
      have Cw8 := Lib.hid hc
      have Gw8 := Lib.hid (grown_trans (grown_trans (World.grownBy_alloc w4 (.cells #[.int .i64 0, .int .i64 1, .int .i64 2, .int .i64 3, .int .i64 (-1), .int .i64 4] 3) (some w.heap.size)) Gw7.out) hg)
      have hsw8 := hg.size
      clear hc hg hx hn t1 s1 s2 Cw7 Gw7
      have T9 := Lib.hid (grown_trans G4.out Gw8.out)
      have HR := Lib.hid (Rs.of_own (HO.out.kept T9.out hne))
      have HB9 := Lib.hid (HB.out.trans (grown_below T9.out (by omega) (fun k hk => by cases hk; exact Nat.le_refl _)))
      go_wp2_with fail
      go_ret3
      exact ⟨_, l, Q, t, rfl, HR.out, hl, b1, hbt, HB9.out⟩
end Go.Proofs.YtiogjocbiagipabDoor

namespace Go.Proofs.YtiogjocbiagipabDoor
open Go.RowKit
set_option linter.unusedVariables false
theorem grown_of_below {w w' : World} {b : Nat} (h : Below w.heap.size w w') : w.grownBy w' (some b) := ⟨h.os, h.tape, h.output, h.size, fun k hk _ => h.block k hk⟩
def DpcPost (w : World) (e : Ending) (w' : World) : Prop := ∃ u : ByteArray, e = .returned (.string u) ∧ u.size ≤ 300 ∧ Below w.heap.size w w'
theorem ctV_size (x : Cab) : (ctV x).size ≤ 60 := by
  cases h : isC x with
  | false => rw [ct_no h]; exact Nat.zero_le _
  | true => rw [ct_yes h]; exact cab_size h
set_option maxRecDepth 100000 in
set_option maxHeartbeats 2000000 in
theorem DrawParseCabin_any (a : Option Addr) (len cap : Nat) (w : World) (h : ByteRow w a len) :
    Calls Tryd.prog 19 #[.slice a len cap] w (DpcPost w) := by
  have HC := Lib.hid (cur_new (cap := cap) h 80)
  have HB0 := Lib.hid ((Below.refl w.heap.size w).alloc (Nat.le_refl _) (.cells #[.slice a len cap, .int .i64 0, .int .u64 0] 80))
  have hs0 : (w.alloc (.cells #[.slice a len cap, .int .i64 0, .int .u64 0] 80)).heap.size = w.heap.size + 1 := by simp
  clear h
  go_enter Tryd.func19, Tryd.ntmps19
  go_upto_region 2 with fail
  generalize hw0 : w.alloc (.cells #[.slice a len cap, .int .i64 0, .int .u64 0] 80) = w0 at *
  clear hw0
  have hb0 := HB0.out.size
  go_wp2_with fail
  refine (among_any w.heap.size w.heap.size 0 (w.heap.size + 1) 3 3 [1, 42, 99] _ (HC.out.alloc _) (by omega) rfl (by omega) (by omega) (by omega) (num_cells1 w0 3 [1, 42, 99] _ rfl _ hs0.symm)).mono ?_
  rintro e w1 ⟨id, hx, rfl, hc, hg⟩
  have hid : -10 ≤ id ∧ id ≤ 200 := by simp at hx; omega
  have G1 := Lib.hid (grown_trans (World.grownBy_alloc w0 (.cells #[.int .i64 1, .int .i64 42, .int .i64 99] 3) (some w.heap.size)) hg)
  have C1 := Lib.hid hc
  have hs1 := G1.out.size
  clear hc hg hx
  go_wp2_with fail
  refine (cabin_any _ _ (0 + 2) id w1 C1.out (by omega) hid).mono ?_
  rintro e w2 ⟨x, rfl, hxb, hc, hg⟩
  have G2 := Lib.hid (grown_trans G1.out hg)
  have C2 := Lib.hid hc
  have hs2 := hg.size
  clear hc hg
  unfold Cab.agg
  go_wp2_with fail
  refine (specCabinText_c x _).mono ?_
  rintro e w3 ⟨rfl, b3⟩
  have hsz := ctV_size x
  have C3 := Lib.hid (C2.out.grown (grown_of_below (b := w2.heap.size) b3) (fun j hj => by cases hj; omega))
  have B3 := Lib.hid ((HB0.out.trans (grown_below G2.out (by omega) (fun k hk => by cases hk; exact Nat.le_refl _))).trans (b3.mono (by omega)))
  have hs3 := b3.size
  clear b3
  generalize ctV x = tx at *
  generalize isC x = ic at *
  go_wp2_with fail
  refine (one_any w.heap.size w.heap.size _ 4 w3 C3.out (by omega) (by omega) (by omega)).mono ?_
  rintro e w4 ⟨u, rfl, hc, hg⟩
  have C4 := Lib.hid hc
  have B4 := Lib.hid (B3.out.trans (grown_below hg (by omega) (fun k hk => by cases hk; exact Nat.le_refl _)))
  clear hc hg
  cases u with
  | false =>
    go_wp2_with fail
    go_ret
    exact ⟨tx, rfl, by omega, B4.out⟩
  | true =>
    go_wp2_with fail
    refine (spoilt_any w.heap.size w.heap.size _ tx w4 C4.out (by omega) (by omega)).mono ?_
    rintro e w5 ⟨y, rfl, hy, hc, hg⟩
    have B5 := Lib.hid (B4.out.trans (grown_below hg B4.out.size (fun k hk => by cases hk; exact Nat.le_refl _)))
    clear hc hg
    go_wp2_with fail
    go_ret
    exact ⟨y, rfl, by omega, B5.out⟩
end Go.Proofs.YtiogjocbiagipabDoor

namespace Go.Proofs.YtiogjocbiagipabDoor
open Go.RowKit
set_option linter.unusedVariables false
theorem pc_text {x : Cab} (h : isC x = true) : pcOk (ctV x) = true ∧ pcC (ctV x) = x := pc_yes ⟨h, (ct_yes h).symm⟩
theorem mv_law {l : List Cab} {n t : Int} {j : Nat} (hj : j < (mvR l n t).length) : j < l.length ∧ (0 ≤ (gth l j).p ∧ (gth l j).p ≤ 99999) ∧
    (((gth (mvR l n t) j).p == (gth l j).p + 1) = ((gth l j).g == 1 && (gth (mvR l n t) j).g == 0)) ∧ (((gth l j).g == 1 && (gth (mvR l n t) j).g == 0) = false → (gth (mvR l n t) j).p = (gth l j).p) := by
  cases h : mvOk l n t with
  | false => rw [mv_no h] at hj; simp at hj
  | true =>
    have hin : cabL l = true ∧ idxN l n < l.length := by
      have h2 := h
      unfold mvOk mvIn at h2
      simp only [Bool.and_eq_true, decide_eq_true_eq] at h2
      exact ⟨h2.1.1.1.1, h2.1.1.2⟩
    obtain ⟨hL, hix⟩ := hin
    have hV := cabL_yes hL
    rw [mv_yes h] at hj ⊢
    have hjl : j < l.length := by simpa using hj
    have hb := ((isC_iff _).1 (hV.ok j hjl).1).2.2.2.2
    refine ⟨hjl, hb, ?_⟩
    by_cases e : idxN l n = j
    · subst e
      rw [gth_set_same hix]
      generalize gth l (idxN l n) = D at *
      show (((if D.g = 1 ∧ t = 0 then D.p + 1 else D.p) == D.p + 1) = ((D.g == 1) && (t == 0))) ∧ (((D.g == 1) && (t == 0)) = false → (if D.g = 1 ∧ t = 0 then D.p + 1 else D.p) = D.p)
      have h3 : (D.p == D.p + 1) = false := by rw [beq_eq_false_iff_ne]; omega
      by_cases h1 : D.g = 1 ∧ t = 0
      · rw [if_pos h1, h1.1, h1.2]
        simp
      · rw [if_neg h1, h3]
        have h4 : ((D.g == 1) && (t == 0)) = false := by
          cases h5 : ((D.g == 1) && (t == 0)) with
          | false => rfl
          | true =>
            rw [Bool.and_eq_true, beq_iff_eq, beq_iff_eq] at h5
            exact absurd h5 h1
        rw [h4]
        exact ⟨rfl, fun _ => rfl⟩
    · rw [gth_set_other e]
      generalize gth l j = D at *
      have h3 : ¬ D.p = D.p + 1 := by omega
      have h4 : ((D.g == 1) && (D.g == 0)) = false := by
        by_cases h1 : D.g = 1
        · simp [h1]
        · simp [h1]
      rw [h4]
      exact ⟨by rw [beq_eq_false_iff_ne]; exact h3, fun _ => rfl⟩
/-- The cabins in the first k states. -/
def stK (l : List Cab) : Nat → Nat
  | 0 => 0
  | k + 1 => stK l k + (stOf l (k : Int)).length
theorem stK_all : ∀ (l : List Cab), (∀ c ∈ l, 0 ≤ c.g ∧ c.g ≤ 3) → stK l 4 = l.length
  | [], _ => by simp [stK, stOf]
  | c :: r, h => by
    have ih := stK_all r (fun x hx => h x (by simp [hx]))
    have hc := h c (by simp)
    simp only [stK, stOf, List.filter_cons, inSt] at ih ⊢
    have h4 : c.g = 0 ∨ c.g = 1 ∨ c.g = 2 ∨ c.g = 3 := by omega
    rcases h4 with e | e | e | e <;> simp [e] at ih ⊢ <;> omega
theorem ci_law {l : List Cab} {m : Int} (h : ciOk l m = true) : cabL l = true := by unfold ciOk at h; rw [Bool.and_eq_true] at h; exact h.1
theorem ci_st {l : List Cab} (h : cabL l = true) : (∀ k : Nat, k < 4 → ciOk l (k : Int) = true ∧ (ciR l (k : Int)).length = (stOf l (k : Int)).length) ∧ stK l 4 = l.length := by
  refine ⟨fun k hk => ?_, stK_all l (fun c hc => ((isC_iff c).1 ((cabL_yes h).at hc)).2.2.2.1)⟩
  have hci : ciOk l (k : Int) = true := by unfold ciOk; rw [h, Bool.true_and, inR_iff]; omega
  exact ⟨hci, by rw [ci_yes hci, nums_len]⟩
theorem stK_le (l : List Cab) : ∀ k, stK l k ≤ k * l.length
  | 0 => by simp [stK]
  | k + 1 => by
    have := stK_le l k
    have := stOf_len l (k : Int)
    rw [stK, Nat.add_mul]
    omega
end Go.Proofs.YtiogjocbiagipabDoor

namespace Go.Proofs.YtiogjocbiagipabDoor
open Go.RowKit
set_option linter.unusedVariables false
set_option maxRecDepth 100000 in
set_option maxHeartbeats 16000000 in
theorem FnCabins_walk (a : Option Addr) (len cap : Nat) (w : World) (h : ByteRow w a len) (hwTabP : TabP w) (hwErrP : ErrP w) (hwMlP : MlP w) (hwMovP : MovP w) (hwStaP : StaP w) :
    Calls Tryd.prog 4 #[.slice a len cap] w fun e w' => e = .returned (.bool true) ∧ Below w.heap.size w w' := by
  have hm := h.1
  have HC := Lib.hid h
  clear h
  have HTabP : Hid (∀ W, Below w.heap.size w W → TabP W) := Lib.hid (fun W hW => hwTabP.below hW)
  clear hwTabP
  have HErrP : Hid (∀ W, Below w.heap.size w W → ErrP W) := Lib.hid (fun W hW => hwErrP.below hW)
  clear hwErrP
  have HMlP : Hid (∀ W, Below w.heap.size w W → MlP W) := Lib.hid (fun W hW => hwMlP.below hW)
  clear hwMlP
  have HMovP : Hid (∀ W, Below w.heap.size w W → MovP W) := Lib.hid (fun W hW => hwMovP.below hW)
  clear hwMovP
  have HStaP : Hid (∀ W, Below w.heap.size w W → StaP W) := Lib.hid (fun W hW => hwStaP.below hW)
  clear hwStaP
  by_cases hbig : 65536 < len
  · go_enter Tryd.func4, Tryd.ntmps4
    go_wp2_with fail
    refine (rBig_yes a len cap _ hbig hm).mono ?_
    rintro e w' ⟨rfl, rfl⟩
    go_wp2_with fail
    go_ret
    exact ⟨rfl, Below.refl _ _⟩
  · go_enter Tryd.func4, Tryd.ntmps4
    go_wp2_with fail
    refine (rBig_no a len cap _ (by omega)).mono ?_
    rintro e w' ⟨rfl, rfl⟩
    have T0 := Lib.hid (Below.refl w.heap.size w)
    have HPcV := Lib.hid (fun (W : World) (hW : Below w.heap.size w W) => (⟨HTabP.out W hW, HErrP.out W hW, HMlP.out W hW, HStaP.out W hW⟩ : PcV W))
    have HCode1 := Lib.hid (HC.out.below T0.out)
    go_wp2_with fail
    refine (DrawCabinText_any a len cap _ HCode1.out).mono ?_
    rintro e X1 ⟨x1, rfl, hxb1, hb⟩
    unfold Cab.agg
    have HBX1 := Lib.hid (fun W hh => box_Cab X1 x1 34 _ rfl W hh)
    have BX1 := Lib.hid (Below.refl (X1.heap.size + 1) (X1.alloc (.cells #[.int .i64 x1.i, .int .i64 x1.s, .int .i64 x1.w, .int .i64 x1.g, .int .i64 x1.p] 34)))
    have hT := T0.out.trans (hb.mono T0.out.size)
    have T1 := Lib.hid (hT.alloc hT.size (.cells #[.int .i64 x1.i, .int .i64 x1.s, .int .i64 x1.w, .int .i64 x1.g, .int .i64 x1.p] 34))
    have hs1 : (X1.alloc (.cells #[.int .i64 x1.i, .int .i64 x1.s, .int .i64 x1.w, .int .i64 x1.g, .int .i64 x1.p] 34)).heap.size = X1.heap.size + 1 := by simp
    clear hb hT HCode1
    obtain ⟨k0, k1, k2, k3, k4⟩ := HBX1.out _ BX1.out
    go_wp2_with fail
    refine (implCabinText_c x1 _ (HTabP.out _ T1.out) (HStaP.out _ T1.out)).mono ?_
    rintro e Y2 ⟨rfl, b2⟩
    have T_2 := Lib.hid (T1.out.trans (b2.mono T1.out.size))
    have BX_2 := Lib.hid (BX1.out.trans (b2.mono (by first | exact BX1.out.size | (have := BX1.out.size; omega))))
    clear b2 k0 k1 k2 k3 k4 T1 BX1
    obtain ⟨k0, k1, k2, k3, k4⟩ := HBX1.out _ BX_2.out
    go_wp2_with fail
    refine (specCabinText_c x1 _).mono ?_
    rintro e Y3 ⟨rfl, b3⟩
    have T_3 := Lib.hid (T_2.out.trans (b3.mono T_2.out.size))
    have BX_3 := Lib.hid (BX_2.out.trans (b3.mono (by first | exact BX_2.out.size | (have := BX_2.out.size; omega))))
    clear b3 k0 k1 k2 k3 k4 T_2 BX_2
    have HPT := Lib.hid (fun h => pc_text (x := x1) h)
    have hsz := ctV_size x1
    have HIC := Lib.hid (fun W => implIsCabin_c x1 W)
    generalize ctV x1 = sx at *
    generalize isC x1 = ic at *
    obtain ⟨k0, k1, k2, k3, k4⟩ := HBX1.out _ BX_3.out
    go_wp2_with fail
    refine (HIC.out _).mono ?_
    rintro e Y4 ⟨rfl, b4⟩
    have T_4 := Lib.hid (T_3.out.trans (b4.mono T_3.out.size))
    have BX_4 := Lib.hid (BX_3.out.trans (b4.mono (by first | exact BX_3.out.size | (have := BX_3.out.size; omega))))
    clear b4 k0 k1 k2 k3 k4 T_3 BX_3
    have HPA := Lib.hid (fun W hv => implParseCabin_c sx W (by omega) hv)
    unfold PcRes at HPA
    generalize pcOk sx = po at *
    generalize pcC sx = x90 at *
    obtain ⟨k0, k1, k2, k3, k4⟩ := HBX1.out _ BX_4.out
    go_wp2_with fail
    refine (HPA.out _ (HPcV.out _ T_4.out)).mono ?_
    rintro e Y5 ⟨rfl, b5⟩
    have T_5 := Lib.hid (T_4.out.trans (b5.mono T_4.out.size))
    have BX_5 := Lib.hid (BX_4.out.trans (b5.mono (by first | exact BX_4.out.size | (have := BX_4.out.size; omega))))
    clear b5 k0 k1 k2 k3 k4 T_4 BX_4
    have HBB := Lib.hid (box_Cab Y5 x90 34 _ rfl (Y5.alloc (.cells #[.int .i64 x90.i, .int .i64 x90.s, .int .i64 x90.w, .int .i64 x90.g, .int .i64 x90.p] 34)) (Below.refl _ _))
    have BXB := Lib.hid (BX_5.out.trans ((Below.refl _ _).alloc (by first | exact BX_5.out.size | (have := BX_5.out.size; omega)) (.cells #[.int .i64 x90.i, .int .i64 x90.s, .int .i64 x90.w, .int .i64 x90.g, .int .i64 x90.p] 34)))
    have TB := Lib.hid (T_5.out.alloc T_5.out.size (.cells #[.int .i64 x90.i, .int .i64 x90.s, .int .i64 x90.w, .int .i64 x90.g, .int .i64 x90.p] 34))
    have hsB : (Y5.alloc (.cells #[.int .i64 x90.i, .int .i64 x90.s, .int .i64 x90.w, .int .i64 x90.g, .int .i64 x90.p] 34)).heap.size = Y5.heap.size + 1 := by simp
    go_upto_region 9 with fail
    generalize Y5.alloc (.cells #[.int .i64 x90.i, .int .i64 x90.s, .int .i64 x90.w, .int .i64 x90.g, .int .i64 x90.p] 34) = WB at *
    go_cut [76] from 67 to 76 (fun tt wx => tt = .bool false ∧ wx = WB)
    case first =>
      as_aux_lemma =>
      obtain ⟨k0, k1, k2, k3, k4⟩ := HBX1.out _ BXB.out
      obtain ⟨j0, j1, j2, j3, j4⟩ := HBB.out
      cases ic with
      | false =>
        go_wp2
        go_meet
        case rel => exact ⟨rfl, rfl⟩
      | true =>
        obtain ⟨h1, h2⟩ := HPT.out rfl
        subst h1
        subst h2
        go_wp2
        go_meet
        case rel => exact ⟨rfl, rfl⟩
    case rest =>
      obtain ⟨htt, rfl⟩ := hcut
      subst htt
      clear HPT HBB BXB BX_5 T_5
      have HCode80 := Lib.hid (HC.out.below TB.out)
      go_wp2_with fail
      refine (DrawParseCabin_any a len cap _ HCode80.out).mono ?_
      rintro e X80 ⟨u80, rfl, hu80, hb⟩
      have T80 := Lib.hid (TB.out.trans (hb.mono TB.out.size))
      clear hb HCode80 TB
      have HPI := Lib.hid (fun W hv => implParseCabin_c u80 W (by omega) hv)
      have HPS := Lib.hid (fun W => specParseCabin_c u80 W (by omega))
      unfold PcRes at HPI HPS
      generalize pcOk u80 = pf at *
      generalize pcC u80 = x91 at *
      go_wp2_with fail
      refine (HPI.out _ (HPcV.out _ T80.out)).mono ?_
      rintro e X81 ⟨rfl, b81⟩
      have T81 := Lib.hid (T80.out.trans (b81.mono T80.out.size))
      have HB1 := Lib.hid (fun W hh => box_Cab X81 x91 34 _ rfl W hh)
      have T82 := Lib.hid (T81.out.alloc T81.out.size (.cells #[.int .i64 x91.i, .int .i64 x91.s, .int .i64 x91.w, .int .i64 x91.g, .int .i64 x91.p] 34))
      have hs81 : (X81.alloc (.cells #[.int .i64 x91.i, .int .i64 x91.s, .int .i64 x91.w, .int .i64 x91.g, .int .i64 x91.p] 34)).heap.size = X81.heap.size + 1 := by simp
      clear b81 T80
      go_wp2_with fail
      refine (HPS.out _).mono ?_
      rintro e X83 ⟨rfl, b83⟩
      have T83 := Lib.hid (T82.out.trans (b83.mono T82.out.size))
      have BX83 := Lib.hid (b83.mono (by omega : X81.heap.size + 1 ≤ _))
      have HB2 := Lib.hid (box_Cab X83 x91 34 _ rfl (X83.alloc (.cells #[.int .i64 x91.i, .int .i64 x91.s, .int .i64 x91.w, .int .i64 x91.g, .int .i64 x91.p] 34)) (Below.refl _ _))
      have HB3 := Lib.hid (HB1.out _ (BX83.out.trans ((Below.refl _ _).alloc (by have := BX83.out.size; omega) (.cells #[.int .i64 x91.i, .int .i64 x91.s, .int .i64 x91.w, .int .i64 x91.g, .int .i64 x91.p] 34))))
      have T84 := Lib.hid (T83.out.alloc T83.out.size (.cells #[.int .i64 x91.i, .int .i64 x91.s, .int .i64 x91.w, .int .i64 x91.g, .int .i64 x91.p] 34))
      clear b83 T82 T81 BX83
      go_upto_region 14 with fail
      generalize X83.alloc (.cells #[.int .i64 x91.i, .int .i64 x91.s, .int .i64 x91.w, .int .i64 x91.g, .int .i64 x91.p] 34) = W84 at *
      obtain ⟨k0, k1, k2, k3, k4⟩ := HB3.out
      obtain ⟨j0, j1, j2, j3, j4⟩ := HB2.out
      clear HB1 HB2 HB3
      have HCode6 := Lib.hid (HC.out.below T84.out)
      go_wp2_with fail
      clear k0 k1 k2 k3 k4 j0 j1 j2 j3 j4
      refine (DrawMoveCabin_any a len cap _ HCode6.out).mono ?_
      rintro e X6 ⟨v6, l6, n6, t6, rfl, hr, hl6, hn6, ht6, hb⟩
      have T6 := Lib.hid (T84.out.trans (hb.mono T84.out.size))
      have HR6 := Lib.hid hr
      have HWn6 := Lib.hid (WalkArith.wf_i64 (n := n6) (by omega))
      have HWt6 := Lib.hid (WalkArith.wf_i64 (n := t6) (by omega))
      clear hb hr HCode6
      go_wp2_with fail
      refine (implMoveCabin_c v6 l6 n6 t6 _ HR6.out (by omega) HWn6.out HWt6.out (HMovP.out _ T6.out)).mono ?_
      rintro e Y7 ⟨p, rfl, o7, b7⟩
      have T_7 := Lib.hid (T6.out.trans (b7.mono T6.out.size))
      have R6_7 := Lib.hid (HR6.out.below b7 rfl)
      have Op_7 := Lib.hid o7
      clear b7 o7 T6 HR6
      go_wp2_with fail
      refine (specMoveCabin_c v6 l6 n6 t6 _ R6_7.out (by omega) HWn6.out HWt6.out).mono ?_
      rintro e Y8 ⟨q, rfl, o8, b8⟩
      have T_8 := Lib.hid (T_7.out.trans (b8.mono T_7.out.size))
      have R6_8 := Lib.hid (R6_7.out.below b8 rfl)
      have Op_8 := Lib.hid (owns_below Op_7.out b8)
      have Oq_8 := Lib.hid o8
      clear b8 o8 T_7 R6_7 Op_7
      go_wp2_with fail
      refine (rCabins_same p q (mvR l6 n6 t6) _ (Rs.of_own Op_8.out) (Rs.of_own Oq_8.out)).mono ?_
      rintro e Y9 ⟨rfl, b9⟩
      have T_9 := Lib.hid (T_8.out.trans (b9.mono T_8.out.size))
      have R6_9 := Lib.hid (R6_8.out.below b9 rfl)
      have Op_9 := Lib.hid (owns_below Op_8.out b9)
      have Oq_9 := Lib.hid (owns_below Oq_8.out b9)
      clear b9 T_8 R6_8 Op_8 Oq_8
      have HML := Lib.hid (fun j hj => mv_law (l := l6) (n := n6) (t := t6) (j := j) hj)
      have hMl := mvR_len l6 n6 t6
      generalize mvR l6 n6 t6 = OR at *
      generalize mvOk l6 n6 t6 = kn at *
      obtain ⟨bo, bb, ob, cb, hv, hbo, hbt⟩ := R6_9.out.form_Cab
      subst hv
      obtain ⟨po, pb, op, cp, hv, hpo, hpt⟩ := own_at5 Op_9.out
      subst hv
      have HBO := Lib.hid hbo
      have HBT := Lib.hid hbt
      have HPO := Lib.hid hpo
      have HPT := Lib.hid hpt
      clear hbo hbt hpo hpt
      go_upto_block 0 with fail
      go_cut [22] from 22 to 176 (fun i wx => Hid (Below Y9.heap.size Y9 wx))
      case first =>
        as_aux_lemma =>
        go_wp2
        go_loopw [22] (fun i wr => ∃ j : Nat, j ≤ OR.length ∧ i = .int .i64 j ∧ Hid (Below Y9.heap.size Y9 wr)) (fun i _ => OR.length - (intOf i).toNat)
        case atStart => exact ⟨0, Nat.zero_le _, rfl, Lib.hid (Below.refl _ _)⟩
        case round =>
          obtain ⟨j, hj, rfl, HBr⟩ := hrel
          by_cases hlt : j < OR.length
          · obtain ⟨hjl, hgb, hoe, hon⟩ := HML.out j hlt
            obtain ⟨hbo, hbb, hmb⟩ := HBO.out (by omega)
            subst hbo
            obtain ⟨hpo, _, hpb, hmp⟩ := HPO.out (by omega)
            subst hpo
            have hlti : (j : Int) < (OR.length : Int) := by omega
            have hltk : (j : Int) < (l6.length : Int) := by omega
            obtain ⟨_, _, _, c3, c4⟩ := (HPT.out.below HBr.out hpb) j hlt
            obtain ⟨_, _, _, d3, d4⟩ := (HBT.out.below HBr.out hbb) j hjl
            have e1 : IntKind.i64.wrap ((gth l6 j).p + 1) = (gth l6 j).p + 1 := IntWalk.i64_in _ (by omega)
            generalize (gth OR j).g = G2 at *
            generalize (gth OR j).p = P2 at *
            generalize (gth l6 j).g = G1 at *
            generalize (gth l6 j).p = P1 at *
            have D0' : ∀ x : Aft wr, x.w.cell? ⟨pb, op + j * 5 + 3, none⟩ = some (.int .i64 G2) := fun x => x.cell c3
            have D1' : ∀ x : Aft wr, x.w.cell? ⟨pb, op + j * 5 + 4, none⟩ = some (.int .i64 P2) := fun x => x.cell c4
            have D2' : ∀ x : Aft wr, x.w.cell? ⟨bb, ob + j * 5 + 3, none⟩ = some (.int .i64 G1) := fun x => x.cell d3
            have D3' : ∀ x : Aft wr, x.w.cell? ⟨bb, ob + j * 5 + 4, none⟩ = some (.int .i64 P1) := fun x => x.cell d4
            cases hA : (G1 == 1) with
            | true =>
              cases hB : (G2 == 0) with
              | true =>
                have t1 : (P2 == P1 + 1) = true := by rw [hoe, hA, hB]; rfl
                clear hoe hon
                go_wp2_with fail
                clear c3 c4 d3 d4
                refine wp_region_aft (w0 := wr) (by kernel_rfl) (by kernel_rfl) (Below.refl _ _) ?_
                repeat (go_big_quiet_step (fail))
                refine wpQuiet_nil ?_
                rintro _ ⟨x, rfl⟩
                have HBx := Lib.hid (HBr.out.trans (x.below.mono HBr.out.size))
                clear D0' D1' D2' D3'
                generalize x.w = wx at *
                go_wp2
                go_roundw
                case rel => exact ⟨j + 1, by omega, by go_num, HBx⟩
                case measure => simp [intOf]; omega
              | false =>
                have t1 : (P2 == P1 + 1) = false := by rw [hoe, hA, hB]; rfl
                have t2 : (P2 != P1) = false := by rw [hon (by rw [hA, hB]; rfl)]; simp
                clear hoe hon
                go_wp2_with fail
                clear c3 c4 d3 d4
                refine wp_region_aft (w0 := wr) (by kernel_rfl) (by kernel_rfl) (Below.refl _ _) ?_
                repeat (go_big_quiet_step (fail))
                refine wpQuiet_nil ?_
                rintro _ ⟨x, rfl⟩
                have HBx := Lib.hid (HBr.out.trans (x.below.mono HBr.out.size))
                clear D0' D1' D2' D3'
                generalize x.w = wx at *
                go_wp2
                go_roundw
                case rel => exact ⟨j + 1, by omega, by go_num, HBx⟩
                case measure => simp [intOf]; omega
            | false =>
              have t1 : (P2 == P1 + 1) = false := by rw [hoe, hA]; rfl
              have t2 : (P2 != P1) = false := by rw [hon (by rw [hA]; rfl)]; simp
              clear hoe hon
              go_wp2_with fail
              clear c3 c4 d3 d4
              refine wp_region_aft (w0 := wr) (by kernel_rfl) (by kernel_rfl) (Below.refl _ _) ?_
              repeat (go_big_quiet_step (fail))
              refine wpQuiet_nil ?_
              rintro _ ⟨x, rfl⟩
              have HBx := Lib.hid (HBr.out.trans (x.below.mono HBr.out.size))
              clear D0' D1' D2' D3'
              generalize x.w = wx at *
              go_wp2
              go_roundw
              case rel => exact ⟨j + 1, by omega, by go_num, HBx⟩
              case measure => simp [intOf]; omega
          · have hlti : ¬ (j : Int) < (OR.length : Int) := by omega
            go_wp2
            go_meet
            case rel => exact HBr
      case rest =>
        clear HML HBO HBT HPO HPT
        have TC := Lib.hid (T_9.out.trans (hcut.out.mono T_9.out.size))
        clear hcut T_9 R6_9 Op_9 Oq_9
        have HCode10 := Lib.hid (HC.out.below TC.out)
        go_wp2_with fail
        refine (DrawCabinsIn_any a len cap _ HCode10.out).mono ?_
        rintro e X10 ⟨v10, l10, m10, rfl, hr, hl10, hm10, hb⟩
        have T10 := Lib.hid (TC.out.trans (hb.mono TC.out.size))
        have HR10 := Lib.hid hr
        have HWm10 := Lib.hid (WalkArith.wf_i64 (n := m10) (by omega))
        clear hb hr HCode10
        go_wp2_with fail
        refine (implCabinsIn_c v10 l10 m10 _ HR10.out (by omega) HWm10.out).mono ?_
        rintro e Y11 ⟨g, rfl, o11, b11⟩
        have T_11 := Lib.hid (T10.out.trans (b11.mono T10.out.size))
        have R10_11 := Lib.hid (HR10.out.below b11 rfl)
        have Og_11 := Lib.hid o11
        clear b11 o11 T10 HR10
        go_wp2_with fail
        refine (specCabinsIn_c v10 l10 m10 _ R10_11.out (by omega) HWm10.out).mono ?_
        rintro e Y12 ⟨h, rfl, o12, b12⟩
        have T_12 := Lib.hid (T_11.out.trans (b12.mono T_11.out.size))
        have R10_12 := Lib.hid (R10_11.out.below b12 rfl)
        have Og_12 := Lib.hid (owns_below Og_11.out b12)
        have Oh_12 := Lib.hid o12
        clear b12 o12 T_11 R10_11 Og_11
        go_wp2_with fail
        refine (rInts_c g h (ciR l10 m10) _ (Rd.of_own Og_12.out) (Rd.of_own Oh_12.out)).mono ?_
        rintro e Y13 ⟨rfl, b13⟩
        have T_13 := Lib.hid (T_12.out.trans (b13.mono T_12.out.size))
        have R10_13 := Lib.hid (R10_12.out.below b13 rfl)
        have Og_13 := Lib.hid (owns_below Og_12.out b13)
        have Oh_13 := Lib.hid (owns_below Oh_12.out b13)
        clear b13 T_12 R10_12 Og_12 Oh_12
        have HKN := Lib.hid (fun h => ci_law (l := l10) (m := m10) h)
        generalize ciR l10 m10 = CR at *
        generalize ciOk l10 m10 = kw at *
        obtain ⟨ao, va, vca, hv⟩ : ∃ (ao : Option Addr) (va vca : Nat), v10 = .slice ao l10.length vca := by obtain ⟨a1, c1, h1⟩ := R10_13.out.shape; exact ⟨a1, 0, c1, h1⟩
        subst hv
        clear HBX1 HIC HPA HPI HPS hs1 hsB hs81 T83 T84
        go_upto_block 2 with fail
        go_cut [30] from 30 to 221 (fun nn wx => ∃ z : Int, nn = .int .i64 z ∧ Hid (kw = true → z = (l10.length : Int)) ∧ Hid (Below Y13.heap.size Y13 wx))
        case first =>
          as_aux_lemma =>
          cases kw with
          | false =>
            go_wp2
            go_loopw [30, 31] (fun nn i wr => nn = .int .i64 0 ∧ i = .int .i64 0 ∧ wr = Y13) (fun _ _ _ => 0)
            case atStart => exact ⟨rfl, rfl, rfl⟩
            case round =>
              obtain ⟨rfl, rfl, rfl⟩ := hrel
              go_wp2
              go_meet
              case rel => exact ⟨0, rfl, Lib.hid (fun h => by cases h), Lib.hid (Below.refl _ _)⟩
          | true =>
            obtain ⟨hst, hall⟩ := ci_st (HKN.out rfl)
            have HST := Lib.hid hst
            have HALL := Lib.hid hall
            clear hst hall
            go_wp2
            go_loopw [30, 31] (fun nn i wr => ∃ j : Nat, j ≤ 4 ∧ i = .int .i64 j ∧ nn = .int .i64 (stK l10 j : Nat) ∧ Hid (Below Y13.heap.size Y13 wr)) (fun _ i _ => 4 - (intOf i).toNat)
            case atStart => exact ⟨0, by omega, rfl, rfl, Lib.hid (Below.refl _ _)⟩
            case round =>
              obtain ⟨j, hj, rfl, rfl, HBr⟩ := hrel
              by_cases hlt : j < 4
              · obtain ⟨h1, h2⟩ := HST.out j hlt
                have hle := stK_le l10 j
                have hsl := stOf_len l10 (j : Int)
                have hmul : j * l10.length ≤ 52 := Nat.le_trans (Nat.mul_le_mul (show j ≤ 4 by omega) (show l10.length ≤ 13 by omega)) (by omega)
                have HWj := Lib.hid (WalkArith.wf_i64 (n := (j : Int)) (by omega))
                have HCI := Lib.hid (fun W h => implCabinsIn_c (.slice ao l10.length vca) l10 (j : Int) W h (by omega) HWj.out)
                rw [h1] at HCI
                have HNX : Hid (stK l10 (j + 1) = stK l10 j + (ciR l10 (j : Int)).length) := Lib.hid (by rw [stK, h2])
                have hltj : (j : Int) < 4 := by omega
                have HRr := Lib.hid (R10_13.out.below HBr.out rfl)
                clear h1
                rw [← h2] at hsl
                clear h2
                generalize ciR l10 (j : Int) = CJ at *
                generalize stK l10 j = SK at *
                go_wp2_with fail
                refine (HCI.out _ HRr.out).mono ?_
                rintro e w9 ⟨g9, rfl, o9, b9⟩
                have HB9 := Lib.hid (HBr.out.trans (b9.mono HBr.out.size))
                obtain ⟨ga, gc, hv⟩ := slice_of_own o9
                subst hv
                have s1 : IntKind.i64.wrap ((SK : Int) + (CJ.length : Int)) = (SK : Int) + (CJ.length : Int) := IntWalk.i64_in _ (by omega)
                clear o9 b9
                simp only []
                go_wp2_with fail
                go_roundw
                case rel => exact ⟨j + 1, by omega, by go_num, by rw [HNX.out]; simp, HB9⟩
                case measure => simp [intOf]; omega
              · have hj4 : j = 4 := by omega
                subst hj4
                have HZ : Hid (((stK l10 4 : Nat) : Int) = (l10.length : Int)) := Lib.hid (by rw [HALL.out])
                generalize stK l10 4 = SK at *
                go_wp2
                go_meet
                case rel => exact ⟨_, rfl, Lib.hid (fun _ => HZ.out), HBr⟩
        case rest =>
          obtain ⟨z, rfl, HZ, hb9⟩ := hcut
          have T9 := Lib.hid (T_13.out.trans (hb9.out.mono T_13.out.size))
          cases kw with
          | false =>
            go_wp2
            go_ret
            exact ⟨rfl, T9.out⟩
          | true =>
            have hz := HZ.out rfl
            subst hz
            go_wp2
            go_ret
            exact ⟨by first | rfl | simp, T9.out⟩
end Go.Proofs.YtiogjocbiagipabDoor
