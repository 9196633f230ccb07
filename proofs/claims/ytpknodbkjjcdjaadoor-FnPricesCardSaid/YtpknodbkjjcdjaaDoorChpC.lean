/- What CheapestFor calls: the tens beside the others, and the price of all. Condition: the table of rules is as laid. -/
import Derived.Test.YtpknodbkjjcdjaaDoorPrcW
namespace Go.Proofs.YtpknodbkjjcdjaaDoor
open Go.RowKit
set_option linter.unusedVariables false
theorem ret_iC {a b : Int} (h : a = b) : Ending.returned (.int .i64 a) = .returned (.int .i64 b) := by rw [h]
set_option maxRecDepth 100000 in
set_option maxHeartbeats 4000000 in
theorem tensBeside_c (s r d z u v : Int) (w : World) (hT : RulP w) (hs : 0 ≤ s ∧ s ≤ 20) (hr : 0 ≤ r ∧ r ≤ 20) (hd : 0 ≤ d ∧ d ≤ 20) (hu : 0 ≤ u ∧ u ≤ 20) (hv : 0 ≤ v ∧ v ≤ 20) :
    Calls Tryd.prog 77 #[.agg #[.int .i64 s, .int .i64 r, .int .i64 d, .int .i64 z], .int .i64 u, .int .i64 v] w fun e w' => e = .returned (.int .i64 (chT u v s r d)) ∧ Below w.heap.size w w' := by
  have HE : Hid (chT u v s r d = (max (max (u - (r + d * 50)) 0 + max (v - (r + d * 50)) 0 - s) 0 + 10 - 1) / 10) := Lib.hid (by unfold chT; omega)
  obtain ⟨c1, _, _⟩ := RulP.cells hT 1 (by decide)
  obtain ⟨c2, _, _⟩ := RulP.cells hT 2 (by decide)
  obtain ⟨_, c3, _⟩ := RulP.cells hT 0 (by decide)
  obtain ⟨_, c4, _⟩ := RulP.cells hT 3 (by decide)
  have g1 : w.cell? ⟨0, 3, none⟩ = some (.int .i64 1) := c1
  have g2 : w.cell? ⟨0, 6, none⟩ = some (.int .i64 50) := c2
  have g3 : w.cell? ⟨0, 1, none⟩ = some (.int .i64 1) := c3
  have g4 : w.cell? ⟨0, 10, none⟩ = some (.int .i64 10) := c4
  have hg : 0 < w.heap.size := rul_lt hT
  clear c1 c2 c3 c4 hT
  have e1 : IntKind.i64.wrap r = r := IntWalk.i64_in _ (by omega)
  have e2 : IntKind.i64.wrap (d * 50) = d * 50 := IntWalk.i64_in _ (by omega)
  have e3 : IntKind.i64.wrap (r + d * 50) = r + d * 50 := IntWalk.i64_in _ (by omega)
  have e4 : IntKind.i64.wrap (u - (r + d * 50)) = u - (r + d * 50) := IntWalk.i64_in _ (by omega)
  have e5 : IntKind.i64.wrap (v - (r + d * 50)) = v - (r + d * 50) := IntWalk.i64_in _ (by omega)
  have e6 : IntKind.i64.wrap s = s := IntWalk.i64_in _ (by omega)
  go_enter Tryd.func77, Tryd.ntmps77
  go_wp2
  all_goals
    go_ret
    exact ⟨ret_iC (by rw [HE.out]; omega), (Below.refl _ _).alloc (Nat.le_refl _) _⟩
set_option maxRecDepth 100000 in
set_option maxHeartbeats 4000000 in
theorem priceOf_c (p : Prc) (s r d t u v : Int) (w : World) (hp : prcV p = true) (hs : 0 ≤ s ∧ s ≤ 20) (hr : 0 ≤ r ∧ r ≤ 20) (hd : 0 ≤ d ∧ d ≤ 20) (ht : 0 ≤ t ∧ t ≤ 4) :
    Calls Tryd.prog 78 #[.agg #[.int .i64 p.a, .int .i64 p.b, .int .i64 p.c, .int .i64 p.d], .agg #[.int .i64 s, .int .i64 r, .int .i64 d, .int .i64 t]] w fun e w' => e = .returned (.int .i64 (s * p.a + r * p.b + d * p.c + t * p.d)) ∧ Below w.heap.size w w' := by
  have E0 := Lib.hid (fun W => pricesOfKinds_c p W)
  have i0 := idx4_0 p.a p.b p.c p.d
  have i1 := idx4_1 p.a p.b p.c p.d
  have i2 := idx4_2 p.a p.b p.c p.d
  have i3 := idx4_3 p.a p.b p.c p.d
  rw [prcV_iff] at hp
  have m1 := mul_bd hs.1 hs.2 hp.1.1 hp.1.2
  have m2 := mul_bd hr.1 hr.2 hp.2.1.1 hp.2.1.2
  have m3 := mul_bd hd.1 hd.2 hp.2.2.1.1 hp.2.2.1.2
  have m4 := mul_bd ht.1 ht.2 hp.2.2.2.1 hp.2.2.2.2
  have e1 : IntKind.i64.wrap (s * p.a) = s * p.a := IntWalk.i64_in _ (by omega)
  have e2 : IntKind.i64.wrap (r * p.b) = r * p.b := IntWalk.i64_in _ (by omega)
  have e3 : IntKind.i64.wrap (d * p.c) = d * p.c := IntWalk.i64_in _ (by omega)
  have e4 : IntKind.i64.wrap (t * p.d) = t * p.d := IntWalk.i64_in _ (by omega)
  have e5 : IntKind.i64.wrap (s * p.a + r * p.b) = s * p.a + r * p.b := IntWalk.i64_in _ (by omega)
  have e6 : IntKind.i64.wrap (s * p.a + r * p.b + d * p.c) = s * p.a + r * p.b + d * p.c := IntWalk.i64_in _ (by omega)
  have e7 : IntKind.i64.wrap (s * p.a + r * p.b + d * p.c + t * p.d) = s * p.a + r * p.b + d * p.c + t * p.d := IntWalk.i64_in _ (by omega)
  clear m1 m2 m3 m4 hp hs hr hd ht
  go_enter Tryd.func78, Tryd.ntmps78
  go_wp2_with fail
  have hbQ : ((w.alloc (.cells #[.int .i64 p.a, .int .i64 p.b, .int .i64 p.c, .int .i64 p.d] 52)).alloc (.cells #[.int .i64 s, .int .i64 r, .int .i64 d, .int .i64 t] 103)).heap[w.heap.size + 1]? = some (.cells #[.int .i64 s, .int .i64 r, .int .i64 d, .int .i64 t] 103 (0, 0)) := by
    have h := heap_alloc_new (w.alloc (.cells #[.int .i64 p.a, .int .i64 p.b, .int .i64 p.c, .int .i64 p.d] 52)) (.cells #[.int .i64 s, .int .i64 r, .int .i64 d, .int .i64 t] 103)
    simpa using h
  have hz : ((w.alloc (.cells #[.int .i64 p.a, .int .i64 p.b, .int .i64 p.c, .int .i64 p.d] 52)).alloc (.cells #[.int .i64 s, .int .i64 r, .int .i64 d, .int .i64 t] 103)).heap.size = w.heap.size + 2 := by simp
  have HB0 := Lib.hid (((Below.refl w.heap.size w).alloc (Nat.le_refl _) (.cells #[.int .i64 p.a, .int .i64 p.b, .int .i64 p.c, .int .i64 p.d] 52)).alloc (by simp) (.cells #[.int .i64 s, .int .i64 r, .int .i64 d, .int .i64 t] 103))
  generalize (w.alloc (.cells #[.int .i64 p.a, .int .i64 p.b, .int .i64 p.c, .int .i64 p.d] 52)).alloc (.cells #[.int .i64 s, .int .i64 r, .int .i64 d, .int .i64 t] 103) = W0 at *
  refine (E0.out _).mono ?_
  rintro e w1 ⟨rfl, t1⟩
  have hb1 := (t1.block (w.heap.size + 1) (by omega)).trans hbQ
  have HB1 := Lib.hid (HB0.out.trans (t1.mono HB0.out.size))
  have c0 := cell_of_row _ (w.heap.size + 1) 0 _ _ _ hb1
  have c1 := cell_of_row _ (w.heap.size + 1) 1 _ _ _ hb1
  have c2 := cell_of_row _ (w.heap.size + 1) 2 _ _ _ hb1
  have c3 := cell_of_row _ (w.heap.size + 1) 3 _ _ _ hb1
  clear hbQ hb1 t1 hz
  go_wp2_with fail
  refine wp_loop_rounds 5 ?_
  rw [rounds_succ]
  go_wp2
  rw [rounds_succ]
  go_wp2
  rw [rounds_succ]
  go_wp2
  rw [rounds_succ]
  go_wp2
  rw [rounds_succ]
  go_wp2
  go_ret
  exact ⟨rfl, HB1.out⟩
end Go.Proofs.YtpknodbkjjcdjaaDoor
