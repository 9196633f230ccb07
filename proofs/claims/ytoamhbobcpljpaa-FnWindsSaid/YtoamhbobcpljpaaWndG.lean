/- impl.NextWind. Condition: none. -/
import Derived.Test.YtoamhbobcpljpaaWndF
import Derived.Test.YtoamhbobcpljpaaAft
import Derived.Deep.DeepCutAuto
namespace Go.Proofs.Ytoamhbobcpljpaa
open Go.RowKit
set_option linter.unusedVariables false
theorem blk_one2 {w : World} {b : Nat} {a c y : Value} {t : TypeId} (h : w.heap[b]? = some (.cells #[a, c] t (0, 0))) : (w.setCell ⟨b, 1, none⟩ y).heap[b]? = some (.cells #[a, y] t (0, 0)) := by
  have h1 := blk_put (i := 1) (v := y) h
  simpa using h1
set_option maxRecDepth 100000 in
set_option maxHeartbeats 4000000 in
theorem implNext_0 (r : Wru) (v : Int) (w : World) (hk : nxOk r ⟨0, 0⟩ v = true) :
    Calls Try.prog 21 #[.agg #[.int .i64 r.a, .int .i64 r.b, .int .i64 r.c, .int .i64 r.d], .agg #[.int .i64 0, .int .i64 0], .int .i64 v] w fun e w' => e = .returned (.tuple #[.agg #[.int .i64 (nxR r ⟨0, 0⟩ v).l, .int .i64 (nxR r ⟨0, 0⟩ v).c], .bool (nxOk r ⟨0, 0⟩ v)]) ∧ Below w.heap.size w w' := by
  have HKK := Lib.hid hk
  have HY := Lib.hid (nx_yes hk)
  have hk2 : (wsV r ⟨0, 0⟩ && inR v 0 60) = true := hk
  rw [Bool.and_eq_true] at hk2
  obtain ⟨hv, hv2⟩ := hk2
  obtain ⟨hr0, hs⟩ := (wsV_iff _ _).1 hv
  have hx : wsX r ⟨0, 0⟩ = true := (wsX_iff _ _).2 hs
  have hr := (wrV_iff r).1 hr0
  simp only [] at hs
  have hlim : limW r 0 = r.a := by simp [limW]
  have E0 := Lib.hid (fun W => implIsWindRule_c r W)
  have E1 := Lib.hid (fun W => isWindState_c r ⟨0, 0⟩ W hr0)
  have E2 := Lib.hid (fun W => isWind_c v W)
  have E3 := Lib.hid (fun W => limitOf_c r 0 W)
  rw [hr0] at E0
  rw [hx] at E1
  rw [hv2] at E2
  rw [hlim] at E3
  have q1 : IntKind.i64.wrap (r.a - r.c) = r.a - r.c := IntWalk.i64_in _ (by omega)
  have q2 : IntKind.i64.wrap (r.b - r.c) = r.b - r.c := IntWalk.i64_in _ (by omega)
  clear hk hv hv2 hr0 hx
  have K0 := Lib.hid (three_new w (.cells #[.int .i64 r.a, .int .i64 r.b, .int .i64 r.c, .int .i64 r.d] 25) (.cells #[.int .i64 0, .int .i64 0] 27) (.int .i64 0) (.int .i64 0) 27)
  have J0 := Lib.hid (two_new w (.cells #[.int .i64 r.a, .int .i64 r.b, .int .i64 r.c, .int .i64 r.d] 25) (.cells #[.int .i64 0, .int .i64 0] 27) (.int .i64 0) (.int .i64 0) 27)
  have HC : Hid (∀ W, Below (w.heap.size + 3) (((w.alloc (.cells #[.int .i64 r.a, .int .i64 r.b, .int .i64 r.c, .int .i64 r.d] 25)).alloc (.cells #[.int .i64 0, .int .i64 0] 27)).alloc (.cells #[.int .i64 0, .int .i64 0] 27)) W → _) := Lib.hid (fun W h => box_rs w r ⟨0, 0⟩ 25 27 W (((Below.refl _ _).alloc (by simp) _).trans (h.mono (by omega))))
  have HT0 := Lib.hid (l12_below3 w (.cells #[.int .i64 r.a, .int .i64 r.b, .int .i64 r.c, .int .i64 r.d] 25) (.cells #[.int .i64 0, .int .i64 0] 27) (.cells #[.int .i64 0, .int .i64 0] 27))
  have hs0 : (((w.alloc (.cells #[.int .i64 r.a, .int .i64 r.b, .int .i64 r.c, .int .i64 r.d] 25)).alloc (.cells #[.int .i64 0, .int .i64 0] 27)).alloc (.cells #[.int .i64 0, .int .i64 0] 27)).heap.size = w.heap.size + 3 := by simp
  go_enter Try.func21, Try.ntmps21
  go_wp2_with fail
  generalize ((w.alloc (.cells #[.int .i64 r.a, .int .i64 r.b, .int .i64 r.c, .int .i64 r.d] 25)).alloc (.cells #[.int .i64 0, .int .i64 0] 27)).alloc (.cells #[.int .i64 0, .int .i64 0] 27) = W0 at *
  refine (E0.out _).mono ?_
  rintro e w1 ⟨rfl, t1⟩
  have T1 := Lib.hid (HT0.out.trans (t1.mono (by omega)))
  have HU1 := Lib.hid t1
  have hz1 := t1.size
  have K1 := Lib.hid (blk_keep K0.out t1 (by omega))
  have J1 := Lib.hid (blk_keep J0.out t1 (by omega))
  obtain ⟨⟨c0, c1, c2, c3⟩, d0, d1⟩ := HC.out w1 (by rw [← hs0]; exact t1)
  go_wp2_with fail
  refine (E1.out _).mono ?_
  rintro e w2 ⟨rfl, t2⟩
  have T2 := Lib.hid (T1.out.trans (t2.mono T1.out.size))
  have K2 := Lib.hid (blk_keep K1.out t2 (blk_lt K1.out))
  have J2 := Lib.hid (blk_keep J1.out t2 (blk_lt J1.out))
  have HU2 := Lib.hid (HU1.out.trans (t2.mono hz1))
  have hz2 := t2.size
  clear c0 c1 c2 c3 d0 d1
  obtain ⟨⟨c0, c1, c2, c3⟩, d0, d1⟩ := HC.out w2 (by rw [← hs0]; exact HU2.out)
  clear t1 t2 HC K0 J0 K1 J1
  go_wp2_with fail
  refine (E2.out _).mono ?_
  rintro e w4 ⟨rfl, rfl⟩
  by_cases h1 : r.b ≤ v
  · have t1 : decide (r.b ≤ v) = true := by simpa using h1
    have HX : Hid (wnx r ⟨0, 0⟩ v = ⟨2, 0⟩) := Lib.hid (by unfold wnx; simp only [hlim]; rw [if_pos h1]; all_goals rfl)
    clear hlim hr hs h1
    obtain ⟨p0, p1⟩ := blk_cell2 J2.out
    obtain ⟨m0, m1⟩ := blk_froz2 J2.out
    have J4 := blk_all2 (x := .int .i64 (2)) (y := .int .i64 (0)) J2.out
    have K4 := (blk_other2 (w := w4) (x := .int .i64 (2)) (y := .int .i64 (0)) (show w.heap.size + 1 ≠ w.heap.size + 2 by omega)).trans K2.out
    obtain ⟨f0, f1⟩ := blk_cell2 J4
    obtain ⟨q0, q1⟩ := blk_cell2 K4
    obtain ⟨n0, n1⟩ := blk_froz2 K4
    obtain ⟨z0, z1⟩ := blk_cell2 (blk_all2 (x := .int .i64 (2)) (y := .int .i64 (0)) K4)
    have Z0 := Lib.hid z0
    have Z1 := Lib.hid z1
    clear z0 z1 J4 K4
    go_wp2
    refine bodyPost_ret (v := .tuple #[.agg #[.int .i64 (2), .int .i64 (0)], .bool true]) (by simp [results, Try.results21, go_sem, Z0.out, Z1.out]) rfl ⟨ret_sb (s := ⟨2, 0⟩) (by rw [HY.out, HX.out]) HKK.out.symm, ?_⟩
    exact below_all2 (below_all2 T2.out (b := w.heap.size + 1) (by omega) _ _) (b := w.heap.size + 2) (by omega) _ _
  · have t1 : decide (r.b ≤ v) = false := by simpa using h1
    by_cases h2 : r.a ≤ v
    · have t2 : decide (r.a ≤ v) = true := by simpa using h2
      have HX : Hid (wnx r ⟨0, 0⟩ v = ⟨1, 0⟩) := Lib.hid (by unfold wnx; simp only [hlim]; rw [if_neg h1, if_pos trivial, if_pos h2]; all_goals rfl)
      clear hlim hr hs h1 h2
      obtain ⟨p0, p1⟩ := blk_cell2 J2.out
      obtain ⟨m0, m1⟩ := blk_froz2 J2.out
      have J4 := blk_all2 (x := .int .i64 (1)) (y := .int .i64 (0)) J2.out
      have K4 := (blk_other2 (w := w4) (x := .int .i64 (1)) (y := .int .i64 (0)) (show w.heap.size + 1 ≠ w.heap.size + 2 by omega)).trans K2.out
      obtain ⟨f0, f1⟩ := blk_cell2 J4
      obtain ⟨q0, q1⟩ := blk_cell2 K4
      obtain ⟨n0, n1⟩ := blk_froz2 K4
      obtain ⟨z0, z1⟩ := blk_cell2 (blk_all2 (x := .int .i64 (1)) (y := .int .i64 (0)) K4)
      have Z0 := Lib.hid z0
      have Z1 := Lib.hid z1
      clear z0 z1 J4 K4
      go_wp2
      refine bodyPost_ret (v := .tuple #[.agg #[.int .i64 (1), .int .i64 (0)], .bool true]) (by simp [results, Try.results21, go_sem, Z0.out, Z1.out]) rfl ⟨ret_sb (s := ⟨1, 0⟩) (by rw [HY.out, HX.out]) HKK.out.symm, ?_⟩
      exact below_all2 (below_all2 T2.out (b := w.heap.size + 1) (by omega) _ _) (b := w.heap.size + 2) (by omega) _ _
    · have t2 : decide (r.a ≤ v) = false := by simpa using h2
      have HX : Hid (wnx r ⟨0, 0⟩ v = ⟨0, 0⟩) := Lib.hid (by unfold wnx; simp only [hlim]; rw [if_neg h1, if_pos trivial, if_neg h2]; all_goals rfl)
      clear hlim hr hs h1 h2
      obtain ⟨q0, q1⟩ := blk_cell2 K2.out
      obtain ⟨n0, n1⟩ := blk_froz2 K2.out
      obtain ⟨z0, z1⟩ := blk_cell2 (blk_all2 (x := .int .i64 0) (y := .int .i64 0) K2.out)
      have Z0 := Lib.hid z0
      have Z1 := Lib.hid z1
      clear z0 z1
      go_wp2
      refine bodyPost_ret (v := .tuple #[.agg #[.int .i64 (0), .int .i64 (0)], .bool true]) (by simp [results, Try.results21, go_sem, Z0.out, Z1.out]) rfl ⟨ret_sb (s := ⟨0, 0⟩) (by rw [HY.out, HX.out]) HKK.out.symm, ?_⟩
      exact below_all2 (T2.out) (b := w.heap.size + 2) (by omega) _ _
set_option maxRecDepth 100000 in
set_option maxHeartbeats 4000000 in
theorem implNext_1 (r : Wru) (C : Int) (v : Int) (w : World) (hk : nxOk r ⟨1, C⟩ v = true) :
    Calls Try.prog 21 #[.agg #[.int .i64 r.a, .int .i64 r.b, .int .i64 r.c, .int .i64 r.d], .agg #[.int .i64 1, .int .i64 C], .int .i64 v] w fun e w' => e = .returned (.tuple #[.agg #[.int .i64 (nxR r ⟨1, C⟩ v).l, .int .i64 (nxR r ⟨1, C⟩ v).c], .bool (nxOk r ⟨1, C⟩ v)]) ∧ Below w.heap.size w w' := by
  have HKK := Lib.hid hk
  have HY := Lib.hid (nx_yes hk)
  have hk2 : (wsV r ⟨1, C⟩ && inR v 0 60) = true := hk
  rw [Bool.and_eq_true] at hk2
  obtain ⟨hv, hv2⟩ := hk2
  obtain ⟨hr0, hs⟩ := (wsV_iff _ _).1 hv
  have hx : wsX r ⟨1, C⟩ = true := (wsX_iff _ _).2 hs
  have hr := (wrV_iff r).1 hr0
  simp only [] at hs
  have hlim : limW r 1 = r.a := by simp [limW]
  have E0 := Lib.hid (fun W => implIsWindRule_c r W)
  have E1 := Lib.hid (fun W => isWindState_c r ⟨1, C⟩ W hr0)
  have E2 := Lib.hid (fun W => isWind_c v W)
  have E3 := Lib.hid (fun W => limitOf_c r 1 W)
  rw [hr0] at E0
  rw [hx] at E1
  rw [hv2] at E2
  rw [hlim] at E3
  have q1 : IntKind.i64.wrap (r.a - r.c) = r.a - r.c := IntWalk.i64_in _ (by omega)
  have q2 : IntKind.i64.wrap (r.b - r.c) = r.b - r.c := IntWalk.i64_in _ (by omega)
  have q3 : IntKind.i64.wrap (C + 1) = C + 1 := IntWalk.i64_in _ (by omega)
  clear hk hv hv2 hr0 hx
  have K0 := Lib.hid (three_new w (.cells #[.int .i64 r.a, .int .i64 r.b, .int .i64 r.c, .int .i64 r.d] 25) (.cells #[.int .i64 1, .int .i64 C] 27) (.int .i64 0) (.int .i64 0) 27)
  have J0 := Lib.hid (two_new w (.cells #[.int .i64 r.a, .int .i64 r.b, .int .i64 r.c, .int .i64 r.d] 25) (.cells #[.int .i64 0, .int .i64 0] 27) (.int .i64 1) (.int .i64 C) 27)
  have HC : Hid (∀ W, Below (w.heap.size + 3) (((w.alloc (.cells #[.int .i64 r.a, .int .i64 r.b, .int .i64 r.c, .int .i64 r.d] 25)).alloc (.cells #[.int .i64 1, .int .i64 C] 27)).alloc (.cells #[.int .i64 0, .int .i64 0] 27)) W → _) := Lib.hid (fun W h => box_rs w r ⟨1, C⟩ 25 27 W (((Below.refl _ _).alloc (by simp) _).trans (h.mono (by omega))))
  have HT0 := Lib.hid (l12_below3 w (.cells #[.int .i64 r.a, .int .i64 r.b, .int .i64 r.c, .int .i64 r.d] 25) (.cells #[.int .i64 1, .int .i64 C] 27) (.cells #[.int .i64 0, .int .i64 0] 27))
  have hs0 : (((w.alloc (.cells #[.int .i64 r.a, .int .i64 r.b, .int .i64 r.c, .int .i64 r.d] 25)).alloc (.cells #[.int .i64 1, .int .i64 C] 27)).alloc (.cells #[.int .i64 0, .int .i64 0] 27)).heap.size = w.heap.size + 3 := by simp
  go_enter Try.func21, Try.ntmps21
  go_wp2_with fail
  generalize ((w.alloc (.cells #[.int .i64 r.a, .int .i64 r.b, .int .i64 r.c, .int .i64 r.d] 25)).alloc (.cells #[.int .i64 1, .int .i64 C] 27)).alloc (.cells #[.int .i64 0, .int .i64 0] 27) = W0 at *
  refine (E0.out _).mono ?_
  rintro e w1 ⟨rfl, t1⟩
  have T1 := Lib.hid (HT0.out.trans (t1.mono (by omega)))
  have HU1 := Lib.hid t1
  have hz1 := t1.size
  have K1 := Lib.hid (blk_keep K0.out t1 (by omega))
  have J1 := Lib.hid (blk_keep J0.out t1 (by omega))
  obtain ⟨⟨c0, c1, c2, c3⟩, d0, d1⟩ := HC.out w1 (by rw [← hs0]; exact t1)
  go_wp2_with fail
  refine (E1.out _).mono ?_
  rintro e w2 ⟨rfl, t2⟩
  have T2 := Lib.hid (T1.out.trans (t2.mono T1.out.size))
  have K2 := Lib.hid (blk_keep K1.out t2 (blk_lt K1.out))
  have J2 := Lib.hid (blk_keep J1.out t2 (blk_lt J1.out))
  have HU2 := Lib.hid (HU1.out.trans (t2.mono hz1))
  have hz2 := t2.size
  clear c0 c1 c2 c3 d0 d1
  obtain ⟨⟨c0, c1, c2, c3⟩, d0, d1⟩ := HC.out w2 (by rw [← hs0]; exact HU2.out)
  clear t1 t2 HC K0 J0 K1 J1
  go_wp2_with fail
  refine (E2.out _).mono ?_
  rintro e w4 ⟨rfl, rfl⟩
  by_cases h1 : r.b ≤ v
  · have t1 : decide (r.b ≤ v) = true := by simpa using h1
    have HX : Hid (wnx r ⟨1, C⟩ v = ⟨2, 0⟩) := Lib.hid (by unfold wnx; simp only [hlim]; rw [if_pos h1]; all_goals rfl)
    clear hlim hr hs h1
    obtain ⟨p0, p1⟩ := blk_cell2 J2.out
    obtain ⟨m0, m1⟩ := blk_froz2 J2.out
    have J4 := blk_all2 (x := .int .i64 (2)) (y := .int .i64 (0)) J2.out
    have K4 := (blk_other2 (w := w4) (x := .int .i64 (2)) (y := .int .i64 (0)) (show w.heap.size + 1 ≠ w.heap.size + 2 by omega)).trans K2.out
    obtain ⟨f0, f1⟩ := blk_cell2 J4
    obtain ⟨q0, q1⟩ := blk_cell2 K4
    obtain ⟨n0, n1⟩ := blk_froz2 K4
    obtain ⟨z0, z1⟩ := blk_cell2 (blk_all2 (x := .int .i64 (2)) (y := .int .i64 (0)) K4)
    have Z0 := Lib.hid z0
    have Z1 := Lib.hid z1
    clear z0 z1 J4 K4
    go_wp2
    refine bodyPost_ret (v := .tuple #[.agg #[.int .i64 (2), .int .i64 (0)], .bool true]) (by simp [results, Try.results21, go_sem, Z0.out, Z1.out]) rfl ⟨ret_sb (s := ⟨2, 0⟩) (by rw [HY.out, HX.out]) HKK.out.symm, ?_⟩
    exact below_all2 (below_all2 T2.out (b := w.heap.size + 1) (by omega) _ _) (b := w.heap.size + 2) (by omega) _ _
  · have t1 : decide (r.b ≤ v) = false := by simpa using h1
    by_cases h3 : r.a - r.c ≤ v
    · have t3 : decide (r.a - r.c ≤ v) = true := by simpa using h3
      have HX : Hid (wnx r ⟨1, C⟩ v = ⟨1, 0⟩) := Lib.hid (by unfold wnx; simp only [hlim]; rw [if_neg h1, if_neg (by simp : ¬ ((1 : Int) = 0)), if_pos h3]; all_goals rfl)
      clear hlim hr hs h1 h3
      go_upto_region 9 with fail
      have D0 : ∀ x : Aft w4, x.w.cell? ⟨w.heap.size, 0, none⟩ = some (.int .i64 r.a) := fun x => x.cell c0
      have D1 : ∀ x : Aft w4, x.w.cell? ⟨w.heap.size, 1, none⟩ = some (.int .i64 r.b) := fun x => x.cell c1
      have D2 : ∀ x : Aft w4, x.w.cell? ⟨w.heap.size, 2, none⟩ = some (.int .i64 r.c) := fun x => x.cell c2
      have D3 : ∀ x : Aft w4, x.w.cell? ⟨w.heap.size, 3, none⟩ = some (.int .i64 r.d) := fun x => x.cell c3
      have D4 : ∀ x : Aft w4, x.w.cell? ⟨w.heap.size + 1, 0, none⟩ = some (.int .i64 1) := fun x => x.cell d0
      have D5 : ∀ x : Aft w4, x.w.cell? ⟨w.heap.size + 1, 1, none⟩ = some (.int .i64 C) := fun x => x.cell d1
      refine wp_region_aft (w0 := w4) (by kernel_rfl) (by kernel_rfl) (Below.refl _ _) ?_
      repeat (go_big_quiet_step ((go_at_call 61; exact aft_of (E3.out _))))
      refine wpQuiet_nil ?_
      rintro _ ⟨x, rfl⟩
      have T3 := Lib.hid (T2.out.trans (x.below.mono T2.out.size))
      have K3 := Lib.hid (blk_keep K2.out x.below (blk_lt K2.out))
      have J3 := Lib.hid (blk_keep J2.out x.below (blk_lt J2.out))
      obtain ⟨b0, b1, b2, b3⟩ := (⟨D0 x, D1 x, D2 x, D3 x⟩ : _ ∧ _ ∧ _ ∧ _)
      clear c0 c1 c2 c3 d0 d1 D0 D1 D2 D3 D4 D5
      generalize x.w = w3 at *
      obtain ⟨p0, p1⟩ := blk_cell2 J3.out
      obtain ⟨m0, m1⟩ := blk_froz2 J3.out
      have J4 := blk_one2 (y := .int .i64 (0)) J3.out
      have K4 := (blk_by (w := w3) (i := 1) (v := .int .i64 (0)) (show w.heap.size + 1 ≠ w.heap.size + 2 by omega)).trans K3.out
      obtain ⟨f0, f1⟩ := blk_cell2 J4
      obtain ⟨q0, q1⟩ := blk_cell2 K4
      obtain ⟨n0, n1⟩ := blk_froz2 K4
      obtain ⟨z0, z1⟩ := blk_cell2 (blk_all2 (x := .int .i64 (1)) (y := .int .i64 (0)) K4)
      have Z0 := Lib.hid z0
      have Z1 := Lib.hid z1
      clear z0 z1 J4 K4
      go_wp2
      refine bodyPost_ret (v := .tuple #[.agg #[.int .i64 (1), .int .i64 (0)], .bool true]) (by simp [results, Try.results21, go_sem, Z0.out, Z1.out]) rfl ⟨ret_sb (s := ⟨1, 0⟩) (by rw [HY.out, HX.out]) HKK.out.symm, ?_⟩
      exact below_all2 ((T3.out.setCell (by show w.heap.size ≤ w.heap.size + 1; omega) _)) (b := w.heap.size + 2) (by omega) _ _
    · have t3 : decide (r.a - r.c ≤ v) = false := by simpa using h3
      by_cases h4 : C + 1 = r.d
      · have t4 : (C + 1 == r.d) = true := by simpa using h4
        have HX : Hid (wnx r ⟨1, C⟩ v = ⟨0, 0⟩) := Lib.hid (by unfold wnx; simp only [hlim]; rw [if_neg h1, if_neg (by simp : ¬ ((1 : Int) = 0)), if_neg h3, if_pos h4]; all_goals rfl)
        clear hlim hr hs h1 h3 h4
        go_upto_region 9 with fail
        have D0 : ∀ x : Aft w4, x.w.cell? ⟨w.heap.size, 0, none⟩ = some (.int .i64 r.a) := fun x => x.cell c0
        have D1 : ∀ x : Aft w4, x.w.cell? ⟨w.heap.size, 1, none⟩ = some (.int .i64 r.b) := fun x => x.cell c1
        have D2 : ∀ x : Aft w4, x.w.cell? ⟨w.heap.size, 2, none⟩ = some (.int .i64 r.c) := fun x => x.cell c2
        have D3 : ∀ x : Aft w4, x.w.cell? ⟨w.heap.size, 3, none⟩ = some (.int .i64 r.d) := fun x => x.cell c3
        have D4 : ∀ x : Aft w4, x.w.cell? ⟨w.heap.size + 1, 0, none⟩ = some (.int .i64 1) := fun x => x.cell d0
        have D5 : ∀ x : Aft w4, x.w.cell? ⟨w.heap.size + 1, 1, none⟩ = some (.int .i64 C) := fun x => x.cell d1
        refine wp_region_aft (w0 := w4) (by kernel_rfl) (by kernel_rfl) (Below.refl _ _) ?_
        repeat (go_big_quiet_step ((go_at_call 61; exact aft_of (E3.out _))))
        refine wpQuiet_nil ?_
        rintro _ ⟨x, rfl⟩
        have T3 := Lib.hid (T2.out.trans (x.below.mono T2.out.size))
        have K3 := Lib.hid (blk_keep K2.out x.below (blk_lt K2.out))
        have J3 := Lib.hid (blk_keep J2.out x.below (blk_lt J2.out))
        obtain ⟨b0, b1, b2, b3⟩ := (⟨D0 x, D1 x, D2 x, D3 x⟩ : _ ∧ _ ∧ _ ∧ _)
        clear c0 c1 c2 c3 d0 d1 D0 D1 D2 D3 D4 D5
        generalize x.w = w3 at *
        obtain ⟨p0, p1⟩ := blk_cell2 J3.out
        obtain ⟨m0, m1⟩ := blk_froz2 J3.out
        have J4 := blk_all2 (x := .int .i64 (0)) (y := .int .i64 (0)) J3.out
        have K4 := (blk_other2 (w := w3) (x := .int .i64 (0)) (y := .int .i64 (0)) (show w.heap.size + 1 ≠ w.heap.size + 2 by omega)).trans K3.out
        obtain ⟨f0, f1⟩ := blk_cell2 J4
        obtain ⟨q0, q1⟩ := blk_cell2 K4
        obtain ⟨n0, n1⟩ := blk_froz2 K4
        obtain ⟨z0, z1⟩ := blk_cell2 (blk_all2 (x := .int .i64 (0)) (y := .int .i64 (0)) K4)
        have Z0 := Lib.hid z0
        have Z1 := Lib.hid z1
        clear z0 z1 J4 K4
        go_wp2
        refine bodyPost_ret (v := .tuple #[.agg #[.int .i64 (0), .int .i64 (0)], .bool true]) (by simp [results, Try.results21, go_sem, Z0.out, Z1.out]) rfl ⟨ret_sb (s := ⟨0, 0⟩) (by rw [HY.out, HX.out]) HKK.out.symm, ?_⟩
        exact below_all2 (below_all2 T3.out (b := w.heap.size + 1) (by omega) _ _) (b := w.heap.size + 2) (by omega) _ _
      · have t4 : (C + 1 == r.d) = false := by simpa using h4
        have HX : Hid (wnx r ⟨1, C⟩ v = ⟨1, C + 1⟩) := Lib.hid (by unfold wnx; simp only [hlim]; rw [if_neg h1, if_neg (by simp : ¬ ((1 : Int) = 0)), if_neg h3, if_neg h4]; all_goals rfl)
        clear hlim hr hs h1 h3 h4
        go_upto_region 9 with fail
        have D0 : ∀ x : Aft w4, x.w.cell? ⟨w.heap.size, 0, none⟩ = some (.int .i64 r.a) := fun x => x.cell c0
        have D1 : ∀ x : Aft w4, x.w.cell? ⟨w.heap.size, 1, none⟩ = some (.int .i64 r.b) := fun x => x.cell c1
        have D2 : ∀ x : Aft w4, x.w.cell? ⟨w.heap.size, 2, none⟩ = some (.int .i64 r.c) := fun x => x.cell c2
        have D3 : ∀ x : Aft w4, x.w.cell? ⟨w.heap.size, 3, none⟩ = some (.int .i64 r.d) := fun x => x.cell c3
        have D4 : ∀ x : Aft w4, x.w.cell? ⟨w.heap.size + 1, 0, none⟩ = some (.int .i64 1) := fun x => x.cell d0
        have D5 : ∀ x : Aft w4, x.w.cell? ⟨w.heap.size + 1, 1, none⟩ = some (.int .i64 C) := fun x => x.cell d1
        refine wp_region_aft (w0 := w4) (by kernel_rfl) (by kernel_rfl) (Below.refl _ _) ?_
        repeat (go_big_quiet_step ((go_at_call 61; exact aft_of (E3.out _))))
        refine wpQuiet_nil ?_
        rintro _ ⟨x, rfl⟩
        have T3 := Lib.hid (T2.out.trans (x.below.mono T2.out.size))
        have K3 := Lib.hid (blk_keep K2.out x.below (blk_lt K2.out))
        have J3 := Lib.hid (blk_keep J2.out x.below (blk_lt J2.out))
        obtain ⟨b0, b1, b2, b3⟩ := (⟨D0 x, D1 x, D2 x, D3 x⟩ : _ ∧ _ ∧ _ ∧ _)
        clear c0 c1 c2 c3 d0 d1 D0 D1 D2 D3 D4 D5
        generalize x.w = w3 at *
        obtain ⟨p0, p1⟩ := blk_cell2 J3.out
        obtain ⟨m0, m1⟩ := blk_froz2 J3.out
        have J4 := blk_one2 (y := .int .i64 (C + 1)) J3.out
        have K4 := (blk_by (w := w3) (i := 1) (v := .int .i64 (C + 1)) (show w.heap.size + 1 ≠ w.heap.size + 2 by omega)).trans K3.out
        obtain ⟨f0, f1⟩ := blk_cell2 J4
        obtain ⟨q0, q1⟩ := blk_cell2 K4
        obtain ⟨n0, n1⟩ := blk_froz2 K4
        obtain ⟨z0, z1⟩ := blk_cell2 (blk_all2 (x := .int .i64 (1)) (y := .int .i64 (C + 1)) K4)
        have Z0 := Lib.hid z0
        have Z1 := Lib.hid z1
        clear z0 z1 J4 K4
        go_wp2
        refine bodyPost_ret (v := .tuple #[.agg #[.int .i64 (1), .int .i64 (C + 1)], .bool true]) (by simp [results, Try.results21, go_sem, Z0.out, Z1.out]) rfl ⟨ret_sb (s := ⟨1, C + 1⟩) (by rw [HY.out, HX.out]) HKK.out.symm, ?_⟩
        exact below_all2 ((T3.out.setCell (by show w.heap.size ≤ w.heap.size + 1; omega) _)) (b := w.heap.size + 2) (by omega) _ _
set_option maxRecDepth 100000 in
set_option maxHeartbeats 4000000 in
theorem implNext_2 (r : Wru) (C : Int) (v : Int) (w : World) (hk : nxOk r ⟨2, C⟩ v = true) :
    Calls Try.prog 21 #[.agg #[.int .i64 r.a, .int .i64 r.b, .int .i64 r.c, .int .i64 r.d], .agg #[.int .i64 2, .int .i64 C], .int .i64 v] w fun e w' => e = .returned (.tuple #[.agg #[.int .i64 (nxR r ⟨2, C⟩ v).l, .int .i64 (nxR r ⟨2, C⟩ v).c], .bool (nxOk r ⟨2, C⟩ v)]) ∧ Below w.heap.size w w' := by
  have HKK := Lib.hid hk
  have HY := Lib.hid (nx_yes hk)
  have hk2 : (wsV r ⟨2, C⟩ && inR v 0 60) = true := hk
  rw [Bool.and_eq_true] at hk2
  obtain ⟨hv, hv2⟩ := hk2
  obtain ⟨hr0, hs⟩ := (wsV_iff _ _).1 hv
  have hx : wsX r ⟨2, C⟩ = true := (wsX_iff _ _).2 hs
  have hr := (wrV_iff r).1 hr0
  simp only [] at hs
  have hlim : limW r 2 = r.b := by simp [limW]
  have E0 := Lib.hid (fun W => implIsWindRule_c r W)
  have E1 := Lib.hid (fun W => isWindState_c r ⟨2, C⟩ W hr0)
  have E2 := Lib.hid (fun W => isWind_c v W)
  have E3 := Lib.hid (fun W => limitOf_c r 2 W)
  rw [hr0] at E0
  rw [hx] at E1
  rw [hv2] at E2
  rw [hlim] at E3
  have q1 : IntKind.i64.wrap (r.a - r.c) = r.a - r.c := IntWalk.i64_in _ (by omega)
  have q2 : IntKind.i64.wrap (r.b - r.c) = r.b - r.c := IntWalk.i64_in _ (by omega)
  have q3 : IntKind.i64.wrap (C + 1) = C + 1 := IntWalk.i64_in _ (by omega)
  clear hk hv hv2 hr0 hx
  have K0 := Lib.hid (three_new w (.cells #[.int .i64 r.a, .int .i64 r.b, .int .i64 r.c, .int .i64 r.d] 25) (.cells #[.int .i64 2, .int .i64 C] 27) (.int .i64 0) (.int .i64 0) 27)
  have J0 := Lib.hid (two_new w (.cells #[.int .i64 r.a, .int .i64 r.b, .int .i64 r.c, .int .i64 r.d] 25) (.cells #[.int .i64 0, .int .i64 0] 27) (.int .i64 2) (.int .i64 C) 27)
  have HC : Hid (∀ W, Below (w.heap.size + 3) (((w.alloc (.cells #[.int .i64 r.a, .int .i64 r.b, .int .i64 r.c, .int .i64 r.d] 25)).alloc (.cells #[.int .i64 2, .int .i64 C] 27)).alloc (.cells #[.int .i64 0, .int .i64 0] 27)) W → _) := Lib.hid (fun W h => box_rs w r ⟨2, C⟩ 25 27 W (((Below.refl _ _).alloc (by simp) _).trans (h.mono (by omega))))
  have HT0 := Lib.hid (l12_below3 w (.cells #[.int .i64 r.a, .int .i64 r.b, .int .i64 r.c, .int .i64 r.d] 25) (.cells #[.int .i64 2, .int .i64 C] 27) (.cells #[.int .i64 0, .int .i64 0] 27))
  have hs0 : (((w.alloc (.cells #[.int .i64 r.a, .int .i64 r.b, .int .i64 r.c, .int .i64 r.d] 25)).alloc (.cells #[.int .i64 2, .int .i64 C] 27)).alloc (.cells #[.int .i64 0, .int .i64 0] 27)).heap.size = w.heap.size + 3 := by simp
  go_enter Try.func21, Try.ntmps21
  go_wp2_with fail
  generalize ((w.alloc (.cells #[.int .i64 r.a, .int .i64 r.b, .int .i64 r.c, .int .i64 r.d] 25)).alloc (.cells #[.int .i64 2, .int .i64 C] 27)).alloc (.cells #[.int .i64 0, .int .i64 0] 27) = W0 at *
  refine (E0.out _).mono ?_
  rintro e w1 ⟨rfl, t1⟩
  have T1 := Lib.hid (HT0.out.trans (t1.mono (by omega)))
  have HU1 := Lib.hid t1
  have hz1 := t1.size
  have K1 := Lib.hid (blk_keep K0.out t1 (by omega))
  have J1 := Lib.hid (blk_keep J0.out t1 (by omega))
  obtain ⟨⟨c0, c1, c2, c3⟩, d0, d1⟩ := HC.out w1 (by rw [← hs0]; exact t1)
  go_wp2_with fail
  refine (E1.out _).mono ?_
  rintro e w2 ⟨rfl, t2⟩
  have T2 := Lib.hid (T1.out.trans (t2.mono T1.out.size))
  have K2 := Lib.hid (blk_keep K1.out t2 (blk_lt K1.out))
  have J2 := Lib.hid (blk_keep J1.out t2 (blk_lt J1.out))
  have HU2 := Lib.hid (HU1.out.trans (t2.mono hz1))
  have hz2 := t2.size
  clear c0 c1 c2 c3 d0 d1
  obtain ⟨⟨c0, c1, c2, c3⟩, d0, d1⟩ := HC.out w2 (by rw [← hs0]; exact HU2.out)
  clear t1 t2 HC K0 J0 K1 J1
  go_wp2_with fail
  refine (E2.out _).mono ?_
  rintro e w4 ⟨rfl, rfl⟩
  by_cases h1 : r.b ≤ v
  · have t1 : decide (r.b ≤ v) = true := by simpa using h1
    have HX : Hid (wnx r ⟨2, C⟩ v = ⟨2, 0⟩) := Lib.hid (by unfold wnx; simp only [hlim]; rw [if_pos h1]; all_goals rfl)
    clear hlim hr hs h1
    obtain ⟨p0, p1⟩ := blk_cell2 J2.out
    obtain ⟨m0, m1⟩ := blk_froz2 J2.out
    have J4 := blk_all2 (x := .int .i64 (2)) (y := .int .i64 (0)) J2.out
    have K4 := (blk_other2 (w := w4) (x := .int .i64 (2)) (y := .int .i64 (0)) (show w.heap.size + 1 ≠ w.heap.size + 2 by omega)).trans K2.out
    obtain ⟨f0, f1⟩ := blk_cell2 J4
    obtain ⟨q0, q1⟩ := blk_cell2 K4
    obtain ⟨n0, n1⟩ := blk_froz2 K4
    obtain ⟨z0, z1⟩ := blk_cell2 (blk_all2 (x := .int .i64 (2)) (y := .int .i64 (0)) K4)
    have Z0 := Lib.hid z0
    have Z1 := Lib.hid z1
    clear z0 z1 J4 K4
    go_wp2
    refine bodyPost_ret (v := .tuple #[.agg #[.int .i64 (2), .int .i64 (0)], .bool true]) (by simp [results, Try.results21, go_sem, Z0.out, Z1.out]) rfl ⟨ret_sb (s := ⟨2, 0⟩) (by rw [HY.out, HX.out]) HKK.out.symm, ?_⟩
    exact below_all2 (below_all2 T2.out (b := w.heap.size + 1) (by omega) _ _) (b := w.heap.size + 2) (by omega) _ _
  · have t1 : decide (r.b ≤ v) = false := by simpa using h1
    by_cases h3 : r.b - r.c ≤ v
    · have t3 : decide (r.b - r.c ≤ v) = true := by simpa using h3
      have HX : Hid (wnx r ⟨2, C⟩ v = ⟨2, 0⟩) := Lib.hid (by unfold wnx; simp only [hlim]; rw [if_neg h1, if_neg (by simp : ¬ ((2 : Int) = 0)), if_pos h3]; all_goals rfl)
      clear hlim hr hs h1 h3
      go_upto_region 9 with fail
      have D0 : ∀ x : Aft w4, x.w.cell? ⟨w.heap.size, 0, none⟩ = some (.int .i64 r.a) := fun x => x.cell c0
      have D1 : ∀ x : Aft w4, x.w.cell? ⟨w.heap.size, 1, none⟩ = some (.int .i64 r.b) := fun x => x.cell c1
      have D2 : ∀ x : Aft w4, x.w.cell? ⟨w.heap.size, 2, none⟩ = some (.int .i64 r.c) := fun x => x.cell c2
      have D3 : ∀ x : Aft w4, x.w.cell? ⟨w.heap.size, 3, none⟩ = some (.int .i64 r.d) := fun x => x.cell c3
      have D4 : ∀ x : Aft w4, x.w.cell? ⟨w.heap.size + 1, 0, none⟩ = some (.int .i64 2) := fun x => x.cell d0
      have D5 : ∀ x : Aft w4, x.w.cell? ⟨w.heap.size + 1, 1, none⟩ = some (.int .i64 C) := fun x => x.cell d1
      refine wp_region_aft (w0 := w4) (by kernel_rfl) (by kernel_rfl) (Below.refl _ _) ?_
      repeat (go_big_quiet_step ((go_at_call 61; exact aft_of (E3.out _))))
      refine wpQuiet_nil ?_
      rintro _ ⟨x, rfl⟩
      have T3 := Lib.hid (T2.out.trans (x.below.mono T2.out.size))
      have K3 := Lib.hid (blk_keep K2.out x.below (blk_lt K2.out))
      have J3 := Lib.hid (blk_keep J2.out x.below (blk_lt J2.out))
      obtain ⟨b0, b1, b2, b3⟩ := (⟨D0 x, D1 x, D2 x, D3 x⟩ : _ ∧ _ ∧ _ ∧ _)
      clear c0 c1 c2 c3 d0 d1 D0 D1 D2 D3 D4 D5
      generalize x.w = w3 at *
      obtain ⟨p0, p1⟩ := blk_cell2 J3.out
      obtain ⟨m0, m1⟩ := blk_froz2 J3.out
      have J4 := blk_one2 (y := .int .i64 (0)) J3.out
      have K4 := (blk_by (w := w3) (i := 1) (v := .int .i64 (0)) (show w.heap.size + 1 ≠ w.heap.size + 2 by omega)).trans K3.out
      obtain ⟨f0, f1⟩ := blk_cell2 J4
      obtain ⟨q0, q1⟩ := blk_cell2 K4
      obtain ⟨n0, n1⟩ := blk_froz2 K4
      obtain ⟨z0, z1⟩ := blk_cell2 (blk_all2 (x := .int .i64 (2)) (y := .int .i64 (0)) K4)
      have Z0 := Lib.hid z0
      have Z1 := Lib.hid z1
      clear z0 z1 J4 K4
      go_wp2
      refine bodyPost_ret (v := .tuple #[.agg #[.int .i64 (2), .int .i64 (0)], .bool true]) (by simp [results, Try.results21, go_sem, Z0.out, Z1.out]) rfl ⟨ret_sb (s := ⟨2, 0⟩) (by rw [HY.out, HX.out]) HKK.out.symm, ?_⟩
      exact below_all2 ((T3.out.setCell (by show w.heap.size ≤ w.heap.size + 1; omega) _)) (b := w.heap.size + 2) (by omega) _ _
    · have t3 : decide (r.b - r.c ≤ v) = false := by simpa using h3
      by_cases h4 : C + 1 = r.d
      · have t4 : (C + 1 == r.d) = true := by simpa using h4
        have HX : Hid (wnx r ⟨2, C⟩ v = ⟨1, 0⟩) := Lib.hid (by unfold wnx; simp only [hlim]; rw [if_neg h1, if_neg (by simp : ¬ ((2 : Int) = 0)), if_neg h3, if_pos h4]; all_goals rfl)
        clear hlim hr hs h1 h3 h4
        go_upto_region 9 with fail
        have D0 : ∀ x : Aft w4, x.w.cell? ⟨w.heap.size, 0, none⟩ = some (.int .i64 r.a) := fun x => x.cell c0
        have D1 : ∀ x : Aft w4, x.w.cell? ⟨w.heap.size, 1, none⟩ = some (.int .i64 r.b) := fun x => x.cell c1
        have D2 : ∀ x : Aft w4, x.w.cell? ⟨w.heap.size, 2, none⟩ = some (.int .i64 r.c) := fun x => x.cell c2
        have D3 : ∀ x : Aft w4, x.w.cell? ⟨w.heap.size, 3, none⟩ = some (.int .i64 r.d) := fun x => x.cell c3
        have D4 : ∀ x : Aft w4, x.w.cell? ⟨w.heap.size + 1, 0, none⟩ = some (.int .i64 2) := fun x => x.cell d0
        have D5 : ∀ x : Aft w4, x.w.cell? ⟨w.heap.size + 1, 1, none⟩ = some (.int .i64 C) := fun x => x.cell d1
        refine wp_region_aft (w0 := w4) (by kernel_rfl) (by kernel_rfl) (Below.refl _ _) ?_
        repeat (go_big_quiet_step ((go_at_call 61; exact aft_of (E3.out _))))
        refine wpQuiet_nil ?_
        rintro _ ⟨x, rfl⟩
        have T3 := Lib.hid (T2.out.trans (x.below.mono T2.out.size))
        have K3 := Lib.hid (blk_keep K2.out x.below (blk_lt K2.out))
        have J3 := Lib.hid (blk_keep J2.out x.below (blk_lt J2.out))
        obtain ⟨b0, b1, b2, b3⟩ := (⟨D0 x, D1 x, D2 x, D3 x⟩ : _ ∧ _ ∧ _ ∧ _)
        clear c0 c1 c2 c3 d0 d1 D0 D1 D2 D3 D4 D5
        generalize x.w = w3 at *
        obtain ⟨p0, p1⟩ := blk_cell2 J3.out
        obtain ⟨m0, m1⟩ := blk_froz2 J3.out
        have J4 := blk_all2 (x := .int .i64 (1)) (y := .int .i64 (0)) J3.out
        have K4 := (blk_other2 (w := w3) (x := .int .i64 (1)) (y := .int .i64 (0)) (show w.heap.size + 1 ≠ w.heap.size + 2 by omega)).trans K3.out
        obtain ⟨f0, f1⟩ := blk_cell2 J4
        obtain ⟨q0, q1⟩ := blk_cell2 K4
        obtain ⟨n0, n1⟩ := blk_froz2 K4
        obtain ⟨z0, z1⟩ := blk_cell2 (blk_all2 (x := .int .i64 (1)) (y := .int .i64 (0)) K4)
        have Z0 := Lib.hid z0
        have Z1 := Lib.hid z1
        clear z0 z1 J4 K4
        go_wp2
        refine bodyPost_ret (v := .tuple #[.agg #[.int .i64 (1), .int .i64 (0)], .bool true]) (by simp [results, Try.results21, go_sem, Z0.out, Z1.out]) rfl ⟨ret_sb (s := ⟨1, 0⟩) (by rw [HY.out, HX.out]) HKK.out.symm, ?_⟩
        exact below_all2 (below_all2 T3.out (b := w.heap.size + 1) (by omega) _ _) (b := w.heap.size + 2) (by omega) _ _
      · have t4 : (C + 1 == r.d) = false := by simpa using h4
        have HX : Hid (wnx r ⟨2, C⟩ v = ⟨2, C + 1⟩) := Lib.hid (by unfold wnx; simp only [hlim]; rw [if_neg h1, if_neg (by simp : ¬ ((2 : Int) = 0)), if_neg h3, if_neg h4]; all_goals rfl)
        clear hlim hr hs h1 h3 h4
        go_upto_region 9 with fail
        have D0 : ∀ x : Aft w4, x.w.cell? ⟨w.heap.size, 0, none⟩ = some (.int .i64 r.a) := fun x => x.cell c0
        have D1 : ∀ x : Aft w4, x.w.cell? ⟨w.heap.size, 1, none⟩ = some (.int .i64 r.b) := fun x => x.cell c1
        have D2 : ∀ x : Aft w4, x.w.cell? ⟨w.heap.size, 2, none⟩ = some (.int .i64 r.c) := fun x => x.cell c2
        have D3 : ∀ x : Aft w4, x.w.cell? ⟨w.heap.size, 3, none⟩ = some (.int .i64 r.d) := fun x => x.cell c3
        have D4 : ∀ x : Aft w4, x.w.cell? ⟨w.heap.size + 1, 0, none⟩ = some (.int .i64 2) := fun x => x.cell d0
        have D5 : ∀ x : Aft w4, x.w.cell? ⟨w.heap.size + 1, 1, none⟩ = some (.int .i64 C) := fun x => x.cell d1
        refine wp_region_aft (w0 := w4) (by kernel_rfl) (by kernel_rfl) (Below.refl _ _) ?_
        repeat (go_big_quiet_step ((go_at_call 61; exact aft_of (E3.out _))))
        refine wpQuiet_nil ?_
        rintro _ ⟨x, rfl⟩
        have T3 := Lib.hid (T2.out.trans (x.below.mono T2.out.size))
        have K3 := Lib.hid (blk_keep K2.out x.below (blk_lt K2.out))
        have J3 := Lib.hid (blk_keep J2.out x.below (blk_lt J2.out))
        obtain ⟨b0, b1, b2, b3⟩ := (⟨D0 x, D1 x, D2 x, D3 x⟩ : _ ∧ _ ∧ _ ∧ _)
        clear c0 c1 c2 c3 d0 d1 D0 D1 D2 D3 D4 D5
        generalize x.w = w3 at *
        obtain ⟨p0, p1⟩ := blk_cell2 J3.out
        obtain ⟨m0, m1⟩ := blk_froz2 J3.out
        have J4 := blk_one2 (y := .int .i64 (C + 1)) J3.out
        have K4 := (blk_by (w := w3) (i := 1) (v := .int .i64 (C + 1)) (show w.heap.size + 1 ≠ w.heap.size + 2 by omega)).trans K3.out
        obtain ⟨f0, f1⟩ := blk_cell2 J4
        obtain ⟨q0, q1⟩ := blk_cell2 K4
        obtain ⟨n0, n1⟩ := blk_froz2 K4
        obtain ⟨z0, z1⟩ := blk_cell2 (blk_all2 (x := .int .i64 (2)) (y := .int .i64 (C + 1)) K4)
        have Z0 := Lib.hid z0
        have Z1 := Lib.hid z1
        clear z0 z1 J4 K4
        go_wp2
        refine bodyPost_ret (v := .tuple #[.agg #[.int .i64 (2), .int .i64 (C + 1)], .bool true]) (by simp [results, Try.results21, go_sem, Z0.out, Z1.out]) rfl ⟨ret_sb (s := ⟨2, C + 1⟩) (by rw [HY.out, HX.out]) HKK.out.symm, ?_⟩
        exact below_all2 ((T3.out.setCell (by show w.heap.size ≤ w.heap.size + 1; omega) _)) (b := w.heap.size + 2) (by omega) _ _
set_option maxRecDepth 100000 in
set_option maxHeartbeats 4000000 in
theorem implNext_no (r : Wru) (L C v : Int) (w : World) (hk : nxOk r ⟨L, C⟩ v = false) :
    Calls Try.prog 21 #[.agg #[.int .i64 r.a, .int .i64 r.b, .int .i64 r.c, .int .i64 r.d], .agg #[.int .i64 L, .int .i64 C], .int .i64 v] w fun e w' => e = .returned (.tuple #[.agg #[.int .i64 (nxR r ⟨L, C⟩ v).l, .int .i64 (nxR r ⟨L, C⟩ v).c], .bool (nxOk r ⟨L, C⟩ v)]) ∧ Below w.heap.size w w' := by
  have HKK := Lib.hid hk
  have HN := Lib.hid (nx_no hk)
  have hk2 : ((wrV r && wsX r ⟨L, C⟩) && inR v 0 60) = false := hk
  have E0 := Lib.hid (fun W => implIsWindRule_c r W)
  have E1 := Lib.hid (fun W h => isWindState_c r ⟨L, C⟩ W h)
  have E2 := Lib.hid (fun W => isWind_c v W)
  generalize wrV r = b0 at *
  generalize wsX r ⟨L, C⟩ = b1 at *
  generalize inR v 0 60 = b2 at *
  have HK2 := Lib.hid hk2
  clear hk hk2
  have K0 := Lib.hid (three_new w (.cells #[.int .i64 r.a, .int .i64 r.b, .int .i64 r.c, .int .i64 r.d] 25) (.cells #[.int .i64 L, .int .i64 C] 27) (.int .i64 0) (.int .i64 0) 27)
  have J0 := Lib.hid (two_new w (.cells #[.int .i64 r.a, .int .i64 r.b, .int .i64 r.c, .int .i64 r.d] 25) (.cells #[.int .i64 0, .int .i64 0] 27) (.int .i64 L) (.int .i64 C) 27)
  have HC : Hid (∀ W, Below (w.heap.size + 3) (((w.alloc (.cells #[.int .i64 r.a, .int .i64 r.b, .int .i64 r.c, .int .i64 r.d] 25)).alloc (.cells #[.int .i64 L, .int .i64 C] 27)).alloc (.cells #[.int .i64 0, .int .i64 0] 27)) W → _) := Lib.hid (fun W h => box_rs w r ⟨L, C⟩ 25 27 W (((Below.refl _ _).alloc (by simp) _).trans (h.mono (by omega))))
  have HT0 := Lib.hid (l12_below3 w (.cells #[.int .i64 r.a, .int .i64 r.b, .int .i64 r.c, .int .i64 r.d] 25) (.cells #[.int .i64 L, .int .i64 C] 27) (.cells #[.int .i64 0, .int .i64 0] 27))
  have hs0 : (((w.alloc (.cells #[.int .i64 r.a, .int .i64 r.b, .int .i64 r.c, .int .i64 r.d] 25)).alloc (.cells #[.int .i64 L, .int .i64 C] 27)).alloc (.cells #[.int .i64 0, .int .i64 0] 27)).heap.size = w.heap.size + 3 := by simp
  go_enter Try.func21, Try.ntmps21
  go_wp2_with fail
  generalize ((w.alloc (.cells #[.int .i64 r.a, .int .i64 r.b, .int .i64 r.c, .int .i64 r.d] 25)).alloc (.cells #[.int .i64 L, .int .i64 C] 27)).alloc (.cells #[.int .i64 0, .int .i64 0] 27) = W0 at *
  refine (E0.out _).mono ?_
  rintro e w1 ⟨rfl, t1⟩
  have T1 := Lib.hid (HT0.out.trans (t1.mono (by omega)))
  have HU1 := Lib.hid t1
  have hz1 := t1.size
  have K1 := Lib.hid (blk_keep K0.out t1 (by omega))
  have J1 := Lib.hid (blk_keep J0.out t1 (by omega))
  cases b0 with
  | false =>
    skip
    obtain ⟨p0, p1⟩ := blk_cell2 K1.out
    obtain ⟨m0, m1⟩ := blk_froz2 K1.out
    obtain ⟨z0, z1⟩ := blk_cell2 (blk_all2 (x := .int .i64 (0)) (y := .int .i64 (0)) K1.out)
    have Z0 := Lib.hid z0
    have Z1 := Lib.hid z1
    clear z0 z1
    go_wp2
    refine bodyPost_ret (v := .tuple #[.agg #[.int .i64 0, .int .i64 0], .bool false]) (by simp [results, Try.results21, go_sem, Z0.out, Z1.out]) rfl ⟨ret_sb (s := ⟨0, 0⟩) (by rw [HN.out]) HKK.out.symm, ?_⟩
    exact below_all2 T1.out (b := w.heap.size + 2) (by omega) _ _
  | true =>
    obtain ⟨⟨c0, c1, c2, c3⟩, d0, d1⟩ := HC.out w1 (by rw [← hs0]; exact t1)
    go_wp2_with fail
    refine (E1.out _ (by simp)).mono ?_
    rintro e w2 ⟨rfl, t2⟩
    have T2 := Lib.hid (T1.out.trans (t2.mono T1.out.size))
    have K2 := Lib.hid (blk_keep K1.out t2 (blk_lt K1.out))
    clear c0 c1 c2 c3 d0 d1 t1
    cases b1 with
    | false =>
      skip
      obtain ⟨p0, p1⟩ := blk_cell2 K2.out
      obtain ⟨m0, m1⟩ := blk_froz2 K2.out
      obtain ⟨z0, z1⟩ := blk_cell2 (blk_all2 (x := .int .i64 (0)) (y := .int .i64 (0)) K2.out)
      have Z0 := Lib.hid z0
      have Z1 := Lib.hid z1
      clear z0 z1
      go_wp2
      refine bodyPost_ret (v := .tuple #[.agg #[.int .i64 0, .int .i64 0], .bool false]) (by simp [results, Try.results21, go_sem, Z0.out, Z1.out]) rfl ⟨ret_sb (s := ⟨0, 0⟩) (by rw [HN.out]) HKK.out.symm, ?_⟩
      exact below_all2 T2.out (b := w.heap.size + 2) (by omega) _ _
    | true =>
      cases b2 with
      | false =>
        go_wp2_with fail
        refine (E2.out _).mono ?_
        rintro e w4 ⟨rfl, rfl⟩
        skip
        obtain ⟨p0, p1⟩ := blk_cell2 K2.out
        obtain ⟨m0, m1⟩ := blk_froz2 K2.out
        obtain ⟨z0, z1⟩ := blk_cell2 (blk_all2 (x := .int .i64 (0)) (y := .int .i64 (0)) K2.out)
        have Z0 := Lib.hid z0
        have Z1 := Lib.hid z1
        clear z0 z1
        go_wp2
        refine bodyPost_ret (v := .tuple #[.agg #[.int .i64 0, .int .i64 0], .bool false]) (by simp [results, Try.results21, go_sem, Z0.out, Z1.out]) rfl ⟨ret_sb (s := ⟨0, 0⟩) (by rw [HN.out]) HKK.out.symm, ?_⟩
        exact below_all2 T2.out (b := w.heap.size + 2) (by omega) _ _
      | true => have := HK2.out; cases this
theorem implNextWind_c (r : Wru) (s : Wst) (v : Int) (w : World) :
    Calls Try.prog 21 #[.agg #[.int .i64 r.a, .int .i64 r.b, .int .i64 r.c, .int .i64 r.d], .agg #[.int .i64 s.l, .int .i64 s.c], .int .i64 v] w fun e w' => e = .returned (.tuple #[.agg #[.int .i64 (nxR r s v).l, .int .i64 (nxR r s v).c], .bool (nxOk r s v)]) ∧ Below w.heap.size w w' := by
  obtain ⟨L, C⟩ := s
  cases hk : nxOk r ⟨L, C⟩ v with
  | false => rw [← hk]; exact implNext_no r L C v w hk
  | true =>
    have hk2 : (wsV r ⟨L, C⟩ && inR v 0 60) = true := hk
    rw [Bool.and_eq_true] at hk2
    obtain ⟨_, hs⟩ := (wsV_iff _ _).1 hk2.1
    simp only [] at hs
    have hL : (L = 0 ∧ C = 0) ∨ L = 1 ∨ L = 2 := by omega
    rw [← hk]
    rcases hL with ⟨rfl, rfl⟩ | rfl | rfl
    · exact implNext_0 r v w hk
    · exact implNext_1 r C v w hk
    · exact implNext_2 r C v w hk
end Go.Proofs.Ytoamhbobcpljpaa
