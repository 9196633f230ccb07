/- The law FnExactNextWind's walk. Condition: sizes. -/
import Derived.Test.YtoamhbobcpljpaaWndG
import Derived.Test.YtoamhbobcpljpaaLawR
namespace Go.Proofs.Ytoamhbobcpljpaa
open Go.RowKit
set_option linter.unusedVariables false
set_option maxRecDepth 100000 in
set_option maxHeartbeats 4000000 in
theorem FnExactNextWind_walk (r : Wru) (s : Wst) (v : Int) (w : World) (hw0 : r.wf) (hw1 : s.wf) (hw2 : (Lit.int .i64 v).wf = true) :
    Calls Try.prog 7 #[.agg #[.int .i64 r.a, .int .i64 r.b, .int .i64 r.c, .int .i64 r.d], .agg #[.int .i64 s.l, .int .i64 s.c], .int .i64 v] w fun e w' => e = .returned (.bool true) ∧ Below w.heap.size w w' := by
  have HX0 : Hid (∀ W, Below (w.heap.size + 2) ((w.alloc (.cells #[.int .i64 r.a, .int .i64 r.b, .int .i64 r.c, .int .i64 r.d] 60)).alloc (.cells #[.int .i64 s.l, .int .i64 s.c] 63)) W → W.cell? ⟨w.heap.size, 0, none⟩ = some (.int .i64 r.a) ∧ W.cell? ⟨w.heap.size, 1, none⟩ = some (.int .i64 r.b) ∧ W.cell? ⟨w.heap.size, 2, none⟩ = some (.int .i64 r.c) ∧ W.cell? ⟨w.heap.size, 3, none⟩ = some (.int .i64 r.d)) := Lib.hid (fun W h => box_Wru w r _ _ (by simp) W (((Below.refl _ _).alloc (by simp) _).trans (h.mono (by simp))))
  have HX1 : Hid (∀ W, Below (w.heap.size + 2) ((w.alloc (.cells #[.int .i64 r.a, .int .i64 r.b, .int .i64 r.c, .int .i64 r.d] 60)).alloc (.cells #[.int .i64 s.l, .int .i64 s.c] 63)) W → W.cell? ⟨w.heap.size + 1, 0, none⟩ = some (.int .i64 s.l) ∧ W.cell? ⟨w.heap.size + 1, 1, none⟩ = some (.int .i64 s.c)) := Lib.hid (fun W h => box_Wst (w.alloc (.cells #[.int .i64 r.a, .int .i64 r.b, .int .i64 r.c, .int .i64 r.d] 60)) s _ _ (by simp) W h)
  have HT0 : Hid (Below w.heap.size w ((w.alloc (.cells #[.int .i64 r.a, .int .i64 r.b, .int .i64 r.c, .int .i64 r.d] 60)).alloc (.cells #[.int .i64 s.l, .int .i64 s.c] 63))) := Lib.hid (((Below.refl _ _).alloc (by simp) _).alloc (by simp) _)
  have HS0 : Hid (((w.alloc (.cells #[.int .i64 r.a, .int .i64 r.b, .int .i64 r.c, .int .i64 r.d] 60)).alloc (.cells #[.int .i64 s.l, .int .i64 s.c] 63)).heap.size = w.heap.size + 2) := Lib.hid (by simp)
  go_enter Try.func7, Try.ntmps7
  go_wp2_with fail
  generalize (w.alloc (.cells #[.int .i64 r.a, .int .i64 r.b, .int .i64 r.c, .int .i64 r.d] 60)).alloc (.cells #[.int .i64 s.l, .int .i64 s.c] 63) = W0 at *
  have t0 := Below.refl W0.heap.size W0
  go_wp2_with fail
  have HKS : Hid (∀ W, Below W0.heap.size W0 W → Below W0.heap.size W0 W ∧ W.cell? ⟨w.heap.size, 0, none⟩ = some (.int .i64 r.a) ∧ W.cell? ⟨w.heap.size, 1, none⟩ = some (.int .i64 r.b) ∧ W.cell? ⟨w.heap.size, 2, none⟩ = some (.int .i64 r.c) ∧ W.cell? ⟨w.heap.size, 3, none⟩ = some (.int .i64 r.d) ∧ W.cell? ⟨w.heap.size + 1, 0, none⟩ = some (.int .i64 s.l) ∧ W.cell? ⟨w.heap.size + 1, 1, none⟩ = some (.int .i64 s.c)) := Lib.hid (fun W hW => by
    have hW0 := t0.trans (hW.mono t0.size)
    obtain ⟨z0_0, z0_1, z0_2, z0_3⟩ := HX0.out W (by rw [← HS0.out]; exact hW0)
    obtain ⟨z1_0, z1_1⟩ := HX1.out W (by rw [← HS0.out]; exact hW0)
    exact ⟨hW, z0_0, z0_1, z0_2, z0_3, z1_0, z1_1⟩)
  go_cut [7, 8] from 11 to 19 (fun s7 s8 wx => ∃ (P0 : Nat), s7 = .pointer (some ⟨P0, 0, none⟩) ∧ s8 = .bool (nxOk r s v) ∧ Hid (Below W0.heap.size W0 wx) ∧ Hid (W0.heap.size ≤ P0 ∧ wx.heap[P0]? = some (.cells #[.int .i64 (nxR r s v).l, .int .i64 (nxR r s v).c] 27)))
  case first =>
    as_aux_lemma =>
    go_region_held3 (fun w' => Below W0.heap.size W0 w' ∧ w'.cell? ⟨w.heap.size, 0, none⟩ = some (.int .i64 r.a) ∧ w'.cell? ⟨w.heap.size, 1, none⟩ = some (.int .i64 r.b) ∧ w'.cell? ⟨w.heap.size, 2, none⟩ = some (.int .i64 r.c) ∧ w'.cell? ⟨w.heap.size, 3, none⟩ = some (.int .i64 r.d) ∧ w'.cell? ⟨w.heap.size + 1, 0, none⟩ = some (.int .i64 s.l) ∧ w'.cell? ⟨w.heap.size + 1, 1, none⟩ = some (.int .i64 s.c)) (exact HKS.out _ (by (repeat (first | exact B3T | exact B2T | exact B1T | exact Below.refl _ _ | refine Below.drew ?_ | refine below_drewN ?_ _ | refine below_al ?_ _ | refine below_all2 ?_ (by first | exact Nat.le_refl _ | exact B1T.size | exact B2T.size | exact B3T.size | fail) _ _)); first | done | fail))
      (first
        | (go_at_call 46; (with_reducible (show Calls _ _ #[.agg #[.int .i64 r.a, .int .i64 r.b, .int .i64 r.c, .int .i64 r.d]] _ _)); refine (toWindRule_any r _).mono ?_; rintro e W1 ⟨rfl, b1⟩; have B1T : Below W0.heap.size W0 W1 := bel_then (by (repeat (first | exact Below.refl _ _ | refine Below.drew ?_ | refine below_drewN ?_ _ | refine below_al ?_ _)); first | done | fail) b1)
        | (go_at_call 47; (with_reducible (show Calls _ _ #[.agg #[.int .i64 s.l, .int .i64 s.c]] _ _)); refine (toWindState_any s _).mono ?_; rintro e W2 ⟨rfl, b2⟩; have B2T : Below W0.heap.size W0 W2 := bel_then (by (repeat (first | exact B1T | exact Below.refl _ _ | refine Below.drew ?_ | refine below_drewN ?_ _ | refine below_al ?_ _)); first | done | fail) b2)
        | (go_at_call 24; refine (specNextWind_c r s v _ ).mono ?_; rintro e W3 ⟨rfl, b3⟩; have B3T : Below W0.heap.size W0 W3 := bel_then (by (repeat (first | exact B2T | exact B1T | exact Below.refl _ _ | refine Below.drew ?_ | refine below_drewN ?_ _ | refine below_al ?_ _)); first | done | fail) b3; first | (have KB : W3.heap[W0.heap.size]? = some (.cells #[.int .i64 0, .int .i64 0] 27) := (by (repeat (first | exact new_at _ _ _ (by first | rfl | (simp; done) | fail) | refine blk_stay ?_ | refine blk_kept ?_ b3 | refine blk_kept ?_ b2 | refine blk_kept ?_ b1)); first | done | fail); obtain ⟨p0, p1⟩ := blk_cell2 KB; obtain ⟨m0, m1⟩ := blk_froz2 KB; have hltB := blk_lt KB) | (have KB : W3.heap[W1.heap.size]? = some (.cells #[.int .i64 0, .int .i64 0] 27) := (by (repeat (first | exact new_at _ _ _ (by first | rfl | (simp; done) | fail) | refine blk_stay ?_ | refine blk_kept ?_ b3 | refine blk_kept ?_ b2 | refine blk_kept ?_ b1)); first | done | fail); obtain ⟨p0, p1⟩ := blk_cell2 KB; obtain ⟨m0, m1⟩ := blk_froz2 KB; have hltB := blk_lt KB) | (have KB : W3.heap[W2.heap.size]? = some (.cells #[.int .i64 0, .int .i64 0] 27) := (by (repeat (first | exact new_at _ _ _ (by first | rfl | (simp; done) | fail) | refine blk_stay ?_ | refine blk_kept ?_ b3 | refine blk_kept ?_ b2 | refine blk_kept ?_ b1)); first | done | fail); obtain ⟨p0, p1⟩ := blk_cell2 KB; obtain ⟨m0, m1⟩ := blk_froz2 KB; have hltB := blk_lt KB) | skip)
        | fail)
    all_goals (try go_wp2_with fail)
    all_goals go_meet
    all_goals (case rel => have Z1 := B1T.size; have Z2 := B2T.size; have Z3 := B3T.size; exact ⟨_, rfl, rfl, Lib.hid (by (repeat (first | exact B3T | exact B2T | exact B1T | exact Below.refl _ _ | refine Below.drew ?_ | refine below_drewN ?_ _ | refine below_al ?_ _ | refine below_all2 ?_ (by first | exact Nat.le_refl _ | exact B1T.size | exact B2T.size | exact B3T.size | fail) _ _)); first | done | fail), Lib.hid ⟨(by first | exact Nat.le_refl _ | omega), (by first | exact blk_new2 _ _ _ _ | exact blk_all2 KB | fail)⟩⟩)
  case rest =>
    obtain ⟨Pw, rfl, rfl, hcut, HK0⟩ := hcut
    obtain ⟨Y4, hY4⟩ := named12 hcut
    subst hY4
    have b4 := hcut.out
    have Kw := Lib.hid HK0.out.2
    clear hcut HKS HK0
    have t5 := t0.trans (b4.mono t0.size)
    have z5 := b4.size
    go_wp2_with fail
    have HKS : Hid (∀ W, Below Y4.heap.size Y4 W → Below Y4.heap.size Y4 W ∧ W.cell? ⟨w.heap.size, 0, none⟩ = some (.int .i64 r.a) ∧ W.cell? ⟨w.heap.size, 1, none⟩ = some (.int .i64 r.b) ∧ W.cell? ⟨w.heap.size, 2, none⟩ = some (.int .i64 r.c) ∧ W.cell? ⟨w.heap.size, 3, none⟩ = some (.int .i64 r.d) ∧ W.cell? ⟨w.heap.size + 1, 0, none⟩ = some (.int .i64 s.l) ∧ W.cell? ⟨w.heap.size + 1, 1, none⟩ = some (.int .i64 s.c)) := Lib.hid (fun W hW => by
      have hW0 := t5.trans (hW.mono t5.size)
      obtain ⟨z0_0, z0_1, z0_2, z0_3⟩ := HX0.out W (by rw [← HS0.out]; exact hW0)
      obtain ⟨z1_0, z1_1⟩ := HX1.out W (by rw [← HS0.out]; exact hW0)
      exact ⟨hW, z0_0, z0_1, z0_2, z0_3, z1_0, z1_1⟩)
    go_cut [9, 10] from 20 to 28 (fun s9 s10 wx => ∃ (P0 : Nat), s9 = .pointer (some ⟨P0, 0, none⟩) ∧ s10 = .bool (nxOk r s v) ∧ Hid (Below Y4.heap.size Y4 wx) ∧ Hid (Y4.heap.size ≤ P0 ∧ wx.heap[P0]? = some (.cells #[.int .i64 (nxR r s v).l, .int .i64 (nxR r s v).c] 27)))
    case first =>
      as_aux_lemma =>
      go_region_held3 (fun w' => Below Y4.heap.size Y4 w' ∧ w'.cell? ⟨w.heap.size, 0, none⟩ = some (.int .i64 r.a) ∧ w'.cell? ⟨w.heap.size, 1, none⟩ = some (.int .i64 r.b) ∧ w'.cell? ⟨w.heap.size, 2, none⟩ = some (.int .i64 r.c) ∧ w'.cell? ⟨w.heap.size, 3, none⟩ = some (.int .i64 r.d) ∧ w'.cell? ⟨w.heap.size + 1, 0, none⟩ = some (.int .i64 s.l) ∧ w'.cell? ⟨w.heap.size + 1, 1, none⟩ = some (.int .i64 s.c)) (exact HKS.out _ (by (repeat (first | exact B8T | exact B7T | exact B6T | exact Below.refl _ _ | refine Below.drew ?_ | refine below_drewN ?_ _ | refine below_al ?_ _ | refine below_all2 ?_ (by first | exact Nat.le_refl _ | exact B6T.size | exact B7T.size | exact B8T.size | fail) _ _)); first | done | fail))
        (first
          | (go_at_call 46; (with_reducible (show Calls _ _ #[.agg #[.int .i64 r.a, .int .i64 r.b, .int .i64 r.c, .int .i64 r.d]] _ _)); refine (toWindRule_any r _).mono ?_; rintro e W6 ⟨rfl, b6⟩; have B6T : Below Y4.heap.size Y4 W6 := bel_then (by (repeat (first | exact Below.refl _ _ | refine Below.drew ?_ | refine below_drewN ?_ _ | refine below_al ?_ _)); first | done | fail) b6)
          | (go_at_call 47; (with_reducible (show Calls _ _ #[.agg #[.int .i64 s.l, .int .i64 s.c]] _ _)); refine (toWindState_any s _).mono ?_; rintro e W7 ⟨rfl, b7⟩; have B7T : Below Y4.heap.size Y4 W7 := bel_then (by (repeat (first | exact B6T | exact Below.refl _ _ | refine Below.drew ?_ | refine below_drewN ?_ _ | refine below_al ?_ _)); first | done | fail) b7)
          | (go_at_call 21; refine (implNextWind_c r s v _ ).mono ?_; rintro e W8 ⟨rfl, b8⟩; have B8T : Below Y4.heap.size Y4 W8 := bel_then (by (repeat (first | exact B7T | exact B6T | exact Below.refl _ _ | refine Below.drew ?_ | refine below_drewN ?_ _ | refine below_al ?_ _)); first | done | fail) b8; first | (have KB : W8.heap[Y4.heap.size]? = some (.cells #[.int .i64 0, .int .i64 0] 27) := (by (repeat (first | exact new_at _ _ _ (by first | rfl | (simp; done) | fail) | refine blk_stay ?_ | refine blk_kept ?_ b8 | refine blk_kept ?_ b7 | refine blk_kept ?_ b6)); first | done | fail); obtain ⟨p0, p1⟩ := blk_cell2 KB; obtain ⟨m0, m1⟩ := blk_froz2 KB; have hltB := blk_lt KB) | (have KB : W8.heap[W6.heap.size]? = some (.cells #[.int .i64 0, .int .i64 0] 27) := (by (repeat (first | exact new_at _ _ _ (by first | rfl | (simp; done) | fail) | refine blk_stay ?_ | refine blk_kept ?_ b8 | refine blk_kept ?_ b7 | refine blk_kept ?_ b6)); first | done | fail); obtain ⟨p0, p1⟩ := blk_cell2 KB; obtain ⟨m0, m1⟩ := blk_froz2 KB; have hltB := blk_lt KB) | (have KB : W8.heap[W7.heap.size]? = some (.cells #[.int .i64 0, .int .i64 0] 27) := (by (repeat (first | exact new_at _ _ _ (by first | rfl | (simp; done) | fail) | refine blk_stay ?_ | refine blk_kept ?_ b8 | refine blk_kept ?_ b7 | refine blk_kept ?_ b6)); first | done | fail); obtain ⟨p0, p1⟩ := blk_cell2 KB; obtain ⟨m0, m1⟩ := blk_froz2 KB; have hltB := blk_lt KB) | skip)
          | fail)
      all_goals (try go_wp2_with fail)
      all_goals go_meet
      all_goals (case rel => have Z6 := B6T.size; have Z7 := B7T.size; have Z8 := B8T.size; exact ⟨_, rfl, rfl, Lib.hid (by (repeat (first | exact B8T | exact B7T | exact B6T | exact Below.refl _ _ | refine Below.drew ?_ | refine below_drewN ?_ _ | refine below_al ?_ _ | refine below_all2 ?_ (by first | exact Nat.le_refl _ | exact B6T.size | exact B7T.size | exact B8T.size | fail) _ _)); first | done | fail), Lib.hid ⟨(by first | exact Nat.le_refl _ | omega), (by first | exact blk_new2 _ _ _ _ | exact blk_all2 KB | fail)⟩⟩)
    case rest =>
      obtain ⟨Pg, rfl, rfl, hcut, HK0⟩ := hcut
      obtain ⟨Y9, hY9⟩ := named12 hcut
      subst hY9
      have b9 := hcut.out
      have Kg := Lib.hid HK0.out.2
      clear hcut HKS HK0
      have Kw := Lib.hid (blk_kept Kw.out b9)
      have t10 := t5.trans (b9.mono t5.size)
      have z10 := b9.size
      obtain ⟨yg_0, yg_1⟩ := blk_cell2 Kg.out
      obtain ⟨yw_0, yw_1⟩ := blk_cell2 Kw.out
      go_wp2_with fail
      refine (eqWindState_same (nxR r s v) _).mono ?_
      rintro e W11 ⟨rfl, b11⟩
      clear yg_0 yg_1
      clear yw_0 yw_1
      have Kw := Lib.hid (blk_kept Kw.out b11)
      have Kg := Lib.hid (blk_kept Kg.out b11)
      have t12 := t10.trans (b11.mono t10.size)
      have z12 := b11.size
      go_wp2_with fail
      go_ret
      exact ⟨rfl, HT0.out.trans (t12.mono (by have := HS0.out; omega))⟩
end Go.Proofs.Ytoamhbobcpljpaa
