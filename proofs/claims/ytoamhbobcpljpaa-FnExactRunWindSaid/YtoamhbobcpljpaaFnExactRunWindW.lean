/- The law FnExactRunWind's walk. Condition: sizes. -/
import Derived.Test.YtoamhbobcpljpaaWndS
import Derived.Test.YtoamhbobcpljpaaLawR
import Derived.Test.YtoamhbobcpljpaaIntC
import Derived.Test.YtoamhbobcpljpaaToInt
namespace Go.Proofs.Ytoamhbobcpljpaa
open Go.RowKit
set_option linter.unusedVariables false
set_option maxRecDepth 100000 in
set_option maxHeartbeats 4000000 in
theorem FnExactRunWind_walk (r : Wru) (s : Wst) (v2 : Value) (l : List Int) (w : World) (hw0 : r.wf) (hw1 : s.wf) (hr2 : Rd w v2 (intVs l)) (hn2 : l.length ≤ maxLen) :
    Calls Try.prog 8 #[.agg #[.int .i64 r.a, .int .i64 r.b, .int .i64 r.c, .int .i64 r.d], .agg #[.int .i64 s.l, .int .i64 s.c], v2] w fun e w' => e = .returned (.bool true) ∧ Below w.heap.size w w' := by
  have hsh2 : ∃ a c, v2 = .slice a l.length c := by rcases hr2 with ⟨h0, a, c, rfl⟩ | ⟨b, off, c, rfl, _⟩ <;> simp_all [intVs]
  obtain ⟨as2, cs2, rfl⟩ := hsh2
  have HR2 := Lib.hid hr2
  clear hr2
  have hm2 := hn2
  unfold maxLen at hm2
  by_cases hq : l.length ≤ 1048576
  · have hl2 : l.length ≤ 1048576 := hq
    have hg : ¬ ((1048576 : Int) < (l.length : Int)) := by omega
    have HX0 : Hid (∀ W, Below (w.heap.size + 2) ((w.alloc (.cells #[.int .i64 r.a, .int .i64 r.b, .int .i64 r.c, .int .i64 r.d] 60)).alloc (.cells #[.int .i64 s.l, .int .i64 s.c] 63)) W → W.cell? ⟨w.heap.size, 0, none⟩ = some (.int .i64 r.a) ∧ W.cell? ⟨w.heap.size, 1, none⟩ = some (.int .i64 r.b) ∧ W.cell? ⟨w.heap.size, 2, none⟩ = some (.int .i64 r.c) ∧ W.cell? ⟨w.heap.size, 3, none⟩ = some (.int .i64 r.d)) := Lib.hid (fun W h => box_Wru w r _ _ (by simp) W (((Below.refl _ _).alloc (by simp) _).trans (h.mono (by simp))))
    have HX1 : Hid (∀ W, Below (w.heap.size + 2) ((w.alloc (.cells #[.int .i64 r.a, .int .i64 r.b, .int .i64 r.c, .int .i64 r.d] 60)).alloc (.cells #[.int .i64 s.l, .int .i64 s.c] 63)) W → W.cell? ⟨w.heap.size + 1, 0, none⟩ = some (.int .i64 s.l) ∧ W.cell? ⟨w.heap.size + 1, 1, none⟩ = some (.int .i64 s.c)) := Lib.hid (fun W h => box_Wst (w.alloc (.cells #[.int .i64 r.a, .int .i64 r.b, .int .i64 r.c, .int .i64 r.d] 60)) s _ _ (by simp) W h)
    have HT0 : Hid (Below w.heap.size w ((w.alloc (.cells #[.int .i64 r.a, .int .i64 r.b, .int .i64 r.c, .int .i64 r.d] 60)).alloc (.cells #[.int .i64 s.l, .int .i64 s.c] 63))) := Lib.hid (((Below.refl _ _).alloc (by simp) _).alloc (by simp) _)
    have HS0 : Hid (((w.alloc (.cells #[.int .i64 r.a, .int .i64 r.b, .int .i64 r.c, .int .i64 r.d] 60)).alloc (.cells #[.int .i64 s.l, .int .i64 s.c] 63)).heap.size = w.heap.size + 2) := Lib.hid (by simp)
    go_enter Try.func8, Try.ntmps8
    go_wp2_with fail
    generalize (w.alloc (.cells #[.int .i64 r.a, .int .i64 r.b, .int .i64 r.c, .int .i64 r.d] 60)).alloc (.cells #[.int .i64 s.l, .int .i64 s.c] 63) = W0 at *
    have HR2 := Lib.hid (HR2.out.below HT0.out rfl)
    have t0 := Below.refl W0.heap.size W0
    have hb0 := rnL_len r s l
    go_wp2_with fail
    have HKS : Hid (∀ W, Below W0.heap.size W0 W → Below W0.heap.size W0 W ∧ W.cell? ⟨w.heap.size, 0, none⟩ = some (.int .i64 r.a) ∧ W.cell? ⟨w.heap.size, 1, none⟩ = some (.int .i64 r.b) ∧ W.cell? ⟨w.heap.size, 2, none⟩ = some (.int .i64 r.c) ∧ W.cell? ⟨w.heap.size, 3, none⟩ = some (.int .i64 r.d) ∧ W.cell? ⟨w.heap.size + 1, 0, none⟩ = some (.int .i64 s.l) ∧ W.cell? ⟨w.heap.size + 1, 1, none⟩ = some (.int .i64 s.c)) := Lib.hid (fun W hW => by
      have hW0 := t0.trans (hW.mono t0.size)
      obtain ⟨z0_0, z0_1, z0_2, z0_3⟩ := HX0.out W (by rw [← HS0.out]; exact hW0)
      obtain ⟨z1_0, z1_1⟩ := HX1.out W (by rw [← HS0.out]; exact hW0)
      exact ⟨hW, z0_0, z0_1, z0_2, z0_3, z1_0, z1_1⟩)
    have HRD2 := Lib.hid (fun W (hW : Below W0.heap.size W0 W) => HR2.out.below (t0.trans (hW.mono t0.size)) rfl)
    go_cut [7, 8, 9] from 23 to 33 (fun s7 s8 s9 wx => ∃ (u0 : Option Addr) (c0 : Nat) (P1 : Nat), s7 = .slice u0 (rnL r s l).length c0 ∧ s8 = .pointer (some ⟨P1, 0, none⟩) ∧ s9 = .bool (rnOk r s l) ∧ Hid (Below W0.heap.size W0 wx) ∧ Hid (wx.ownsRow W0.heap.size 3 1 (.slice u0 (rnL r s l).length c0) (rnL r s l).length (intVs (rnL r s l))) ∧ Hid (W0.heap.size ≤ P1 ∧ wx.heap[P1]? = some (.cells #[.int .i64 (rnS r s l).l, .int .i64 (rnS r s l).c] 27)))
    case first =>
      as_aux_lemma =>
      go_region_held3 (fun w' => Below W0.heap.size W0 w' ∧ w'.cell? ⟨w.heap.size, 0, none⟩ = some (.int .i64 r.a) ∧ w'.cell? ⟨w.heap.size, 1, none⟩ = some (.int .i64 r.b) ∧ w'.cell? ⟨w.heap.size, 2, none⟩ = some (.int .i64 r.c) ∧ w'.cell? ⟨w.heap.size, 3, none⟩ = some (.int .i64 r.d) ∧ w'.cell? ⟨w.heap.size + 1, 0, none⟩ = some (.int .i64 s.l) ∧ w'.cell? ⟨w.heap.size + 1, 1, none⟩ = some (.int .i64 s.c)) (exact HKS.out _ (by (repeat (first | exact B4T | exact B3T | exact B2T | exact B1T | exact Below.refl _ _ | refine Below.drew ?_ | refine below_drewN ?_ _ | refine below_al ?_ _ | refine below_all2 ?_ (by first | exact Nat.le_refl _ | exact B1T.size | exact B2T.size | exact B3T.size | exact B4T.size | fail) _ _)); first | done | fail))
        (first
          | (go_at_call 46; (with_reducible (show Calls _ _ #[.agg #[.int .i64 r.a, .int .i64 r.b, .int .i64 r.c, .int .i64 r.d]] _ _)); refine (toWindRule_any r _).mono ?_; rintro e W1 ⟨rfl, b1⟩; have B1T : Below W0.heap.size W0 W1 := bel_then (by (repeat (first | exact Below.refl _ _ | refine Below.drew ?_ | refine below_drewN ?_ _ | refine below_al ?_ _)); first | done | fail) b1)
          | (go_at_call 47; (with_reducible (show Calls _ _ #[.agg #[.int .i64 s.l, .int .i64 s.c]] _ _)); refine (toWindState_any s _).mono ?_; rintro e W2 ⟨rfl, b2⟩; have B2T : Below W0.heap.size W0 W2 := bel_then (by (repeat (first | exact B1T | exact Below.refl _ _ | refine Below.drew ?_ | refine below_drewN ?_ _ | refine below_al ?_ _)); first | done | fail) b2)
          | (go_at_call 44; refine (toIntS_any _ l _ (HRD2.out _ (by (repeat (first | exact B2T | exact B1T | exact Below.refl _ _ | refine Below.drew ?_ | refine below_drewN ?_ _ | refine below_al ?_ _)); first | done | fail)) hl2).mono ?_; rintro e W3 ⟨vw2, rfl, nw2, b3⟩; have B3T : Below W0.heap.size W0 W3 := bel_then (by (repeat (first | exact B2T | exact B1T | exact Below.refl _ _ | refine Below.drew ?_ | refine below_drewN ?_ _ | refine below_al ?_ _)); first | done | fail) b3)
          | (go_at_call 17; refine (specRunWind_c r s vw2 l _ (Rd.of_own (by first | exact nw2 | (exact owns_below nw2 (by (repeat (first | assumption | exact Below.refl _ _ | refine below_al ?_ _ | refine Below.drew ?_ | refine below_drewN ?_ _)); first | done | fail)) | fail)) hl2).mono ?_; rintro e W4 ⟨vw0, rfl, mw0, b4⟩; have B4T : Below W0.heap.size W0 W4 := bel_then (by (repeat (first | exact B3T | exact B2T | exact B1T | exact Below.refl _ _ | refine Below.drew ?_ | refine below_drewN ?_ _ | refine below_al ?_ _)); first | done | fail) b4; have M0 : W4.ownsRow W0.heap.size 3 1 vw0 (rnL r s l).length (intVs (rnL r s l)) := own_mono mw0 (Below.size (B := W0.heap.size) (by exact (by (repeat (first | exact B3T | exact B2T | exact B1T | exact Below.refl _ _ | refine Below.drew ?_ | refine below_drewN ?_ _ | refine below_al ?_ _)); first | done | fail))); first | (have KB : W4.heap[W0.heap.size]? = some (.cells #[.int .i64 0, .int .i64 0] 27) := (by (repeat (first | exact new_at _ _ _ (by first | rfl | (simp; done) | fail) | refine blk_stay ?_ | refine blk_kept ?_ b4 | refine blk_kept ?_ b3 | refine blk_kept ?_ b2 | refine blk_kept ?_ b1)); first | done | fail); obtain ⟨p0, p1⟩ := blk_cell2 KB; obtain ⟨m0, m1⟩ := blk_froz2 KB; have hltB := blk_lt KB) | (have KB : W4.heap[W1.heap.size]? = some (.cells #[.int .i64 0, .int .i64 0] 27) := (by (repeat (first | exact new_at _ _ _ (by first | rfl | (simp; done) | fail) | refine blk_stay ?_ | refine blk_kept ?_ b4 | refine blk_kept ?_ b3 | refine blk_kept ?_ b2 | refine blk_kept ?_ b1)); first | done | fail); obtain ⟨p0, p1⟩ := blk_cell2 KB; obtain ⟨m0, m1⟩ := blk_froz2 KB; have hltB := blk_lt KB) | (have KB : W4.heap[W2.heap.size]? = some (.cells #[.int .i64 0, .int .i64 0] 27) := (by (repeat (first | exact new_at _ _ _ (by first | rfl | (simp; done) | fail) | refine blk_stay ?_ | refine blk_kept ?_ b4 | refine blk_kept ?_ b3 | refine blk_kept ?_ b2 | refine blk_kept ?_ b1)); first | done | fail); obtain ⟨p0, p1⟩ := blk_cell2 KB; obtain ⟨m0, m1⟩ := blk_froz2 KB; have hltB := blk_lt KB) | (have KB : W4.heap[W3.heap.size]? = some (.cells #[.int .i64 0, .int .i64 0] 27) := (by (repeat (first | exact new_at _ _ _ (by first | rfl | (simp; done) | fail) | refine blk_stay ?_ | refine blk_kept ?_ b4 | refine blk_kept ?_ b3 | refine blk_kept ?_ b2 | refine blk_kept ?_ b1)); first | done | fail); obtain ⟨p0, p1⟩ := blk_cell2 KB; obtain ⟨m0, m1⟩ := blk_froz2 KB; have hltB := blk_lt KB) | skip)
          | fail)
      all_goals (try go_wp2_with fail)
      all_goals go_meet
      all_goals (case rel => have Z1 := B1T.size; have Z2 := B2T.size; have Z3 := B3T.size; have Z4 := B4T.size; obtain ⟨qa0, qc0, rfl⟩ := (Rs.of_own M0).shape; exact ⟨_, _, _, rfl, rfl, rfl, Lib.hid (by (repeat (first | exact B4T | exact B3T | exact B2T | exact B1T | exact Below.refl _ _ | refine Below.drew ?_ | refine below_drewN ?_ _ | refine below_al ?_ _ | refine below_all2 ?_ (by first | exact Nat.le_refl _ | exact B1T.size | exact B2T.size | exact B3T.size | exact B4T.size | fail) _ _)); first | done | fail), Lib.hid (by first | exact M0 | exact M0.drew | exact M0.alloc _ | exact own_by M0 (grown_all2 _ _ _ _) (own_ne M0 KB (by decide)) | fail), Lib.hid ⟨(by first | exact Nat.le_refl _ | omega), (by first | exact blk_new2 _ _ _ _ | exact blk_all2 KB | fail)⟩⟩)
    case rest =>
      obtain ⟨aw0, cw0, Pw, rfl, rfl, rfl, hcut, HK0, HK1⟩ := hcut
      obtain ⟨Y5, hY5⟩ := named12 hcut
      subst hY5
      have b5 := hcut.out
      have ow0 := HK0.out
      have Kw := Lib.hid HK1.out.2
      clear hcut HKS HK0 HK1
      have t6 := t0.trans (b5.mono t0.size)
      have z6 := b5.size
      have lw0 := betw_of ow0
      go_wp2_with fail
      refine (toIntS_any _ l _ (HR2.out.below t6 rfl) hl2).mono ?_
      rintro e W7 ⟨vx, rfl, nx, b7⟩
      have ow0 := owns_below ow0 b7
      have Kw := Lib.hid (blk_kept Kw.out b7)
      have t8 := t6.trans (b7.mono t6.size)
      have z8 := b7.size
      have ox := nx
      have lx := betw_of ox
      go_wp2_with fail
      have HKS : Hid (∀ W, Below W7.heap.size W7 W → Below W7.heap.size W7 W ∧ W.cell? ⟨w.heap.size, 0, none⟩ = some (.int .i64 r.a) ∧ W.cell? ⟨w.heap.size, 1, none⟩ = some (.int .i64 r.b) ∧ W.cell? ⟨w.heap.size, 2, none⟩ = some (.int .i64 r.c) ∧ W.cell? ⟨w.heap.size, 3, none⟩ = some (.int .i64 r.d) ∧ W.cell? ⟨w.heap.size + 1, 0, none⟩ = some (.int .i64 s.l) ∧ W.cell? ⟨w.heap.size + 1, 1, none⟩ = some (.int .i64 s.c)) := Lib.hid (fun W hW => by
        have hW0 := t8.trans (hW.mono t8.size)
        obtain ⟨z0_0, z0_1, z0_2, z0_3⟩ := HX0.out W (by rw [← HS0.out]; exact hW0)
        obtain ⟨z1_0, z1_1⟩ := HX1.out W (by rw [← HS0.out]; exact hW0)
        exact ⟨hW, z0_0, z0_1, z0_2, z0_3, z1_0, z1_1⟩)
      have HRW := Lib.hid (fun W (hW : Below W7.heap.size W7 W) => Rd.of_own (owns_below ox hW))
      go_cut [11, 12, 13] from 36 to 45 (fun s11 s12 s13 wx => ∃ (u0 : Option Addr) (c0 : Nat) (P1 : Nat), s11 = .slice u0 (rnL r s l).length c0 ∧ s12 = .pointer (some ⟨P1, 0, none⟩) ∧ s13 = .bool (rnOk r s l) ∧ Hid (Below W7.heap.size W7 wx) ∧ Hid (wx.ownsRow W7.heap.size 3 1 (.slice u0 (rnL r s l).length c0) (rnL r s l).length (intVs (rnL r s l))) ∧ Hid (W7.heap.size ≤ P1 ∧ wx.heap[P1]? = some (.cells #[.int .i64 (rnS r s l).l, .int .i64 (rnS r s l).c] 27)))
      case first =>
        as_aux_lemma =>
        go_region_held3 (fun w' => Below W7.heap.size W7 w' ∧ w'.cell? ⟨w.heap.size, 0, none⟩ = some (.int .i64 r.a) ∧ w'.cell? ⟨w.heap.size, 1, none⟩ = some (.int .i64 r.b) ∧ w'.cell? ⟨w.heap.size, 2, none⟩ = some (.int .i64 r.c) ∧ w'.cell? ⟨w.heap.size, 3, none⟩ = some (.int .i64 r.d) ∧ w'.cell? ⟨w.heap.size + 1, 0, none⟩ = some (.int .i64 s.l) ∧ w'.cell? ⟨w.heap.size + 1, 1, none⟩ = some (.int .i64 s.c)) (exact HKS.out _ (by (repeat (first | exact B11T | exact B10T | exact B9T | exact Below.refl _ _ | refine Below.drew ?_ | refine below_drewN ?_ _ | refine below_al ?_ _ | refine below_all2 ?_ (by first | exact Nat.le_refl _ | exact B9T.size | exact B10T.size | exact B11T.size | fail) _ _)); first | done | fail))
          (first
            | (go_at_call 46; (with_reducible (show Calls _ _ #[.agg #[.int .i64 r.a, .int .i64 r.b, .int .i64 r.c, .int .i64 r.d]] _ _)); refine (toWindRule_any r _).mono ?_; rintro e W9 ⟨rfl, b9⟩; have B9T : Below W7.heap.size W7 W9 := bel_then (by (repeat (first | exact Below.refl _ _ | refine Below.drew ?_ | refine below_drewN ?_ _ | refine below_al ?_ _)); first | done | fail) b9)
            | (go_at_call 47; (with_reducible (show Calls _ _ #[.agg #[.int .i64 s.l, .int .i64 s.c]] _ _)); refine (toWindState_any s _).mono ?_; rintro e W10 ⟨rfl, b10⟩; have B10T : Below W7.heap.size W7 W10 := bel_then (by (repeat (first | exact B9T | exact Below.refl _ _ | refine Below.drew ?_ | refine below_drewN ?_ _ | refine below_al ?_ _)); first | done | fail) b10)
            | (go_at_call 16; refine (implRunWind_c r s vx l _ (HRW.out _ (by (repeat (first | exact B10T | exact B9T | exact Below.refl _ _ | refine Below.drew ?_ | refine below_drewN ?_ _ | refine below_al ?_ _)); first | done | fail)) hl2).mono ?_; rintro e W11 ⟨vg0, rfl, mg0, b11⟩; have B11T : Below W7.heap.size W7 W11 := bel_then (by (repeat (first | exact B10T | exact B9T | exact Below.refl _ _ | refine Below.drew ?_ | refine below_drewN ?_ _ | refine below_al ?_ _)); first | done | fail) b11; have M0 : W11.ownsRow W7.heap.size 3 1 vg0 (rnL r s l).length (intVs (rnL r s l)) := own_mono mg0 (Below.size (B := W7.heap.size) (by exact (by (repeat (first | exact B10T | exact B9T | exact Below.refl _ _ | refine Below.drew ?_ | refine below_drewN ?_ _ | refine below_al ?_ _)); first | done | fail))); first | (have KB : W11.heap[W7.heap.size]? = some (.cells #[.int .i64 0, .int .i64 0] 27) := (by (repeat (first | exact new_at _ _ _ (by first | rfl | (simp; done) | fail) | refine blk_stay ?_ | refine blk_kept ?_ b11 | refine blk_kept ?_ b10 | refine blk_kept ?_ b9)); first | done | fail); obtain ⟨p0, p1⟩ := blk_cell2 KB; obtain ⟨m0, m1⟩ := blk_froz2 KB; have hltB := blk_lt KB) | (have KB : W11.heap[W9.heap.size]? = some (.cells #[.int .i64 0, .int .i64 0] 27) := (by (repeat (first | exact new_at _ _ _ (by first | rfl | (simp; done) | fail) | refine blk_stay ?_ | refine blk_kept ?_ b11 | refine blk_kept ?_ b10 | refine blk_kept ?_ b9)); first | done | fail); obtain ⟨p0, p1⟩ := blk_cell2 KB; obtain ⟨m0, m1⟩ := blk_froz2 KB; have hltB := blk_lt KB) | (have KB : W11.heap[W10.heap.size]? = some (.cells #[.int .i64 0, .int .i64 0] 27) := (by (repeat (first | exact new_at _ _ _ (by first | rfl | (simp; done) | fail) | refine blk_stay ?_ | refine blk_kept ?_ b11 | refine blk_kept ?_ b10 | refine blk_kept ?_ b9)); first | done | fail); obtain ⟨p0, p1⟩ := blk_cell2 KB; obtain ⟨m0, m1⟩ := blk_froz2 KB; have hltB := blk_lt KB) | skip)
            | fail)
        all_goals (try go_wp2_with fail)
        all_goals go_meet
        all_goals (case rel => have Z9 := B9T.size; have Z10 := B10T.size; have Z11 := B11T.size; obtain ⟨qa0, qc0, rfl⟩ := (Rs.of_own M0).shape; exact ⟨_, _, _, rfl, rfl, rfl, Lib.hid (by (repeat (first | exact B11T | exact B10T | exact B9T | exact Below.refl _ _ | refine Below.drew ?_ | refine below_drewN ?_ _ | refine below_al ?_ _ | refine below_all2 ?_ (by first | exact Nat.le_refl _ | exact B9T.size | exact B10T.size | exact B11T.size | fail) _ _)); first | done | fail), Lib.hid (by first | exact M0 | exact M0.drew | exact M0.alloc _ | exact own_by M0 (grown_all2 _ _ _ _) (own_ne M0 KB (by decide)) | fail), Lib.hid ⟨(by first | exact Nat.le_refl _ | omega), (by first | exact blk_new2 _ _ _ _ | exact blk_all2 KB | fail)⟩⟩)
      case rest =>
        obtain ⟨ag0, cg0, Pg, rfl, rfl, rfl, hcut, HK0, HK1⟩ := hcut
        obtain ⟨Y12, hY12⟩ := named12 hcut
        subst hY12
        have b12 := hcut.out
        have og0 := HK0.out
        have Kg := Lib.hid HK1.out.2
        clear hcut HKS HK0 HK1
        have ow0 := owns_below ow0 b12
        have ox := owns_below ox b12
        have Kw := Lib.hid (blk_kept Kw.out b12)
        have t13 := t8.trans (b12.mono t8.size)
        have z13 := b12.size
        have lg0 := betw_of og0
        go_wp2_with fail
        refine (eqIntS_c (.slice ag0 (rnL r s l).length cg0) (.slice aw0 (rnL r s l).length cw0) (rnL r s l) _ (Rd.of_own og0) (Rd.of_own ow0)).mono ?_
        rintro e W14 ⟨rfl, b14⟩
        have ow0 := owns_below ow0 b14
        have ox := owns_below ox b14
        have og0 := owns_below og0 b14
        have Kw := Lib.hid (blk_kept Kw.out b14)
        have Kg := Lib.hid (blk_kept Kg.out b14)
        have t15 := t13.trans (b14.mono t13.size)
        have z15 := b14.size
        obtain ⟨yg_0, yg_1⟩ := blk_cell2 Kg.out
        obtain ⟨yw_0, yw_1⟩ := blk_cell2 Kw.out
        go_wp2_with fail
        refine (eqWindState_same (rnS r s l) _).mono ?_
        rintro e W16 ⟨rfl, b16⟩
        clear yg_0 yg_1
        clear yw_0 yw_1
        have ow0 := owns_below ow0 b16
        have ox := owns_below ox b16
        have og0 := owns_below og0 b16
        have Kw := Lib.hid (blk_kept Kw.out b16)
        have Kg := Lib.hid (blk_kept Kg.out b16)
        have t17 := t15.trans (b16.mono t15.size)
        have z17 := b16.size
        go_wp2_with fail
        refine (toIntS_any _ l _ (HR2.out.below t17 rfl) hl2).mono ?_
        rintro e W18 ⟨vy, rfl, ny, b18⟩
        have ow0 := owns_below ow0 b18
        have ox := owns_below ox b18
        have og0 := owns_below og0 b18
        have Kw := Lib.hid (blk_kept Kw.out b18)
        have Kg := Lib.hid (blk_kept Kg.out b18)
        have t19 := t17.trans (b18.mono t17.size)
        have z19 := b18.size
        have oy := ny
        have ly := betw_of oy
        go_wp2_with fail
        refine (eqIntS_c vx vy l _ (Rd.of_own ox) (Rd.of_own oy)).mono ?_
        rintro e W20 ⟨rfl, b20⟩
        have ow0 := owns_below ow0 b20
        have ox := owns_below ox b20
        have og0 := owns_below og0 b20
        have oy := owns_below oy b20
        have Kw := Lib.hid (blk_kept Kw.out b20)
        have Kg := Lib.hid (blk_kept Kg.out b20)
        have t21 := t19.trans (b20.mono t19.size)
        have z21 := b20.size
        go_wp2_with fail
        refine (markIntS_any _ (1) (l.length) vx _ _ (by omega) (by omega) (by have := t21.size; omega) ox).mono ?_
        rintro e W22 ⟨rfl, px, g22⟩
        have ow0 := ow0.kept g22 (apart lw0 lx (by omega))
        have og0 := og0.kept g22 (apart lg0 lx (by omega))
        have Kw := Lib.hid ((g22.block _ (blk_lt Kw.out) (fun e => own_ne ox Kw.out (by decide) e.symm)).trans Kw.out)
        have Kg := Lib.hid ((g22.block _ (blk_lt Kg.out) (fun e => own_ne ox Kg.out (by decide) e.symm)).trans Kg.out)
        have t23 := t21.trans (below_mark g22 lx (by first | exact Nat.le_refl _ | (have := t21.size; omega) | omega) t21.size)
        have z23 := g22.size
        have ox := px
        go_wp2_with fail
        refine (eqIntS_c (.slice ag0 (rnL r s l).length cg0) (.slice aw0 (rnL r s l).length cw0) (rnL r s l) _ (Rd.of_own og0) (Rd.of_own ow0)).mono ?_
        rintro e W24 ⟨rfl, b24⟩
        have ow0 := owns_below ow0 b24
        have og0 := owns_below og0 b24
        have Kw := Lib.hid (blk_kept Kw.out b24)
        have Kg := Lib.hid (blk_kept Kg.out b24)
        have t25 := t23.trans (b24.mono t23.size)
        have z25 := b24.size
        obtain ⟨yg_0, yg_1⟩ := blk_cell2 Kg.out
        obtain ⟨yw_0, yw_1⟩ := blk_cell2 Kw.out
        go_wp2_with fail
        refine (eqWindState_same (rnS r s l) _).mono ?_
        rintro e W26 ⟨rfl, b26⟩
        clear yg_0 yg_1
        clear yw_0 yw_1
        have ow0 := owns_below ow0 b26
        have og0 := owns_below og0 b26
        have Kw := Lib.hid (blk_kept Kw.out b26)
        have Kg := Lib.hid (blk_kept Kg.out b26)
        have t27 := t25.trans (b26.mono t25.size)
        have z27 := b26.size
        go_wp2_with fail
        refine (markIntS_any _ (1) ((rnL r s l).length) (.slice ag0 (rnL r s l).length cg0) _ _ (by omega) (by omega) (by have := t27.size; omega) og0).mono ?_
        rintro e W28 ⟨rfl, pg0, g28⟩
        have ow0 := ow0.kept g28 (apart lw0 lg0 (by omega))
        have Kw := Lib.hid ((g28.block _ (blk_lt Kw.out) (fun e => own_ne og0 Kw.out (by decide) e.symm)).trans Kw.out)
        have Kg := Lib.hid ((g28.block _ (blk_lt Kg.out) (fun e => own_ne og0 Kg.out (by decide) e.symm)).trans Kg.out)
        have t29 := t27.trans (below_mark g28 lg0 (by first | exact Nat.le_refl _ | (have := t27.size; omega) | omega) t27.size)
        have z29 := g28.size
        have og0 := pg0
        go_wp2_with fail
        refine (heldIntS_c 1 ((rnL r s l).length) (.slice ag0 (rnL r s l).length cg0) _ (by omega) (by omega) (Rd.of_own og0)).mono ?_
        rintro e W30 ⟨rfl, b30⟩
        have ow0 := owns_below ow0 b30
        have og0 := owns_below og0 b30
        have Kw := Lib.hid (blk_kept Kw.out b30)
        have Kg := Lib.hid (blk_kept Kg.out b30)
        have t31 := t29.trans (b30.mono t29.size)
        have z31 := b30.size
        go_wp2_with fail
        have HKS : Hid (∀ W, Below W30.heap.size W30 W → Below W30.heap.size W30 W ∧ W.cell? ⟨w.heap.size, 0, none⟩ = some (.int .i64 r.a) ∧ W.cell? ⟨w.heap.size, 1, none⟩ = some (.int .i64 r.b) ∧ W.cell? ⟨w.heap.size, 2, none⟩ = some (.int .i64 r.c) ∧ W.cell? ⟨w.heap.size, 3, none⟩ = some (.int .i64 r.d) ∧ W.cell? ⟨w.heap.size + 1, 0, none⟩ = some (.int .i64 s.l) ∧ W.cell? ⟨w.heap.size + 1, 1, none⟩ = some (.int .i64 s.c)) := Lib.hid (fun W hW => by
          have hW0 := t31.trans (hW.mono t31.size)
          obtain ⟨z0_0, z0_1, z0_2, z0_3⟩ := HX0.out W (by rw [← HS0.out]; exact hW0)
          obtain ⟨z1_0, z1_1⟩ := HX1.out W (by rw [← HS0.out]; exact hW0)
          exact ⟨hW, z0_0, z0_1, z0_2, z0_3, z1_0, z1_1⟩)
        have HRD2 := Lib.hid (fun W (hW : Below W30.heap.size W30 W) => HR2.out.below (t31.trans (hW.mono t31.size)) rfl)
        go_cut [17, 18, 19] from 99 to 109 (fun s17 s18 s19 wx => ∃ (u0 : Option Addr) (c0 : Nat) (P1 : Nat), s17 = .slice u0 (rnL r s l).length c0 ∧ s18 = .pointer (some ⟨P1, 0, none⟩) ∧ s19 = .bool (rnOk r s l) ∧ Hid (Below W30.heap.size W30 wx) ∧ Hid (wx.ownsRow W30.heap.size 3 1 (.slice u0 (rnL r s l).length c0) (rnL r s l).length (intVs (rnL r s l))) ∧ Hid (W30.heap.size ≤ P1 ∧ wx.heap[P1]? = some (.cells #[.int .i64 (rnS r s l).l, .int .i64 (rnS r s l).c] 27)))
        case first =>
          as_aux_lemma =>
          go_region_held3 (fun w' => Below W30.heap.size W30 w' ∧ w'.cell? ⟨w.heap.size, 0, none⟩ = some (.int .i64 r.a) ∧ w'.cell? ⟨w.heap.size, 1, none⟩ = some (.int .i64 r.b) ∧ w'.cell? ⟨w.heap.size, 2, none⟩ = some (.int .i64 r.c) ∧ w'.cell? ⟨w.heap.size, 3, none⟩ = some (.int .i64 r.d) ∧ w'.cell? ⟨w.heap.size + 1, 0, none⟩ = some (.int .i64 s.l) ∧ w'.cell? ⟨w.heap.size + 1, 1, none⟩ = some (.int .i64 s.c)) (exact HKS.out _ (by (repeat (first | exact B35T | exact B34T | exact B33T | exact B32T | exact Below.refl _ _ | refine Below.drew ?_ | refine below_drewN ?_ _ | refine below_al ?_ _ | refine below_all2 ?_ (by first | exact Nat.le_refl _ | exact B32T.size | exact B33T.size | exact B34T.size | exact B35T.size | fail) _ _)); first | done | fail))
            (first
              | (go_at_call 46; (with_reducible (show Calls _ _ #[.agg #[.int .i64 r.a, .int .i64 r.b, .int .i64 r.c, .int .i64 r.d]] _ _)); refine (toWindRule_any r _).mono ?_; rintro e W32 ⟨rfl, b32⟩; have B32T : Below W30.heap.size W30 W32 := bel_then (by (repeat (first | exact Below.refl _ _ | refine Below.drew ?_ | refine below_drewN ?_ _ | refine below_al ?_ _)); first | done | fail) b32)
              | (go_at_call 47; (with_reducible (show Calls _ _ #[.agg #[.int .i64 s.l, .int .i64 s.c]] _ _)); refine (toWindState_any s _).mono ?_; rintro e W33 ⟨rfl, b33⟩; have B33T : Below W30.heap.size W30 W33 := bel_then (by (repeat (first | exact B32T | exact Below.refl _ _ | refine Below.drew ?_ | refine below_drewN ?_ _ | refine below_al ?_ _)); first | done | fail) b33)
              | (go_at_call 44; refine (toIntS_any _ l _ (HRD2.out _ (by (repeat (first | exact B33T | exact B32T | exact Below.refl _ _ | refine Below.drew ?_ | refine below_drewN ?_ _ | refine below_al ?_ _)); first | done | fail)) hl2).mono ?_; rintro e W34 ⟨vh2, rfl, nh2, b34⟩; have B34T : Below W30.heap.size W30 W34 := bel_then (by (repeat (first | exact B33T | exact B32T | exact Below.refl _ _ | refine Below.drew ?_ | refine below_drewN ?_ _ | refine below_al ?_ _)); first | done | fail) b34)
              | (go_at_call 16; refine (implRunWind_c r s vh2 l _ (Rd.of_own (by first | exact nh2 | (exact owns_below nh2 (by (repeat (first | assumption | exact Below.refl _ _ | refine below_al ?_ _ | refine Below.drew ?_ | refine below_drewN ?_ _)); first | done | fail)) | fail)) hl2).mono ?_; rintro e W35 ⟨vh0, rfl, mh0, b35⟩; have B35T : Below W30.heap.size W30 W35 := bel_then (by (repeat (first | exact B34T | exact B33T | exact B32T | exact Below.refl _ _ | refine Below.drew ?_ | refine below_drewN ?_ _ | refine below_al ?_ _)); first | done | fail) b35; have M0 : W35.ownsRow W30.heap.size 3 1 vh0 (rnL r s l).length (intVs (rnL r s l)) := own_mono mh0 (Below.size (B := W30.heap.size) (by exact (by (repeat (first | exact B34T | exact B33T | exact B32T | exact Below.refl _ _ | refine Below.drew ?_ | refine below_drewN ?_ _ | refine below_al ?_ _)); first | done | fail))); first | (have KB : W35.heap[W30.heap.size]? = some (.cells #[.int .i64 0, .int .i64 0] 27) := (by (repeat (first | exact new_at _ _ _ (by first | rfl | (simp; done) | fail) | refine blk_stay ?_ | refine blk_kept ?_ b35 | refine blk_kept ?_ b34 | refine blk_kept ?_ b33 | refine blk_kept ?_ b32)); first | done | fail); obtain ⟨p0, p1⟩ := blk_cell2 KB; obtain ⟨m0, m1⟩ := blk_froz2 KB; have hltB := blk_lt KB) | (have KB : W35.heap[W32.heap.size]? = some (.cells #[.int .i64 0, .int .i64 0] 27) := (by (repeat (first | exact new_at _ _ _ (by first | rfl | (simp; done) | fail) | refine blk_stay ?_ | refine blk_kept ?_ b35 | refine blk_kept ?_ b34 | refine blk_kept ?_ b33 | refine blk_kept ?_ b32)); first | done | fail); obtain ⟨p0, p1⟩ := blk_cell2 KB; obtain ⟨m0, m1⟩ := blk_froz2 KB; have hltB := blk_lt KB) | (have KB : W35.heap[W33.heap.size]? = some (.cells #[.int .i64 0, .int .i64 0] 27) := (by (repeat (first | exact new_at _ _ _ (by first | rfl | (simp; done) | fail) | refine blk_stay ?_ | refine blk_kept ?_ b35 | refine blk_kept ?_ b34 | refine blk_kept ?_ b33 | refine blk_kept ?_ b32)); first | done | fail); obtain ⟨p0, p1⟩ := blk_cell2 KB; obtain ⟨m0, m1⟩ := blk_froz2 KB; have hltB := blk_lt KB) | (have KB : W35.heap[W34.heap.size]? = some (.cells #[.int .i64 0, .int .i64 0] 27) := (by (repeat (first | exact new_at _ _ _ (by first | rfl | (simp; done) | fail) | refine blk_stay ?_ | refine blk_kept ?_ b35 | refine blk_kept ?_ b34 | refine blk_kept ?_ b33 | refine blk_kept ?_ b32)); first | done | fail); obtain ⟨p0, p1⟩ := blk_cell2 KB; obtain ⟨m0, m1⟩ := blk_froz2 KB; have hltB := blk_lt KB) | skip)
              | fail)
          all_goals (try go_wp2_with fail)
          all_goals go_meet
          all_goals (case rel => have Z32 := B32T.size; have Z33 := B33T.size; have Z34 := B34T.size; have Z35 := B35T.size; obtain ⟨qa0, qc0, rfl⟩ := (Rs.of_own M0).shape; exact ⟨_, _, _, rfl, rfl, rfl, Lib.hid (by (repeat (first | exact B35T | exact B34T | exact B33T | exact B32T | exact Below.refl _ _ | refine Below.drew ?_ | refine below_drewN ?_ _ | refine below_al ?_ _ | refine below_all2 ?_ (by first | exact Nat.le_refl _ | exact B32T.size | exact B33T.size | exact B34T.size | exact B35T.size | fail) _ _)); first | done | fail), Lib.hid (by first | exact M0 | exact M0.drew | exact M0.alloc _ | exact own_by M0 (grown_all2 _ _ _ _) (own_ne M0 KB (by decide)) | fail), Lib.hid ⟨(by first | exact Nat.le_refl _ | omega), (by first | exact blk_new2 _ _ _ _ | exact blk_all2 KB | fail)⟩⟩)
        case rest =>
          obtain ⟨ah0, ch0, Ph, rfl, rfl, rfl, hcut, HK0, HK1⟩ := hcut
          obtain ⟨Y36, hY36⟩ := named12 hcut
          subst hY36
          have b36 := hcut.out
          have oh0 := HK0.out
          have Kh := Lib.hid HK1.out.2
          clear hcut HKS HK0 HK1
          have ow0 := owns_below ow0 b36
          have og0 := owns_below og0 b36
          have Kw := Lib.hid (blk_kept Kw.out b36)
          have Kg := Lib.hid (blk_kept Kg.out b36)
          have t37 := t31.trans (b36.mono t31.size)
          have z37 := b36.size
          have lh0 := betw_of oh0
          go_wp2_with fail
          refine (eqIntS_c (.slice ah0 (rnL r s l).length ch0) (.slice aw0 (rnL r s l).length cw0) (rnL r s l) _ (Rd.of_own oh0) (Rd.of_own ow0)).mono ?_
          rintro e W38 ⟨rfl, b38⟩
          have ow0 := owns_below ow0 b38
          have og0 := owns_below og0 b38
          have oh0 := owns_below oh0 b38
          have Kw := Lib.hid (blk_kept Kw.out b38)
          have Kg := Lib.hid (blk_kept Kg.out b38)
          have Kh := Lib.hid (blk_kept Kh.out b38)
          have t39 := t37.trans (b38.mono t37.size)
          have z39 := b38.size
          obtain ⟨yh_0, yh_1⟩ := blk_cell2 Kh.out
          obtain ⟨yw_0, yw_1⟩ := blk_cell2 Kw.out
          go_wp2_with fail
          refine (eqWindState_same (rnS r s l) _).mono ?_
          rintro e W40 ⟨rfl, b40⟩
          clear yh_0 yh_1
          clear yw_0 yw_1
          have ow0 := owns_below ow0 b40
          have og0 := owns_below og0 b40
          have oh0 := owns_below oh0 b40
          have Kw := Lib.hid (blk_kept Kw.out b40)
          have Kg := Lib.hid (blk_kept Kg.out b40)
          have Kh := Lib.hid (blk_kept Kh.out b40)
          have t41 := t39.trans (b40.mono t39.size)
          have z41 := b40.size
          go_wp2_with fail
          refine (heldIntS_c 1 ((rnL r s l).length) (.slice ag0 (rnL r s l).length cg0) _ (by omega) (by omega) (Rd.of_own og0)).mono ?_
          rintro e W42 ⟨rfl, b42⟩
          have ow0 := owns_below ow0 b42
          have og0 := owns_below og0 b42
          have oh0 := owns_below oh0 b42
          have Kw := Lib.hid (blk_kept Kw.out b42)
          have Kg := Lib.hid (blk_kept Kg.out b42)
          have Kh := Lib.hid (blk_kept Kh.out b42)
          have t43 := t41.trans (b42.mono t41.size)
          have z43 := b42.size
          go_wp2_with fail
          go_ret
          exact ⟨rfl, HT0.out.trans (t43.mono (by have := HS0.out; omega))⟩
  · have hg : (1048576 : Int) < (l.length : Int) := by omega
    go_enter Try.func8, Try.ntmps8
    go_wp2
    go_ret
    exact ⟨rfl, (((Below.refl _ _).alloc (by simp) _).alloc (by simp) _)⟩
end Go.Proofs.Ytoamhbobcpljpaa
