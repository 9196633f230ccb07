/- The law FnExactCompareRules's walk. Condition: sizes. -/
import Derived.Test.YtoamhbobcpljpaaWndV
import Derived.Test.YtoamhbobcpljpaaLawR
import Derived.Test.YtoamhbobcpljpaaIntC
import Derived.Test.YtoamhbobcpljpaaToInt
namespace Go.Proofs.Ytoamhbobcpljpaa
open Go.RowKit
set_option linter.unusedVariables false
set_option maxRecDepth 100000 in
set_option maxHeartbeats 4000000 in
theorem FnExactCompareRules_walk (r : Wru) (s : Wru) (v2 : Value) (l : List Int) (w : World) (hw0 : r.wf) (hw1 : s.wf) (hr2 : Rd w v2 (intVs l)) (hn2 : l.length ≤ maxLen) :
    Calls Try.prog 13 #[.agg #[.int .i64 r.a, .int .i64 r.b, .int .i64 r.c, .int .i64 r.d], .agg #[.int .i64 s.a, .int .i64 s.b, .int .i64 s.c, .int .i64 s.d], v2] w fun e w' => e = .returned (.bool true) ∧ Below w.heap.size w w' := by
  have hsh2 : ∃ a c, v2 = .slice a l.length c := by rcases hr2 with ⟨h0, a, c, rfl⟩ | ⟨b, off, c, rfl, _⟩ <;> simp_all [intVs]
  obtain ⟨as2, cs2, rfl⟩ := hsh2
  have HR2 := Lib.hid hr2
  clear hr2
  have hm2 := hn2
  unfold maxLen at hm2
  by_cases hq : l.length ≤ 1048576
  · have hl2 : l.length ≤ 1048576 := hq
    have hg : ¬ ((1048576 : Int) < (l.length : Int)) := by omega
    have HX0 : Hid (∀ W, Below (w.heap.size + 2) ((w.alloc (.cells #[.int .i64 r.a, .int .i64 r.b, .int .i64 r.c, .int .i64 r.d] 60)).alloc (.cells #[.int .i64 s.a, .int .i64 s.b, .int .i64 s.c, .int .i64 s.d] 60)) W → W.cell? ⟨w.heap.size, 0, none⟩ = some (.int .i64 r.a) ∧ W.cell? ⟨w.heap.size, 1, none⟩ = some (.int .i64 r.b) ∧ W.cell? ⟨w.heap.size, 2, none⟩ = some (.int .i64 r.c) ∧ W.cell? ⟨w.heap.size, 3, none⟩ = some (.int .i64 r.d)) := Lib.hid (fun W h => box_Wru w r _ _ (by simp) W (((Below.refl _ _).alloc (by simp) _).trans (h.mono (by simp))))
    have HX1 : Hid (∀ W, Below (w.heap.size + 2) ((w.alloc (.cells #[.int .i64 r.a, .int .i64 r.b, .int .i64 r.c, .int .i64 r.d] 60)).alloc (.cells #[.int .i64 s.a, .int .i64 s.b, .int .i64 s.c, .int .i64 s.d] 60)) W → W.cell? ⟨w.heap.size + 1, 0, none⟩ = some (.int .i64 s.a) ∧ W.cell? ⟨w.heap.size + 1, 1, none⟩ = some (.int .i64 s.b) ∧ W.cell? ⟨w.heap.size + 1, 2, none⟩ = some (.int .i64 s.c) ∧ W.cell? ⟨w.heap.size + 1, 3, none⟩ = some (.int .i64 s.d)) := Lib.hid (fun W h => box_Wru (w.alloc (.cells #[.int .i64 r.a, .int .i64 r.b, .int .i64 r.c, .int .i64 r.d] 60)) s _ _ (by simp) W h)
    have HT0 : Hid (Below w.heap.size w ((w.alloc (.cells #[.int .i64 r.a, .int .i64 r.b, .int .i64 r.c, .int .i64 r.d] 60)).alloc (.cells #[.int .i64 s.a, .int .i64 s.b, .int .i64 s.c, .int .i64 s.d] 60))) := Lib.hid (((Below.refl _ _).alloc (by simp) _).alloc (by simp) _)
    have HS0 : Hid (((w.alloc (.cells #[.int .i64 r.a, .int .i64 r.b, .int .i64 r.c, .int .i64 r.d] 60)).alloc (.cells #[.int .i64 s.a, .int .i64 s.b, .int .i64 s.c, .int .i64 s.d] 60)).heap.size = w.heap.size + 2) := Lib.hid (by simp)
    go_enter Try.func13, Try.ntmps13
    go_wp2_with fail
    generalize (w.alloc (.cells #[.int .i64 r.a, .int .i64 r.b, .int .i64 r.c, .int .i64 r.d] 60)).alloc (.cells #[.int .i64 s.a, .int .i64 s.b, .int .i64 s.c, .int .i64 s.d] 60) = W0 at *
    have HR2 := Lib.hid (HR2.out.below HT0.out rfl)
    have t0 := Below.refl W0.heap.size W0
    go_wp2_with fail
    have HKS : Hid (∀ W, Below W0.heap.size W0 W → Below W0.heap.size W0 W ∧ W.cell? ⟨w.heap.size, 0, none⟩ = some (.int .i64 r.a) ∧ W.cell? ⟨w.heap.size, 1, none⟩ = some (.int .i64 r.b) ∧ W.cell? ⟨w.heap.size, 2, none⟩ = some (.int .i64 r.c) ∧ W.cell? ⟨w.heap.size, 3, none⟩ = some (.int .i64 r.d) ∧ W.cell? ⟨w.heap.size + 1, 0, none⟩ = some (.int .i64 s.a) ∧ W.cell? ⟨w.heap.size + 1, 1, none⟩ = some (.int .i64 s.b) ∧ W.cell? ⟨w.heap.size + 1, 2, none⟩ = some (.int .i64 s.c) ∧ W.cell? ⟨w.heap.size + 1, 3, none⟩ = some (.int .i64 s.d)) := Lib.hid (fun W hW => by
      have hW0 := t0.trans (hW.mono t0.size)
      obtain ⟨z0_0, z0_1, z0_2, z0_3⟩ := HX0.out W (by rw [← HS0.out]; exact hW0)
      obtain ⟨z1_0, z1_1, z1_2, z1_3⟩ := HX1.out W (by rw [← HS0.out]; exact hW0)
      exact ⟨hW, z0_0, z0_1, z0_2, z0_3, z1_0, z1_1, z1_2, z1_3⟩)
    have HRD2 := Lib.hid (fun W (hW : Below W0.heap.size W0 W) => HR2.out.below (t0.trans (hW.mono t0.size)) rfl)
    go_region_held3 (fun w' => Below W0.heap.size W0 w' ∧ w'.cell? ⟨w.heap.size, 0, none⟩ = some (.int .i64 r.a) ∧ w'.cell? ⟨w.heap.size, 1, none⟩ = some (.int .i64 r.b) ∧ w'.cell? ⟨w.heap.size, 2, none⟩ = some (.int .i64 r.c) ∧ w'.cell? ⟨w.heap.size, 3, none⟩ = some (.int .i64 r.d) ∧ w'.cell? ⟨w.heap.size + 1, 0, none⟩ = some (.int .i64 s.a) ∧ w'.cell? ⟨w.heap.size + 1, 1, none⟩ = some (.int .i64 s.b) ∧ w'.cell? ⟨w.heap.size + 1, 2, none⟩ = some (.int .i64 s.c) ∧ w'.cell? ⟨w.heap.size + 1, 3, none⟩ = some (.int .i64 s.d)) (exact HKS.out _ (by (repeat (first | exact B4T | exact B3T | exact B2T | exact B1T | exact Below.refl _ _ | refine Below.drew ?_ | refine below_drewN ?_ _ | refine below_al ?_ _ | refine below_all2 ?_ (by first | exact Nat.le_refl _ | exact B1T.size | exact B2T.size | exact B3T.size | exact B4T.size | fail) _ _)); first | done | fail))
      (first
        | (go_at_call 46; (with_reducible (show Calls _ _ #[.agg #[.int .i64 r.a, .int .i64 r.b, .int .i64 r.c, .int .i64 r.d]] _ _)); refine (toWindRule_any r _).mono ?_; rintro e W1 ⟨rfl, b1⟩; have B1T : Below W0.heap.size W0 W1 := bel_then (by (repeat (first | exact Below.refl _ _ | refine Below.drew ?_ | refine below_drewN ?_ _ | refine below_al ?_ _)); first | done | fail) b1)
        | (go_at_call 46; (with_reducible (show Calls _ _ #[.agg #[.int .i64 s.a, .int .i64 s.b, .int .i64 s.c, .int .i64 s.d]] _ _)); refine (toWindRule_any s _).mono ?_; rintro e W2 ⟨rfl, b2⟩; have B2T : Below W0.heap.size W0 W2 := bel_then (by (repeat (first | exact B1T | exact Below.refl _ _ | refine Below.drew ?_ | refine below_drewN ?_ _ | refine below_al ?_ _)); first | done | fail) b2)
        | (go_at_call 44; refine (toIntS_any _ l _ (HRD2.out _ (by (repeat (first | exact B2T | exact B1T | exact Below.refl _ _ | refine Below.drew ?_ | refine below_drewN ?_ _ | refine below_al ?_ _)); first | done | fail)) hl2).mono ?_; rintro e W3 ⟨vw2, rfl, nw2, b3⟩; have B3T : Below W0.heap.size W0 W3 := bel_then (by (repeat (first | exact B2T | exact B1T | exact Below.refl _ _ | refine Below.drew ?_ | refine below_drewN ?_ _ | refine below_al ?_ _)); first | done | fail) b3)
        | (go_at_call 41; refine (specCompareRules_c r s vw2 l _ (Rd.of_own (by first | exact nw2 | (exact owns_below nw2 (by (repeat (first | assumption | refine below_al ?_ _ | refine Below.drew ?_ | refine below_drewN ?_ _)); first | done | fail)) | fail)) hl2).mono ?_; rintro e W4 ⟨rfl, b4⟩; have B4T : Below W0.heap.size W0 W4 := bel_then (by (repeat (first | exact B3T | exact B2T | exact B1T | exact Below.refl _ _ | refine Below.drew ?_ | refine below_drewN ?_ _ | refine below_al ?_ _)); first | done | fail) b4)
        | fail)
    have T4 : Below W0.heap.size W0 W4 := by go_split_ands; assumption
    clear HKS
    have t5 := t0.trans (T4.mono t0.size)
    have z5 := T4.size
    go_wp2_with fail
    refine (toIntS_any _ l _ (HR2.out.below t5 rfl) hl2).mono ?_
    rintro e W6 ⟨vx, rfl, nx, b6⟩
    have t7 := t5.trans (b6.mono t5.size)
    have z7 := b6.size
    have ox := nx
    have lx := betw_of ox
    go_wp2_with fail
    have HKS : Hid (∀ W, Below W6.heap.size W6 W → Below W6.heap.size W6 W ∧ W.cell? ⟨w.heap.size, 0, none⟩ = some (.int .i64 r.a) ∧ W.cell? ⟨w.heap.size, 1, none⟩ = some (.int .i64 r.b) ∧ W.cell? ⟨w.heap.size, 2, none⟩ = some (.int .i64 r.c) ∧ W.cell? ⟨w.heap.size, 3, none⟩ = some (.int .i64 r.d) ∧ W.cell? ⟨w.heap.size + 1, 0, none⟩ = some (.int .i64 s.a) ∧ W.cell? ⟨w.heap.size + 1, 1, none⟩ = some (.int .i64 s.b) ∧ W.cell? ⟨w.heap.size + 1, 2, none⟩ = some (.int .i64 s.c) ∧ W.cell? ⟨w.heap.size + 1, 3, none⟩ = some (.int .i64 s.d)) := Lib.hid (fun W hW => by
      have hW0 := t7.trans (hW.mono t7.size)
      obtain ⟨z0_0, z0_1, z0_2, z0_3⟩ := HX0.out W (by rw [← HS0.out]; exact hW0)
      obtain ⟨z1_0, z1_1, z1_2, z1_3⟩ := HX1.out W (by rw [← HS0.out]; exact hW0)
      exact ⟨hW, z0_0, z0_1, z0_2, z0_3, z1_0, z1_1, z1_2, z1_3⟩)
    have HRW := Lib.hid (fun W (hW : Below W6.heap.size W6 W) => Rd.of_own (owns_below ox hW))
    go_region_held3 (fun w' => Below W6.heap.size W6 w' ∧ w'.cell? ⟨w.heap.size, 0, none⟩ = some (.int .i64 r.a) ∧ w'.cell? ⟨w.heap.size, 1, none⟩ = some (.int .i64 r.b) ∧ w'.cell? ⟨w.heap.size, 2, none⟩ = some (.int .i64 r.c) ∧ w'.cell? ⟨w.heap.size, 3, none⟩ = some (.int .i64 r.d) ∧ w'.cell? ⟨w.heap.size + 1, 0, none⟩ = some (.int .i64 s.a) ∧ w'.cell? ⟨w.heap.size + 1, 1, none⟩ = some (.int .i64 s.b) ∧ w'.cell? ⟨w.heap.size + 1, 2, none⟩ = some (.int .i64 s.c) ∧ w'.cell? ⟨w.heap.size + 1, 3, none⟩ = some (.int .i64 s.d)) (exact HKS.out _ (by (repeat (first | exact B10T | exact B9T | exact B8T | exact Below.refl _ _ | refine Below.drew ?_ | refine below_drewN ?_ _ | refine below_al ?_ _ | refine below_all2 ?_ (by first | exact Nat.le_refl _ | exact B8T.size | exact B9T.size | exact B10T.size | fail) _ _)); first | done | fail))
      (first
        | (go_at_call 46; (with_reducible (show Calls _ _ #[.agg #[.int .i64 r.a, .int .i64 r.b, .int .i64 r.c, .int .i64 r.d]] _ _)); refine (toWindRule_any r _).mono ?_; rintro e W8 ⟨rfl, b8⟩; have B8T : Below W6.heap.size W6 W8 := bel_then (by (repeat (first | exact Below.refl _ _ | refine Below.drew ?_ | refine below_drewN ?_ _ | refine below_al ?_ _)); first | done | fail) b8)
        | (go_at_call 46; (with_reducible (show Calls _ _ #[.agg #[.int .i64 s.a, .int .i64 s.b, .int .i64 s.c, .int .i64 s.d]] _ _)); refine (toWindRule_any s _).mono ?_; rintro e W9 ⟨rfl, b9⟩; have B9T : Below W6.heap.size W6 W9 := bel_then (by (repeat (first | exact B8T | exact Below.refl _ _ | refine Below.drew ?_ | refine below_drewN ?_ _ | refine below_al ?_ _)); first | done | fail) b9)
        | (go_at_call 40; refine (implCompareRules_c r s vx l _ (HRW.out _ (by (repeat (first | exact B9T | exact B8T | exact Below.refl _ _ | refine Below.drew ?_ | refine below_drewN ?_ _ | refine below_al ?_ _)); first | done | fail)) hl2).mono ?_; rintro e W10 ⟨rfl, b10⟩; have B10T : Below W6.heap.size W6 W10 := bel_then (by (repeat (first | exact B9T | exact B8T | exact Below.refl _ _ | refine Below.drew ?_ | refine below_drewN ?_ _ | refine below_al ?_ _)); first | done | fail) b10)
        | fail)
    have T10 : Below W6.heap.size W6 W10 := by go_split_ands; assumption
    clear HKS
    have ox := owns_below ox T10
    have t11 := t7.trans (T10.mono t7.size)
    have z11 := T10.size
    go_wp2_with fail
    refine (toIntS_any _ l _ (HR2.out.below t11 rfl) hl2).mono ?_
    rintro e W12 ⟨vy, rfl, ny, b12⟩
    have ox := owns_below ox b12
    have t13 := t11.trans (b12.mono t11.size)
    have z13 := b12.size
    have oy := ny
    have ly := betw_of oy
    go_wp2_with fail
    refine (eqIntS_c vx vy l _ (Rd.of_own ox) (Rd.of_own oy)).mono ?_
    rintro e W14 ⟨rfl, b14⟩
    have ox := owns_below ox b14
    have oy := owns_below oy b14
    have t15 := t13.trans (b14.mono t13.size)
    have z15 := b14.size
    go_wp2_with fail
    go_ret
    exact ⟨rfl, HT0.out.trans (t15.mono (by have := HS0.out; omega))⟩
  · have hg : (1048576 : Int) < (l.length : Int) := by omega
    go_enter Try.func13, Try.ntmps13
    go_wp2
    go_ret
    exact ⟨rfl, (((Below.refl _ _).alloc (by simp) _).alloc (by simp) _)⟩
end Go.Proofs.Ytoamhbobcpljpaa
