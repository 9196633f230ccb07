/- The law FnExactEarliestFree's walk. Condition: sizes. -/
import Derived.Test.YtoamhbobcpljpaaWndU
import Derived.Test.YtoamhbobcpljpaaLawR
namespace Go.Proofs.Ytoamhbobcpljpaa
open Go.RowKit
set_option linter.unusedVariables false
set_option maxRecDepth 100000 in
set_option maxHeartbeats 4000000 in
theorem FnExactEarliestFree_walk (r : Wru) (s : Wst) (w : World) (hw0 : r.wf) (hw1 : s.wf) :
    Calls Try.prog 11 #[.agg #[.int .i64 r.a, .int .i64 r.b, .int .i64 r.c, .int .i64 r.d], .agg #[.int .i64 s.l, .int .i64 s.c]] w fun e w' => e = .returned (.bool true) ∧ Below w.heap.size w w' := by
  have HX0 : Hid (∀ W, Below (w.heap.size + 2) ((w.alloc (.cells #[.int .i64 r.a, .int .i64 r.b, .int .i64 r.c, .int .i64 r.d] 60)).alloc (.cells #[.int .i64 s.l, .int .i64 s.c] 63)) W → W.cell? ⟨w.heap.size, 0, none⟩ = some (.int .i64 r.a) ∧ W.cell? ⟨w.heap.size, 1, none⟩ = some (.int .i64 r.b) ∧ W.cell? ⟨w.heap.size, 2, none⟩ = some (.int .i64 r.c) ∧ W.cell? ⟨w.heap.size, 3, none⟩ = some (.int .i64 r.d)) := Lib.hid (fun W h => box_Wru w r _ _ (by simp) W (((Below.refl _ _).alloc (by simp) _).trans (h.mono (by simp))))
  have HX1 : Hid (∀ W, Below (w.heap.size + 2) ((w.alloc (.cells #[.int .i64 r.a, .int .i64 r.b, .int .i64 r.c, .int .i64 r.d] 60)).alloc (.cells #[.int .i64 s.l, .int .i64 s.c] 63)) W → W.cell? ⟨w.heap.size + 1, 0, none⟩ = some (.int .i64 s.l) ∧ W.cell? ⟨w.heap.size + 1, 1, none⟩ = some (.int .i64 s.c)) := Lib.hid (fun W h => box_Wst (w.alloc (.cells #[.int .i64 r.a, .int .i64 r.b, .int .i64 r.c, .int .i64 r.d] 60)) s _ _ (by simp) W h)
  have HT0 : Hid (Below w.heap.size w ((w.alloc (.cells #[.int .i64 r.a, .int .i64 r.b, .int .i64 r.c, .int .i64 r.d] 60)).alloc (.cells #[.int .i64 s.l, .int .i64 s.c] 63))) := Lib.hid (((Below.refl _ _).alloc (by simp) _).alloc (by simp) _)
  have HS0 : Hid (((w.alloc (.cells #[.int .i64 r.a, .int .i64 r.b, .int .i64 r.c, .int .i64 r.d] 60)).alloc (.cells #[.int .i64 s.l, .int .i64 s.c] 63)).heap.size = w.heap.size + 2) := Lib.hid (by simp)
  go_enter Try.func11, Try.ntmps11
  go_wp2_with fail
  generalize (w.alloc (.cells #[.int .i64 r.a, .int .i64 r.b, .int .i64 r.c, .int .i64 r.d] 60)).alloc (.cells #[.int .i64 s.l, .int .i64 s.c] 63) = W0 at *
  have t0 := Below.refl W0.heap.size W0
  go_wp2_with fail
  have HKS : Hid (∀ W, Below W0.heap.size W0 W → Below W0.heap.size W0 W ∧ W.cell? ⟨w.heap.size, 0, none⟩ = some (.int .i64 r.a) ∧ W.cell? ⟨w.heap.size, 1, none⟩ = some (.int .i64 r.b) ∧ W.cell? ⟨w.heap.size, 2, none⟩ = some (.int .i64 r.c) ∧ W.cell? ⟨w.heap.size, 3, none⟩ = some (.int .i64 r.d) ∧ W.cell? ⟨w.heap.size + 1, 0, none⟩ = some (.int .i64 s.l) ∧ W.cell? ⟨w.heap.size + 1, 1, none⟩ = some (.int .i64 s.c)) := Lib.hid (fun W hW => by
    have hW0 := t0.trans (hW.mono t0.size)
    obtain ⟨z0_0, z0_1, z0_2, z0_3⟩ := HX0.out W (by rw [← HS0.out]; exact hW0)
    obtain ⟨z1_0, z1_1⟩ := HX1.out W (by rw [← HS0.out]; exact hW0)
    exact ⟨hW, z0_0, z0_1, z0_2, z0_3, z1_0, z1_1⟩)
  go_region_held3 (fun w' => Below W0.heap.size W0 w' ∧ w'.cell? ⟨w.heap.size, 0, none⟩ = some (.int .i64 r.a) ∧ w'.cell? ⟨w.heap.size, 1, none⟩ = some (.int .i64 r.b) ∧ w'.cell? ⟨w.heap.size, 2, none⟩ = some (.int .i64 r.c) ∧ w'.cell? ⟨w.heap.size, 3, none⟩ = some (.int .i64 r.d) ∧ w'.cell? ⟨w.heap.size + 1, 0, none⟩ = some (.int .i64 s.l) ∧ w'.cell? ⟨w.heap.size + 1, 1, none⟩ = some (.int .i64 s.c)) (exact HKS.out _ (by (repeat (first | exact B3T | exact B2T | exact B1T | exact Below.refl _ _ | refine Below.drew ?_ | refine below_drewN ?_ _ | refine below_al ?_ _ | refine below_all2 ?_ (by first | exact Nat.le_refl _ | exact B1T.size | exact B2T.size | exact B3T.size | fail) _ _)); first | done | fail))
    (first
      | (go_at_call 46; (with_reducible (show Calls _ _ #[.agg #[.int .i64 r.a, .int .i64 r.b, .int .i64 r.c, .int .i64 r.d]] _ _)); refine (toWindRule_any r _).mono ?_; rintro e W1 ⟨rfl, b1⟩; have B1T : Below W0.heap.size W0 W1 := bel_then (by (repeat (first | exact Below.refl _ _ | refine Below.drew ?_ | refine below_drewN ?_ _ | refine below_al ?_ _)); first | done | fail) b1)
      | (go_at_call 47; (with_reducible (show Calls _ _ #[.agg #[.int .i64 s.l, .int .i64 s.c]] _ _)); refine (toWindState_any s _).mono ?_; rintro e W2 ⟨rfl, b2⟩; have B2T : Below W0.heap.size W0 W2 := bel_then (by (repeat (first | exact B1T | exact Below.refl _ _ | refine Below.drew ?_ | refine below_drewN ?_ _ | refine below_al ?_ _)); first | done | fail) b2)
      | (go_at_call 27; refine (specEarliestFree_c r s _ ).mono ?_; rintro e W3 ⟨rfl, b3⟩; have B3T : Below W0.heap.size W0 W3 := bel_then (by (repeat (first | exact B2T | exact B1T | exact Below.refl _ _ | refine Below.drew ?_ | refine below_drewN ?_ _ | refine below_al ?_ _)); first | done | fail) b3)
      | fail)
  have T3 : Below W0.heap.size W0 W3 := by go_split_ands; assumption
  clear HKS
  have t4 := t0.trans (T3.mono t0.size)
  have z4 := T3.size
  go_wp2_with fail
  have HKS : Hid (∀ W, Below W3.heap.size W3 W → Below W3.heap.size W3 W ∧ W.cell? ⟨w.heap.size, 0, none⟩ = some (.int .i64 r.a) ∧ W.cell? ⟨w.heap.size, 1, none⟩ = some (.int .i64 r.b) ∧ W.cell? ⟨w.heap.size, 2, none⟩ = some (.int .i64 r.c) ∧ W.cell? ⟨w.heap.size, 3, none⟩ = some (.int .i64 r.d) ∧ W.cell? ⟨w.heap.size + 1, 0, none⟩ = some (.int .i64 s.l) ∧ W.cell? ⟨w.heap.size + 1, 1, none⟩ = some (.int .i64 s.c)) := Lib.hid (fun W hW => by
    have hW0 := t4.trans (hW.mono t4.size)
    obtain ⟨z0_0, z0_1, z0_2, z0_3⟩ := HX0.out W (by rw [← HS0.out]; exact hW0)
    obtain ⟨z1_0, z1_1⟩ := HX1.out W (by rw [← HS0.out]; exact hW0)
    exact ⟨hW, z0_0, z0_1, z0_2, z0_3, z1_0, z1_1⟩)
  go_region_held3 (fun w' => Below W3.heap.size W3 w' ∧ w'.cell? ⟨w.heap.size, 0, none⟩ = some (.int .i64 r.a) ∧ w'.cell? ⟨w.heap.size, 1, none⟩ = some (.int .i64 r.b) ∧ w'.cell? ⟨w.heap.size, 2, none⟩ = some (.int .i64 r.c) ∧ w'.cell? ⟨w.heap.size, 3, none⟩ = some (.int .i64 r.d) ∧ w'.cell? ⟨w.heap.size + 1, 0, none⟩ = some (.int .i64 s.l) ∧ w'.cell? ⟨w.heap.size + 1, 1, none⟩ = some (.int .i64 s.c)) (exact HKS.out _ (by (repeat (first | exact B7T | exact B6T | exact B5T | exact Below.refl _ _ | refine Below.drew ?_ | refine below_drewN ?_ _ | refine below_al ?_ _ | refine below_all2 ?_ (by first | exact Nat.le_refl _ | exact B5T.size | exact B6T.size | exact B7T.size | fail) _ _)); first | done | fail))
    (first
      | (go_at_call 46; (with_reducible (show Calls _ _ #[.agg #[.int .i64 r.a, .int .i64 r.b, .int .i64 r.c, .int .i64 r.d]] _ _)); refine (toWindRule_any r _).mono ?_; rintro e W5 ⟨rfl, b5⟩; have B5T : Below W3.heap.size W3 W5 := bel_then (by (repeat (first | exact Below.refl _ _ | refine Below.drew ?_ | refine below_drewN ?_ _ | refine below_al ?_ _)); first | done | fail) b5)
      | (go_at_call 47; (with_reducible (show Calls _ _ #[.agg #[.int .i64 s.l, .int .i64 s.c]] _ _)); refine (toWindState_any s _).mono ?_; rintro e W6 ⟨rfl, b6⟩; have B6T : Below W3.heap.size W3 W6 := bel_then (by (repeat (first | exact B5T | exact Below.refl _ _ | refine Below.drew ?_ | refine below_drewN ?_ _ | refine below_al ?_ _)); first | done | fail) b6)
      | (go_at_call 26; refine (implEarliestFree_c r s _ ).mono ?_; rintro e W7 ⟨rfl, b7⟩; have B7T : Below W3.heap.size W3 W7 := bel_then (by (repeat (first | exact B6T | exact B5T | exact Below.refl _ _ | refine Below.drew ?_ | refine below_drewN ?_ _ | refine below_al ?_ _)); first | done | fail) b7)
      | fail)
  have T7 : Below W3.heap.size W3 W7 := by go_split_ands; assumption
  clear HKS
  have t8 := t4.trans (T7.mono t4.size)
  have z8 := T7.size
  go_wp2_with fail
  go_ret
  exact ⟨rfl, HT0.out.trans (t8.mono (by have := HS0.out; omega))⟩
end Go.Proofs.Ytoamhbobcpljpaa
