/- BoardText: both sides. Condition: the tables are as laid. -/
import Derived.Test.YtinlcbljpclccaaDoorBoTs0
import Derived.Test.YtinlcbljpclccaaDoorBoTs1
import Derived.Deep.DeepCutAuto
import Derived.Deep.RegionHeld3
namespace Go.Proofs.YtinlcbljpclccaaDoor
open Go.RowKit
set_option linter.unusedVariables false
set_option maxHeartbeats 1000000 in
theorem implBoardText_c (p : Plt) (w : World) (ht : TabP w) :
    Calls Tryd.prog 16 #[.agg #[.int .i64 p.d, .int .i64 p.s, .int .i64 p.i, .int .i64 p.w, .bool p.l, .int .i64 p.g]] w fun e w' => e = .returned (.tuple #[.string (btV p), .bool (plV p)]) ∧ Below w.heap.size w w' := by
  cases h : plV p with
  | false =>
    have E0 := Lib.hid (fun W => by have h1 := implIsPlatform_c p W; rw [h] at h1; exact h1)
    have HN := Lib.hid (bt_no h)
    clear h ht
    generalize btV p = TX at *
    go_enter Tryd.func16, Tryd.ntmps16
    go_wp2_with fail
    refine (E0.out _).mono ?_
    rintro e W0 ⟨rfl, b1⟩
    go_wp2
    go_ret2
    exact ⟨ret_tB HN.out.symm rfl, ((Below.refl _ _).alloc (Nat.le_refl _) _).trans (b1.mono (by simp))⟩
  | true =>
    rw [bt_yes h]
    have hb := (plV_iff p).1 h
    obtain ⟨D, S, I, V, L, G⟩ := p
    dsimp only at hb
    by_cases hs : 0 < S
    · rcases (by omega : D = 0 ∨ D = 1) with rfl | rfl <;> cases L
      · exact implBT_0_0_c S I V G w h hs ht
      · exact implBT_0_1_c S I V G w h hs ht
      · exact implBT_1_0_c S I V G w h hs ht
      · exact implBT_1_1_c S I V G w h hs ht
    · obtain rfl : D = 0 := by omega
      obtain rfl : S = 0 := by omega
      obtain rfl : I = 0 := by omega
      cases L
      · exact implBT_0_0_n V G w h ht
      · exact implBT_0_1_n V G w h ht
set_option maxHeartbeats 1000000 in
theorem specBoardText_c (p : Plt) (w : World) :
    Calls Tryd.prog 17 #[.agg #[.int .i64 p.d, .int .i64 p.s, .int .i64 p.i, .int .i64 p.w, .bool p.l, .int .i64 p.g]] w fun e w' => e = .returned (.tuple #[.string (btV p), .bool (plV p)]) ∧ Below w.heap.size w w' := by
  cases h : plV p with
  | false =>
    have E0 := Lib.hid (fun W => by have h1 := l14Good_c p W; rw [h] at h1; exact h1)
    have HN := Lib.hid (bt_no h)
    clear h
    generalize btV p = TX at *
    go_enter Tryd.func17, Tryd.ntmps17
    go_wp2_with fail
    refine (E0.out _).mono ?_
    rintro e W0 ⟨rfl, b1⟩
    go_wp2
    go_ret2
    exact ⟨ret_tB HN.out.symm rfl, ((Below.refl _ _).alloc (Nat.le_refl _) _).trans (b1.mono (by simp))⟩
  | true =>
    rw [bt_yes h]
    have hb := (plV_iff p).1 h
    obtain ⟨D, S, I, V, L, G⟩ := p
    dsimp only at hb
    by_cases hs : 0 < S
    · rcases (by omega : D = 0 ∨ D = 1) with rfl | rfl <;> cases L
      · exact specBT_0 S I V G false w h hs
      · exact specBT_0 S I V G true w h hs
      · exact specBT_1 S I V G false w h hs
      · exact specBT_1 S I V G true w h hs
    · obtain rfl : D = 0 := by omega
      obtain rfl : S = 0 := by omega
      obtain rfl : I = 0 := by omega
      cases L
      · exact specBT_0_0_n V G w h
      · exact specBT_0_1_n V G w h
end Go.Proofs.YtinlcbljpclccaaDoor
