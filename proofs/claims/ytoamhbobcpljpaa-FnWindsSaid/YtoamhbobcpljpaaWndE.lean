/- A reading, the program's and the specification's. Condition: none. -/
import Derived.Test.YtoamhbobcpljpaaWndD
namespace Go.Proofs.Ytoamhbobcpljpaa
open Go.RowKit
set_option linter.unusedVariables false
theorem l12_below3 (w : World) (o1 o2 o3 : Obj) : Below w.heap.size w (((w.alloc o1).alloc o2).alloc o3) := (rs_below w o1 o2).alloc (by simp; omega) _
set_option maxRecDepth 100000 in
set_option maxHeartbeats 4000000 in
theorem l12Next_0 (r : Wru) (C v : Int) (w : World) (hv : wsV r ⟨0, C⟩ = true) :
    Calls Try.prog 66 #[.agg #[.int .i64 r.a, .int .i64 r.b, .int .i64 r.c, .int .i64 r.d], .agg #[.int .i64 0, .int .i64 C], .int .i64 v] w fun e w' => e = .returned (.agg #[.int .i64 (wnx r ⟨0, C⟩ v).l, .int .i64 (wnx r ⟨0, C⟩ v).c]) ∧ Below w.heap.size w w' := by
  obtain ⟨hr, hs⟩ := (wsV_iff _ _).1 hv
  have hr := (wrV_iff r).1 hr
  simp only [] at hs
  have hlim : limW r 0 = r.a := by simp [limW]
  have q1 : IntKind.i64.wrap (r.a - r.c) = r.a - r.c := IntWalk.i64_in _ (by omega)
  have q2 : IntKind.i64.wrap (r.b - r.c) = r.b - r.c := IntWalk.i64_in _ (by omega)
  have q3 : IntKind.i64.wrap (C + 1) = C + 1 := IntWalk.i64_in _ (by omega)
  clear hv
  by_cases h1 : r.b ≤ v
  · have t1 : decide (r.b ≤ v) = true := by simpa using h1
    have HX : Hid (wnx r ⟨0, C⟩ v = ⟨2, 0⟩) := Lib.hid (by unfold wnx; simp only [hlim]; rw [if_pos h1]; all_goals rfl)
    rw [HX.out]
    clear hlim hr hs HX h1
    go_enter Try.func66, Try.ntmps66
    go_wp2
    refine bodyPost_ret (v := .agg #[.int .i64 (2), .int .i64 (0)]) (by simp [results, Try.results66, go_sem]) rfl ⟨rfl, ?_⟩
    exact l12_below3 _ _ _ _
  · have t1 : decide (r.b ≤ v) = false := by simpa using h1
    by_cases h2 : r.a ≤ v
    · have t2 : decide (r.a ≤ v) = true := by simpa using h2
      have HX : Hid (wnx r ⟨0, C⟩ v = ⟨1, 0⟩) := Lib.hid (by unfold wnx; simp only [hlim]; rw [if_neg h1, if_pos trivial, if_pos h2]; all_goals rfl)
      rw [HX.out]
      clear hlim hr hs HX h1 h2
      go_enter Try.func66, Try.ntmps66
      go_wp2
      refine bodyPost_ret (v := .agg #[.int .i64 (1), .int .i64 (0)]) (by simp [results, Try.results66, go_sem]) rfl ⟨rfl, ?_⟩
      exact l12_below3 _ _ _ _
    · have t2 : decide (r.a ≤ v) = false := by simpa using h2
      have HX : Hid (wnx r ⟨0, C⟩ v = ⟨0, 0⟩) := Lib.hid (by unfold wnx; simp only [hlim]; rw [if_neg h1, if_pos trivial, if_neg h2]; all_goals rfl)
      rw [HX.out]
      clear hlim hr hs HX h1 h2
      go_enter Try.func66, Try.ntmps66
      go_wp2
      refine bodyPost_ret (v := .agg #[.int .i64 (0), .int .i64 (0)]) (by simp [results, Try.results66, go_sem]) rfl ⟨rfl, ?_⟩
      exact l12_below3 _ _ _ _
set_option maxRecDepth 100000 in
set_option maxHeartbeats 4000000 in
theorem l12Next_1 (r : Wru) (C v : Int) (w : World) (hv : wsV r ⟨1, C⟩ = true) :
    Calls Try.prog 66 #[.agg #[.int .i64 r.a, .int .i64 r.b, .int .i64 r.c, .int .i64 r.d], .agg #[.int .i64 1, .int .i64 C], .int .i64 v] w fun e w' => e = .returned (.agg #[.int .i64 (wnx r ⟨1, C⟩ v).l, .int .i64 (wnx r ⟨1, C⟩ v).c]) ∧ Below w.heap.size w w' := by
  obtain ⟨hr, hs⟩ := (wsV_iff _ _).1 hv
  have hr := (wrV_iff r).1 hr
  simp only [] at hs
  have hlim : limW r 1 = r.a := by simp [limW]
  have q1 : IntKind.i64.wrap (r.a - r.c) = r.a - r.c := IntWalk.i64_in _ (by omega)
  have q2 : IntKind.i64.wrap (r.b - r.c) = r.b - r.c := IntWalk.i64_in _ (by omega)
  have q3 : IntKind.i64.wrap (C + 1) = C + 1 := IntWalk.i64_in _ (by omega)
  clear hv
  by_cases h1 : r.b ≤ v
  · have t1 : decide (r.b ≤ v) = true := by simpa using h1
    have HX : Hid (wnx r ⟨1, C⟩ v = ⟨2, 0⟩) := Lib.hid (by unfold wnx; simp only [hlim]; rw [if_pos h1]; all_goals rfl)
    rw [HX.out]
    clear hlim hr hs HX h1
    go_enter Try.func66, Try.ntmps66
    go_wp2
    refine bodyPost_ret (v := .agg #[.int .i64 (2), .int .i64 (0)]) (by simp [results, Try.results66, go_sem]) rfl ⟨rfl, ?_⟩
    exact l12_below3 _ _ _ _
  · have t1 : decide (r.b ≤ v) = false := by simpa using h1
    by_cases h3 : r.a - r.c ≤ v
    · have t3 : decide (r.a - r.c ≤ v) = true := by simpa using h3
      have HX : Hid (wnx r ⟨1, C⟩ v = ⟨1, 0⟩) := Lib.hid (by unfold wnx; simp only [hlim]; rw [if_neg h1, if_neg (by simp : ¬ ((1 : Int) = 0)), if_pos h3]; all_goals rfl)
      rw [HX.out]
      clear hlim hr hs HX h1 h3
      go_enter Try.func66, Try.ntmps66
      go_wp2
      refine bodyPost_ret (v := .agg #[.int .i64 (1), .int .i64 (0)]) (by simp [results, Try.results66, go_sem]) rfl ⟨rfl, ?_⟩
      exact l12_below3 _ _ _ _
    · have t3 : decide (r.a - r.c ≤ v) = false := by simpa using h3
      by_cases h4 : C + 1 = r.d
      · have t4 : (C + 1 == r.d) = true := by simpa using h4
        have HX : Hid (wnx r ⟨1, C⟩ v = ⟨0, 0⟩) := Lib.hid (by unfold wnx; simp only [hlim]; rw [if_neg h1, if_neg (by simp : ¬ ((1 : Int) = 0)), if_neg h3, if_pos h4]; all_goals rfl)
        rw [HX.out]
        clear hlim hr hs HX h1 h3 h4
        go_enter Try.func66, Try.ntmps66
        go_wp2
        refine bodyPost_ret (v := .agg #[.int .i64 (0), .int .i64 (0)]) (by simp [results, Try.results66, go_sem]) rfl ⟨rfl, ?_⟩
        exact l12_below3 _ _ _ _
      · have t4 : (C + 1 == r.d) = false := by simpa using h4
        have HX : Hid (wnx r ⟨1, C⟩ v = ⟨1, C + 1⟩) := Lib.hid (by unfold wnx; simp only [hlim]; rw [if_neg h1, if_neg (by simp : ¬ ((1 : Int) = 0)), if_neg h3, if_neg h4]; all_goals rfl)
        rw [HX.out]
        clear hlim hr hs HX h1 h3 h4
        go_enter Try.func66, Try.ntmps66
        go_wp2
        refine bodyPost_ret (v := .agg #[.int .i64 (1), .int .i64 (C + 1)]) (by simp [results, Try.results66, go_sem]) rfl ⟨rfl, ?_⟩
        exact l12_below3 _ _ _ _
set_option maxRecDepth 100000 in
set_option maxHeartbeats 4000000 in
theorem l12Next_2 (r : Wru) (C v : Int) (w : World) (hv : wsV r ⟨2, C⟩ = true) :
    Calls Try.prog 66 #[.agg #[.int .i64 r.a, .int .i64 r.b, .int .i64 r.c, .int .i64 r.d], .agg #[.int .i64 2, .int .i64 C], .int .i64 v] w fun e w' => e = .returned (.agg #[.int .i64 (wnx r ⟨2, C⟩ v).l, .int .i64 (wnx r ⟨2, C⟩ v).c]) ∧ Below w.heap.size w w' := by
  obtain ⟨hr, hs⟩ := (wsV_iff _ _).1 hv
  have hr := (wrV_iff r).1 hr
  simp only [] at hs
  have hlim : limW r 2 = r.b := by simp [limW]
  have q1 : IntKind.i64.wrap (r.a - r.c) = r.a - r.c := IntWalk.i64_in _ (by omega)
  have q2 : IntKind.i64.wrap (r.b - r.c) = r.b - r.c := IntWalk.i64_in _ (by omega)
  have q3 : IntKind.i64.wrap (C + 1) = C + 1 := IntWalk.i64_in _ (by omega)
  clear hv
  by_cases h1 : r.b ≤ v
  · have t1 : decide (r.b ≤ v) = true := by simpa using h1
    have HX : Hid (wnx r ⟨2, C⟩ v = ⟨2, 0⟩) := Lib.hid (by unfold wnx; simp only [hlim]; rw [if_pos h1]; all_goals rfl)
    rw [HX.out]
    clear hlim hr hs HX h1
    go_enter Try.func66, Try.ntmps66
    go_wp2
    refine bodyPost_ret (v := .agg #[.int .i64 (2), .int .i64 (0)]) (by simp [results, Try.results66, go_sem]) rfl ⟨rfl, ?_⟩
    exact l12_below3 _ _ _ _
  · have t1 : decide (r.b ≤ v) = false := by simpa using h1
    by_cases h3 : r.b - r.c ≤ v
    · have t3 : decide (r.b - r.c ≤ v) = true := by simpa using h3
      have HX : Hid (wnx r ⟨2, C⟩ v = ⟨2, 0⟩) := Lib.hid (by unfold wnx; simp only [hlim]; rw [if_neg h1, if_neg (by simp : ¬ ((2 : Int) = 0)), if_pos h3]; all_goals rfl)
      rw [HX.out]
      clear hlim hr hs HX h1 h3
      go_enter Try.func66, Try.ntmps66
      go_wp2
      refine bodyPost_ret (v := .agg #[.int .i64 (2), .int .i64 (0)]) (by simp [results, Try.results66, go_sem]) rfl ⟨rfl, ?_⟩
      exact l12_below3 _ _ _ _
    · have t3 : decide (r.b - r.c ≤ v) = false := by simpa using h3
      by_cases h4 : C + 1 = r.d
      · have t4 : (C + 1 == r.d) = true := by simpa using h4
        have HX : Hid (wnx r ⟨2, C⟩ v = ⟨1, 0⟩) := Lib.hid (by unfold wnx; simp only [hlim]; rw [if_neg h1, if_neg (by simp : ¬ ((2 : Int) = 0)), if_neg h3, if_pos h4]; all_goals rfl)
        rw [HX.out]
        clear hlim hr hs HX h1 h3 h4
        go_enter Try.func66, Try.ntmps66
        go_wp2
        refine bodyPost_ret (v := .agg #[.int .i64 (1), .int .i64 (0)]) (by simp [results, Try.results66, go_sem]) rfl ⟨rfl, ?_⟩
        exact l12_below3 _ _ _ _
      · have t4 : (C + 1 == r.d) = false := by simpa using h4
        have HX : Hid (wnx r ⟨2, C⟩ v = ⟨2, C + 1⟩) := Lib.hid (by unfold wnx; simp only [hlim]; rw [if_neg h1, if_neg (by simp : ¬ ((2 : Int) = 0)), if_neg h3, if_neg h4]; all_goals rfl)
        rw [HX.out]
        clear hlim hr hs HX h1 h3 h4
        go_enter Try.func66, Try.ntmps66
        go_wp2
        refine bodyPost_ret (v := .agg #[.int .i64 (2), .int .i64 (C + 1)]) (by simp [results, Try.results66, go_sem]) rfl ⟨rfl, ?_⟩
        exact l12_below3 _ _ _ _
end Go.Proofs.Ytoamhbobcpljpaa
