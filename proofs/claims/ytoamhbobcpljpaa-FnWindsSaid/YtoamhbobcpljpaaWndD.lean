/- Valid states, limits, and a reading. Condition: none beyond a valid rule. -/
import Derived.Test.YtoamhbobcpljpaaWndC
namespace Go.Proofs.Ytoamhbobcpljpaa
open Go.RowKit
set_option linter.unusedVariables false
theorem box_rs (w : World) (r : Wru) (s : Wst) (tr ts : TypeId) (W : World) (h : Below (w.heap.size + 2) ((w.alloc (.cells #[.int .i64 r.a, .int .i64 r.b, .int .i64 r.c, .int .i64 r.d] tr)).alloc (.cells #[.int .i64 s.l, .int .i64 s.c] ts)) W) :
    (W.cell? ⟨w.heap.size, 0, none⟩ = some (.int .i64 r.a) ∧ W.cell? ⟨w.heap.size, 1, none⟩ = some (.int .i64 r.b) ∧ W.cell? ⟨w.heap.size, 2, none⟩ = some (.int .i64 r.c) ∧ W.cell? ⟨w.heap.size, 3, none⟩ = some (.int .i64 r.d)) ∧ (W.cell? ⟨w.heap.size + 1, 0, none⟩ = some (.int .i64 s.l) ∧ W.cell? ⟨w.heap.size + 1, 1, none⟩ = some (.int .i64 s.c)) :=
  ⟨box_Wru w r tr _ rfl W (((Below.refl _ _).alloc (by simp) _).trans (h.mono (by simp))), box_Wst _ s ts _ (by simp) W h⟩
/-- Below behind two boxes. -/
theorem rs_below (w : World) (o1 o2 : Obj) : Below w.heap.size w ((w.alloc o1).alloc o2) := ((Below.refl _ _).alloc (Nat.le_refl _) _).alloc (by simp) _
theorem isV_wsX {r : Wru} {s : Wst} {b0 b1 : Bool} (h0 : decide (s.l = 0) = b0) (h1 : decide (s.c = 0) = b1) : wsX r s = ((b0 && b1) || (inR s.l 1 2 && inR s.c 0 (r.d - 1))) := by unfold wsX; rw [h0, h1]

set_option maxRecDepth 100000 in
set_option maxHeartbeats 2000000 in
theorem isWindState_c (r : Wru) (s : Wst) (w : World) (hv : wrV r = true) :
    Calls Try.prog 54 #[.agg #[.int .i64 r.a, .int .i64 r.b, .int .i64 r.c, .int .i64 r.d], .agg #[.int .i64 s.l, .int .i64 s.c]] w fun e w' => e = .returned (.bool (wsX r s)) ∧ Below w.heap.size w w' := by
  have hr := (wrV_iff r).1 hv
  have q1 : IntKind.i64.wrap (r.d - 1) = r.d - 1 := IntWalk.i64_in _ (by omega)
  have E1 := Lib.hid (fun W => within_c s.l 1 2 W)
  have E2 := Lib.hid (fun W => within_c s.c 0 (r.d - 1) W)
  have HB := Lib.hid (fun b0 b1 h0 h1 => isV_wsX (r := r) (s := s) (b0 := b0) (b1 := b1) h0 h1)
  have HQ := Lib.hid (fun W => eqlWst s.l s.c 0 0 W)
  have HT : Hid (Below w.heap.size w (((w.alloc (.cells #[.int .i64 r.a, .int .i64 r.b, .int .i64 r.c, .int .i64 r.d] 25)).alloc (.cells #[.int .i64 s.l, .int .i64 s.c] 27)).alloc (.cells #[.int .i64 0, .int .i64 0] 27))) := Lib.hid ((rs_below _ _ _).alloc (by simp; omega) _)
  generalize wsX r s = X at *
  generalize inR s.l 1 2 = b2 at *
  generalize inR s.c 0 (r.d - 1) = b3 at *
  clear hr hv
  have hc : (decide (s.l = 0) && decide (s.c = 0)) = true ∨ (decide (s.l = 0) && decide (s.c = 0)) = false := by cases (decide (s.l = 0) && decide (s.c = 0)) <;> simp
  rcases hc with hc | hc
  · have HX : Hid (X = true) := Lib.hid (by rw [HB.out _ _ rfl rfl, hc]; rfl)
    have hq := HQ.out
    rw [hc] at hq
    clear hc HB HQ
    go_enter Try.func54, Try.ntmps54
    go_wp2
    go_ret
    exact ⟨ret_b (by rw [HX.out]), HT.out⟩
  · have HX : Hid (X = (b2 && b3)) := Lib.hid (by rw [HB.out _ _ rfl rfl, hc]; rfl)
    have hq := HQ.out
    rw [hc] at hq
    clear hc HB HQ
    go_enter Try.func54, Try.ntmps54
    go_wp2_with fail
    refine (E1.out _).mono ?_
    rintro e w1 ⟨rfl, rfl⟩
    cases b2 with
    | false =>
      go_wp2
      go_ret
      exact ⟨ret_b (by rw [HX.out]; rfl), HT.out⟩
    | true =>
      go_wp2_with fail
      refine (E2.out _).mono ?_
      rintro e w2 ⟨rfl, rfl⟩
      go_wp2
      go_ret
      exact ⟨ret_b (by rw [HX.out]; rfl), HT.out⟩
set_option maxRecDepth 100000 in
set_option maxHeartbeats 2000000 in
theorem l12State_c (r : Wru) (s : Wst) (w : World) :
    Calls Try.prog 55 #[.agg #[.int .i64 r.a, .int .i64 r.b, .int .i64 r.c, .int .i64 r.d], .agg #[.int .i64 s.l, .int .i64 s.c]] w fun e w' => e = .returned (.bool (wsV r s)) ∧ Below w.heap.size w w' := by
  have HB := Lib.hid (wsV_spec r s)
  have HI := Lib.hid (wrV_iff r)
  have E0 := Lib.hid (fun W => l12Rule_c r W)
  have E1 := Lib.hid (fun W => l1In_c s.l 0 2 W)
  have E2 := Lib.hid (fun W => l1In_c s.c 0 (r.d - 1) W)
  generalize wsV r s = X at *
  generalize wrV r = b0 at *
  generalize inR s.l 0 2 = b1 at *
  generalize inR s.c 0 (r.d - 1) = b2 at *
  have HC := Lib.hid (fun W h => box_rs w r s 25 27 W h)
  have HT0 := Lib.hid (rs_below w (.cells #[.int .i64 r.a, .int .i64 r.b, .int .i64 r.c, .int .i64 r.d] 25) (.cells #[.int .i64 s.l, .int .i64 s.c] 27))
  have hs0 : ((w.alloc (.cells #[.int .i64 r.a, .int .i64 r.b, .int .i64 r.c, .int .i64 r.d] 25)).alloc (.cells #[.int .i64 s.l, .int .i64 s.c] 27)).heap.size = w.heap.size + 2 := by simp
  go_enter Try.func55, Try.ntmps55
  go_wp2_with fail
  generalize (w.alloc (.cells #[.int .i64 r.a, .int .i64 r.b, .int .i64 r.c, .int .i64 r.d] 25)).alloc (.cells #[.int .i64 s.l, .int .i64 s.c] 27) = W0 at *
  refine (E0.out _).mono ?_
  rintro e w1 ⟨rfl, t1⟩
  obtain ⟨⟨c0, c1, c2, c3⟩, d0, d1⟩ := HC.out w1 (by rw [← hs0]; exact t1)
  have T1 := Lib.hid (HT0.out.trans (t1.mono (by omega)))
  clear t1 HC
  cases b0 with
  | false =>
    have HX : Hid (X = false) := Lib.hid (by rw [HB.out]; rfl)
    go_wp2
    go_ret
    exact ⟨ret_b (by rw [HX.out]), T1.out⟩
  | true =>
    have hr := HI.out.1 rfl
    have q1 : IntKind.i64.wrap (r.d - 1) = r.d - 1 := IntWalk.i64_in _ (by omega)
    clear hr HI
    go_wp2_with fail
    refine (E1.out _).mono ?_
    rintro e w2 ⟨rfl, rfl⟩
    cases b1 with
    | false =>
      have HX : Hid (X = false) := Lib.hid (by rw [HB.out]; rfl)
      go_wp2
      go_ret
      exact ⟨ret_b (by rw [HX.out]), T1.out⟩
    | true =>
      go_wp2_with fail
      refine (E2.out _).mono ?_
      rintro e w3 ⟨rfl, rfl⟩
      cases b2 with
      | false =>
        have HX : Hid (X = false) := Lib.hid (by rw [HB.out]; rfl)
        go_wp2
        go_ret
        exact ⟨ret_b (by rw [HX.out]), T1.out⟩
      | true =>
        by_cases h5 : 0 < s.l
        · have t5 : decide (0 < s.l) = true := by simpa using h5
          have HX : Hid (X = true) := Lib.hid (by rw [HB.out, t5]; rfl)
          clear h5
          go_wp2
          go_ret
          exact ⟨ret_b (by rw [HX.out]), T1.out⟩
        · have t5 : decide (0 < s.l) = false := by simpa using h5
          by_cases h6 : s.c = 0
          · have t6 : (s.c == 0) = true := by simpa using h6
            have HX : Hid (X = true) := Lib.hid (by rw [HB.out, t5, h6]; rfl)
            clear h5 h6
            go_wp2
            go_ret
            exact ⟨ret_b (by rw [HX.out]), T1.out⟩
          · have t6 : (s.c == 0) = false := by simpa using h6
            have HX : Hid (X = false) := Lib.hid (by rw [HB.out, t5]; simp [h6])
            clear h5 h6
            go_wp2
            go_ret
            exact ⟨ret_b (by rw [HX.out]), T1.out⟩
set_option maxRecDepth 100000 in
set_option maxHeartbeats 2000000 in
theorem limitOf_c (r : Wru) (l : Int) (w : World) :
    Calls Try.prog 61 #[.agg #[.int .i64 r.a, .int .i64 r.b, .int .i64 r.c, .int .i64 r.d], .int .i64 l] w fun e w' => e = .returned (.int .i64 (limW r l)) ∧ Below w.heap.size w w' := by
  have HT := Lib.hid ((Below.refl w.heap.size w).alloc (Nat.le_refl _) (.cells #[.int .i64 r.a, .int .i64 r.b, .int .i64 r.c, .int .i64 r.d] 25))
  by_cases h : l = 2
  · have t1 : (l == 2) = true := by simpa using h
    have HX : Hid (limW r l = r.b) := Lib.hid (by simp [limW, h])
    rw [HX.out]
    clear h
    go_enter Try.func61, Try.ntmps61
    go_wp2
    go_ret
    exact ⟨rfl, HT.out⟩
  · have t1 : (l == 2) = false := by simpa using h
    have HX : Hid (limW r l = r.a) := Lib.hid (by simp [limW, h])
    rw [HX.out]
    clear h
    go_enter Try.func61, Try.ntmps61
    go_wp2
    go_ret
    exact ⟨rfl, HT.out⟩
end Go.Proofs.Ytoamhbobcpljpaa
