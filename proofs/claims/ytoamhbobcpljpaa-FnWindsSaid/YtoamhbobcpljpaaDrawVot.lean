/- The drawn sensors and votes. Condition: sizes. -/
import Derived.Test.YtoamhbobcpljpaaDrawKit
import Derived.Test.YtoamhbobcpljpaaProfK
import Derived.Deep.DeepCutAuto
namespace Go.Proofs.Ytoamhbobcpljpaa
open Go.RowKit
set_option linter.unusedVariables false
def lenV : Value → Nat
  | .slice _ n _ => n
  | _ => 0
/-- What drawing a list of integers leaves. -/
def LsPost (B b k : Nat) (w : World) (e : Ending) (w' : World) : Prop := ∃ (v : Value) (l : List Int), e = .returned v ∧ St 3 1 B b (k + 200) w w' v l.length (intVs l) ∧ l.length ≤ 60
theorem st_none {B b k : Nat} {w : World} (h : Cur B b k w) : St 3 1 B b k w (w.alloc (.cells #[] 3)) (.slice (some ⟨w.heap.size, 0, none⟩) 0 0) ([] : List Int).length (intVs []) :=
  ⟨h.alloc _, World.ownsRow_made w #[] 0 (Nat.le_refl _) (by decide) rfl, World.grownBy_alloc w _ _, h.2.1⟩
theorem st_none2 {e : TypeId} {sz n B b k P : Nat} {w W : World} {v : Value} {xs : List Value} (h : St e sz B b k w W v n xs) (hP : P = W.heap.size) : St 3 1 B b k w (W.alloc (.cells #[] 3)) (.slice (some ⟨P, 0, none⟩) 0 0) ([] : List Int).length (intVs []) := by
  subst hP
  exact ⟨h.cur.alloc _, World.ownsRow_made W #[] 0 h.size (by decide) rfl, grown_trans h.gr (World.grownBy_alloc W _ _), h.lt⟩
set_option maxRecDepth 100000 in
set_option maxHeartbeats 4000000 in
theorem sensors_any (B b k : Nat) (w : World) (h : Cur B b k w) (hk : k ≤ 700000000) :
    Calls Try.prog 67 #[.pointer (some ⟨b, 0, none⟩)] w (LsPost B b k w) := by
  obtain ⟨i0, hi, hy0, hy1, hy2⟩ := info_parts Try.infoIntR
  have hb := h.2.1
  have S0 := Lib.hid (st_none h)
  clear h
  go_enter Try.func67, Try.ntmps67
  go_wp2_with fail
  refine (pick_any B b k 5 _ S0.out.cur (by omega) (by omega) (by omega)).mono ?_
  rintro e w1 ⟨r0, rfl, hr0, hc, hg⟩
  have S1 := Lib.hid (S0.out.call hc hg)
  clear hc hg S0
  have q0 : IntKind.i64.wrap (1 + (r0 : Int)) = ((r0 + 1 : Nat) : Int) := by rw [IntWalk.i64_in _ (by omega)]; omega
  go_wp2
  go_loopw [3, 4] (fun v n wr => ∃ (m kk : Nat) (l : List Int), n = .int .i64 (m : Int) ∧ l.length + m ≤ 5 ∧ kk + 2 * m ≤ 40 ∧ Hid (St 3 1 B b (k + kk) w wr v l.length (intVs l))) (fun _ n _ => (intOf n).toNat)
  case atStart => exact ⟨r0 + 1, 2, [], rfl, by simp; omega, by omega, S1⟩
  case round =>
    obtain ⟨m, kk, l, rfl, hlm, hkk, S5⟩ := hrel
    obtain ⟨ao, ca, rfl⟩ := (Rs.of_own S5.out.own).shape
    have hsz := S5.out.size
    have hbw := S5.out.cur.2.1
    by_cases hm : 0 < m
    · have hmi : (0 : Int) < (m : Int) := by omega
      have p2 : IntKind.i64.wrap ((m : Int) - 1) = ((m - 1 : Nat) : Int) := by rw [show (m : Int) - 1 = ((m - 1 : Nat) : Int) by omega]; exact IntWalk.i64_in _ (by omega)
      go_wp2_with fail
      refine (among_any B b (k + kk) wr.heap.size 8 8 [-1, 0, 5, 10, 12, 13, 20, 60] _ (S5.out.cur.alloc _) (by omega) rfl (by omega) (by omega) (by omega) (num_cells wr 3 [-1, 0, 5, 10, 12, 13, 20, 60] _ rfl)).mono ?_
      rintro e w6 ⟨x, hx, rfl, hc, hg⟩
      have S6 := Lib.hid ((S5.out.alloc (.cells #[.int .i64 (-1), .int .i64 0, .int .i64 5, .int .i64 10, .int .i64 12, .int .i64 13, .int .i64 20, .int .i64 60] 3)).call hc hg)
      have hown := (S6.out.alloc (.cells #[.int .i64 x] 3)).own
      have hsz6 := S6.out.size
      clear hc hg hx
      go_wp2_with (at_builtin; (refine wpList_append_own _ rfl _ _ 28 rfl w.heap.size 3 i0 (.int .i64 0) 1 8 Try.underlying28 hi hy0 hy1 hy2 rfl (by decide) _ _ _ rfl hown ⟨w6.heap.size, 0, none⟩ 1 1 [.int .i64 x] rfl rfl (cell_one_new _ _ _) (by simp [Value.oneCell']) (by unfold maxLen; omega) (by omega) (by simp; omega) ?_; intro v9 w9 hown' hgrow _))
      have S7 := Lib.hid ((S6.out.alloc (.cells #[.int .i64 x] 3)).app hown' hgrow)
      clear hown hown' hgrow
      go_roundw
      case rel => exact ⟨m - 1, kk + 2, l ++ [x], by go_num, by simp; omega, by omega, by simpa [intVs, Nat.add_assoc] using S7⟩
      case measure => simp [intOf]; omega
    · have hmi : ¬ (0 : Int) < (m : Int) := by omega
      have S8 := Lib.hid (S5.out.more (k' := k + 40) (by omega))
      clear S5
      go_wp2_with fail
      refine (pick_any B b (k + 40) 24 _ S8.out.cur (by omega) (by omega) (by omega)).mono ?_
      rintro e w2 ⟨r, rfl, hr, hc, hg⟩
      have S9 := Lib.hid (S8.out.call hc hg)
      have hsz9 := S9.out.size
      have hbw9 := S9.out.cur.2.1
      clear hc hg S8
      by_cases e0 : r = 0
      · have t0 : ((r : Int) == 0) = true := by rw [beq_iff_eq]; omega
        clear e0
        go_wp2_with fail
        refine (among_any B b (k + 40 + 2) w2.heap.size 2 2 [61, -2] _ (S9.out.cur.alloc _) (by omega) rfl (by omega) (by omega) (by omega) (num_cells w2 3 [61, -2] _ rfl)).mono ?_
        rintro e w6 ⟨x, hx, rfl, hc, hg⟩
        have S6 := Lib.hid ((S9.out.alloc (.cells #[.int .i64 61, .int .i64 (-2)] 3)).call hc hg)
        have hown := (S6.out.alloc (.cells #[.int .i64 x] 3)).own
        have hsz6 := S6.out.size
        clear hc hg hx
        go_wp2_with (at_builtin; (refine wpList_append_own _ rfl _ _ 28 rfl w.heap.size 3 i0 (.int .i64 0) 1 8 Try.underlying28 hi hy0 hy1 hy2 rfl (by decide) _ _ _ rfl hown ⟨w6.heap.size, 0, none⟩ 1 1 [.int .i64 x] rfl rfl (cell_one_new _ _ _) (by simp [Value.oneCell']) (by unfold maxLen; omega) (by omega) (by simp; omega) ?_; intro v9 w9 hown' hgrow _))
        have S7 := Lib.hid ((S6.out.alloc (.cells #[.int .i64 x] 3)).app hown' hgrow)
        clear hown hown' hgrow
        go_ret
        exact ⟨_, l ++ [x], rfl, by simpa [intVs] using S7.out.more (k' := k + 200) (by omega), by simp; omega⟩
      · have t0 : ((r : Int) == 0) = false := by rw [beq_eq_false_iff_ne]; omega
        by_cases e1 : r = 1
        · have t1 : ((r : Int) == 1) = true := by rw [beq_iff_eq]; omega
          clear e1
          have S7 := Lib.hid (st_none2 S9.out rfl)
          go_wp2
          go_ret
          exact ⟨_, [], rfl, S7.out.more (by omega), by simp⟩
        · have t1 : ((r : Int) == 1) = false := by rw [beq_eq_false_iff_ne]; omega
          clear e1
          go_wp2
          go_ret
          exact ⟨_, l, rfl, S9.out.more (by omega), by omega⟩
set_option maxRecDepth 100000 in
set_option maxHeartbeats 4000000 in
theorem votes_any (B b k : Nat) (w : World) (h : Cur B b k w) (hk : k ≤ 700000000) :
    Calls Try.prog 53 #[.pointer (some ⟨b, 0, none⟩)] w (LsPost B b k w) := by
  obtain ⟨i0, hi, hy0, hy1, hy2⟩ := info_parts Try.infoIntR
  have hb := h.2.1
  have S0 := Lib.hid (st_none h)
  clear h
  go_enter Try.func53, Try.ntmps53
  go_wp2_with fail
  refine (pick_any B b k 14 _ S0.out.cur (by omega) (by omega) (by omega)).mono ?_
  rintro e w1 ⟨r0, rfl, hr0, hc, hg⟩
  have S1 := Lib.hid (S0.out.call hc hg)
  clear hc hg S0
  go_wp2
  go_loopw [3, 4] (fun v n wr => ∃ (m kk : Nat) (l : List Int), n = .int .i64 (m : Int) ∧ l.length + m ≤ 13 ∧ kk + 2 * m ≤ 40 ∧ Hid (St 3 1 B b (k + kk) w wr v l.length (intVs l))) (fun _ n _ => (intOf n).toNat)
  case atStart => exact ⟨r0, 2, [], rfl, by simp; omega, by omega, S1⟩
  case round =>
    obtain ⟨m, kk, l, rfl, hlm, hkk, S5⟩ := hrel
    obtain ⟨ao, ca, rfl⟩ := (Rs.of_own S5.out.own).shape
    have hsz := S5.out.size
    have hbw := S5.out.cur.2.1
    by_cases hm : 0 < m
    · have hmi : (0 : Int) < (m : Int) := by omega
      have p2 : IntKind.i64.wrap ((m : Int) - 1) = ((m - 1 : Nat) : Int) := by rw [show (m : Int) - 1 = ((m - 1 : Nat) : Int) by omega]; exact IntWalk.i64_in _ (by omega)
      go_wp2_with fail
      refine (among_any B b (k + kk) wr.heap.size 14 14 [0, 3, 5, 8, 9, 10, 11, 12, 14, 15, 17, 18, 20, 30] _ (S5.out.cur.alloc _) (by omega) rfl (by omega) (by omega) (by omega) (num_cells wr 3 [0, 3, 5, 8, 9, 10, 11, 12, 14, 15, 17, 18, 20, 30] _ rfl)).mono ?_
      rintro e w6 ⟨x, hx, rfl, hc, hg⟩
      have S6 := Lib.hid ((S5.out.alloc (.cells #[.int .i64 0, .int .i64 3, .int .i64 5, .int .i64 8, .int .i64 9, .int .i64 10, .int .i64 11, .int .i64 12, .int .i64 14, .int .i64 15, .int .i64 17, .int .i64 18, .int .i64 20, .int .i64 30] 3)).call hc hg)
      have hown := (S6.out.alloc (.cells #[.int .i64 x] 3)).own
      have hsz6 := S6.out.size
      clear hc hg hx
      go_wp2_with (at_builtin; (refine wpList_append_own _ rfl _ _ 28 rfl w.heap.size 3 i0 (.int .i64 0) 1 8 Try.underlying28 hi hy0 hy1 hy2 rfl (by decide) _ _ _ rfl hown ⟨w6.heap.size, 0, none⟩ 1 1 [.int .i64 x] rfl rfl (cell_one_new _ _ _) (by simp [Value.oneCell']) (by unfold maxLen; omega) (by omega) (by simp; omega) ?_; intro v9 w9 hown' hgrow _))
      have S7 := Lib.hid ((S6.out.alloc (.cells #[.int .i64 x] 3)).app hown' hgrow)
      clear hown hown' hgrow
      go_roundw
      case rel => exact ⟨m - 1, kk + 2, l ++ [x], by go_num, by simp; omega, by omega, by simpa [intVs, Nat.add_assoc] using S7⟩
      case measure => simp [intOf]; omega
    · have hmi : ¬ (0 : Int) < (m : Int) := by omega
      have S8 := Lib.hid (S5.out.more (k' := k + 40) (by omega))
      clear S5
      go_wp2_with fail
      refine (pick_any B b (k + 40) 32 _ S8.out.cur (by omega) (by omega) (by omega)).mono ?_
      rintro e w2 ⟨r, rfl, hr, hc, hg⟩
      have S9 := Lib.hid (S8.out.call hc hg)
      have hsz9 := S9.out.size
      have hbw9 := S9.out.cur.2.1
      clear hc hg S8
      by_cases e0 : r = 0
      · have t0 : ((r : Int) == 0) = true := by rw [beq_iff_eq]; omega
        clear e0
        go_wp2_with fail
        refine (among_any B b (k + 40 + 2) w2.heap.size 2 2 [-1, 61] _ (S9.out.cur.alloc _) (by omega) rfl (by omega) (by omega) (by omega) (num_cells w2 3 [-1, 61] _ rfl)).mono ?_
        rintro e w6 ⟨x, hx, rfl, hc, hg⟩
        have S6 := Lib.hid ((S9.out.alloc (.cells #[.int .i64 (-1), .int .i64 61] 3)).call hc hg)
        have hown := (S6.out.alloc (.cells #[.int .i64 x] 3)).own
        have hsz6 := S6.out.size
        clear hc hg hx
        go_wp2_with (at_builtin; (refine wpList_append_own _ rfl _ _ 28 rfl w.heap.size 3 i0 (.int .i64 0) 1 8 Try.underlying28 hi hy0 hy1 hy2 rfl (by decide) _ _ _ rfl hown ⟨w6.heap.size, 0, none⟩ 1 1 [.int .i64 x] rfl rfl (cell_one_new _ _ _) (by simp [Value.oneCell']) (by unfold maxLen; omega) (by omega) (by simp; omega) ?_; intro v9 w9 hown' hgrow _))
        have S7 := Lib.hid ((S6.out.alloc (.cells #[.int .i64 x] 3)).app hown' hgrow)
        clear hown hown' hgrow
        go_ret
        exact ⟨_, l ++ [x], rfl, by simpa [intVs] using S7.out.more (k' := k + 200) (by omega), by simp; omega⟩
      · have t0 : ((r : Int) == 0) = false := by rw [beq_eq_false_iff_ne]; omega
        by_cases e1 : r = 1
        · have t1 : ((r : Int) == 1) = true := by rw [beq_iff_eq]; omega
          clear e1
          have hl13 : l.length ≤ 13 := by omega
          go_wp2
          go_loopw [3] (fun v wr => ∃ (kk : Nat) (l : List Int), l.length ≤ 51 ∧ kk ≤ 42 + 2 * l.length ∧ Hid (St 3 1 B b (k + kk) w wr v l.length (intVs l))) (fun v _ => 60 - lenV v)
          case atStart => exact ⟨42, l, by omega, by omega, S9⟩
          case round =>
            obtain ⟨kk, l, hl51, hkk, S5⟩ := hrel
            obtain ⟨ao, ca, rfl⟩ := (Rs.of_own S5.out.own).shape
            have hsz := S5.out.size
            have hbw := S5.out.cur.2.1
            go_wp2_with fail
            refine (pick_any B b (k + kk) 2 _ S5.out.cur (by omega) (by omega) (by omega)).mono ?_
            rintro e w6 ⟨u, rfl, hu, hc, hg⟩
            have S6 := Lib.hid (S5.out.call hc hg)
            have hsz6 := S6.out.size
            clear hc hg
            have q5 : IntKind.i64.wrap (50 + (u : Int)) = 50 + (u : Int) := IntWalk.i64_in _ (by omega)
            by_cases hc : (l.length : Int) < 50 + (u : Int)
            · have t5 : decide ((l.length : Int) < 50 + (u : Int)) = true := by simpa using hc
              have hl50 : l.length ≤ 50 := by omega
              have hown := (S6.out.alloc (.cells #[.int .i64 7] 3)).own
              clear hc
              go_wp2_with (at_builtin; (refine wpList_append_own _ rfl _ _ 28 rfl w.heap.size 3 i0 (.int .i64 0) 1 8 Try.underlying28 hi hy0 hy1 hy2 rfl (by decide) _ _ _ rfl hown ⟨w6.heap.size, 0, none⟩ 1 1 [.int .i64 7] rfl rfl (cell_one_new _ _ _) (by simp [Value.oneCell']) (by unfold maxLen; omega) (by omega) (by simp; omega) ?_; intro v9 w9 hown' hgrow _))
              have S7 := Lib.hid ((S6.out.alloc (.cells #[.int .i64 7] 3)).app hown' hgrow)
              obtain ⟨a9, c9, rfl⟩ := (Rs.of_own hown').shape
              clear hown hown' hgrow
              go_roundw
              case rel => exact ⟨kk + 2, l ++ [7], by simp; omega, by simp; omega, by simpa [intVs, Nat.add_assoc] using S7⟩
              case measure => simp [lenV]; omega
            · have t5 : decide ((l.length : Int) < 50 + (u : Int)) = false := by simpa using hc
              clear hc
              go_wp2
              go_ret
              exact ⟨_, l, rfl, S6.out.more (by omega), by omega⟩
        · have t1 : ((r : Int) == 1) = false := by rw [beq_eq_false_iff_ne]; omega
          clear e1
          go_wp2
          go_ret
          exact ⟨_, l, rfl, S9.out.more (by omega), by omega⟩
end Go.Proofs.Ytoamhbobcpljpaa
