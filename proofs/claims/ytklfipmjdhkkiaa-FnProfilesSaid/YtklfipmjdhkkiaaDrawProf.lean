/- The draws of profiles, speeds and accelerations. Condition: sizes. -/
import Derived.Test.YtklfipmjdhkkiaaDrawKit
import Derived.Test.YtklfipmjdhkkiaaProfK
import Derived.Deep.RegionHeld3
import Derived.Deep.LoopGhost
namespace Go.Proofs.Ytklfipmjdhkkiaa
open Go.RowKit
set_option linter.unusedVariables false
theorem Cur.drew9 {B b k : Nat} {w : World} (h : Cur B b k w) : Cur B b k w.drew := h.grown (row := none) ⟨rfl, rfl, rfl, Nat.le_refl _, fun _ _ _ => rfl⟩ (fun j hj => by cases hj)
theorem gr9_al {w W : World} {row : Option Nat} (h : w.grownBy W row) (o : Obj) : w.grownBy (W.alloc o) row := grown_trans h (World.grownBy_alloc W o row)
theorem gr9_drew {w W : World} {row : Option Nat} (h : w.grownBy W row) : w.grownBy W.drew row := grown_trans h ⟨rfl, rfl, rfl, Nat.le_refl _, fun _ _ _ => rfl⟩
abbrev StI (B b k : Nat) (w W : World) (v : Value) (l : List Int) : Prop := St 3 1 B b k w W v l.length (intVs l)
def NumPost (lo hi : Int) (B b k : Nat) (w : World) (e : Ending) (w' : World) : Prop := ∃ q : Int, e = .returned (.int .i64 q) ∧ (lo ≤ q ∧ q ≤ hi) ∧ Cur B b (k + 2) w' ∧ w.grownBy w' (some b)
def PfPost (B b k : Nat) (w : World) (e : Ending) (w' : World) : Prop := ∃ (v : Value) (l : List Int), e = .returned v ∧ StI B b (k + 100) w w' v l ∧ l.length ≤ 31
theorem PfPost.mk {B b k kk n : Nat} {w w' : World} {v : Value} {l : List Int} (h : St 3 1 B b (k + kk) w w' v n (intVs l)) (hn : l.length = n) (hk : kk ≤ 100) (h1 : n ≤ 31) : PfPost B b k w (.returned v) w' := by
  subst hn
  exact ⟨v, l, rfl, h.more (by omega), h1⟩
theorem StI.shape {B b k n : Nat} {w W : World} {v : Value} {l : List Int} (h : St 3 1 B b k w W v n (intVs l)) (h0 : 0 < n) : ∃ g cap, v = .slice (some ⟨g, 0, none⟩) n cap ∧ w.heap.size ≤ g ∧ g < W.heap.size ∧ n ≤ cap ∧ cap ≤ maxLen := by
  rcases own_form h.own with ⟨h1, _⟩ | ⟨g, cap, rfl, hb, hg, hc, hm⟩
  · omega
  · exact ⟨g, cap, rfl, hb, hg, hc, hm⟩
def Bd9 (l : List Int) : Prop := ∀ x ∈ l, 0 ≤ x ∧ x ≤ 100
theorem Bd9.app {l : List Int} (h : Bd9 l) {x : Int} (hx : 0 ≤ x ∧ x ≤ 100) : Bd9 (l ++ [x]) := by
  intro y hy
  rcases List.mem_append.1 hy with h1 | h1
  · exact h y h1
  · simp at h1; subst h1; exact hx
set_option maxRecDepth 100000 in
set_option maxHeartbeats 1000000 in
theorem rate9_any (B b k : Nat) (w : World) (h : Cur B b k w) (hk : k ≤ 700000000) :
    Calls Try.prog 41 #[.pointer (some ⟨b, 0, none⟩)] w (NumPost 0 21 B b k w) := by
  have hbw := h.2.1
  have HH := Lib.hid h
  clear h
  go_enter Try.func41, Try.ntmps41
  go_wp2_with fail
  refine (among_any B b k w.heap.size 9 9 [1, 2, 5, 5, 10, 20, 3, 0, 21] _ (HH.out.alloc _) (by omega) rfl (by omega) (by omega) (by omega) (num_cells w 3 [1, 2, 5, 5, 10, 20, 3, 0, 21] _ rfl)).mono ?_
  rintro e w1 ⟨q, hx, rfl, hc, hg⟩
  have hb : 0 ≤ q ∧ q ≤ 21 := by simp at hx; omega
  have HC := Lib.hid hc
  have HG := Lib.hid (grown_trans (World.grownBy_alloc w _ (some b)) hg)
  clear hc hg hx
  go_wp2_with fail
  go_ret
  exact ⟨q, rfl, hb, HC.out, HG.out⟩
set_option maxRecDepth 100000 in
set_option maxHeartbeats 1000000 in
theorem speed9_any (B b k : Nat) (w : World) (h : Cur B b k w) (hk : k ≤ 700000000) :
    Calls Try.prog 38 #[.pointer (some ⟨b, 0, none⟩)] w (NumPost (-1) 101 B b k w) := by
  have hbw := h.2.1
  have HH := Lib.hid h
  clear h
  go_enter Try.func38, Try.ntmps38
  go_wp2_with fail
  refine (among_any B b k w.heap.size 10 10 [0, 0, 3, 10, 25, 50, 77, 100, 101, -1] _ (HH.out.alloc _) (by omega) rfl (by omega) (by omega) (by omega) (num_cells w 3 [0, 0, 3, 10, 25, 50, 77, 100, 101, -1] _ rfl)).mono ?_
  rintro e w1 ⟨q, hx, rfl, hc, hg⟩
  have hb : (-1) ≤ q ∧ q ≤ 101 := by simp at hx; omega
  have HC := Lib.hid hc
  have HG := Lib.hid (grown_trans (World.grownBy_alloc w _ (some b)) hg)
  clear hc hg hx
  go_wp2_with fail
  go_ret
  exact ⟨q, rfl, hb, HC.out, HG.out⟩
set_option maxRecDepth 100000 in
set_option maxHeartbeats 4000000 in
theorem profile9_any (B b k : Nat) (w : World) (h : Cur B b k w) (hk : k ≤ 700000000) :
    Calls Try.prog 37 #[.pointer (some ⟨b, 0, none⟩)] w (PfPost B b k w) := by
  obtain ⟨i0, hi, hz0, hz1, hz2⟩ := info_parts Try.infoIntR
  have hb := h.2.1
  have HH := Lib.hid h
  clear h
  go_enter Try.func37, Try.ntmps37
  go_wp2_with fail
  refine (among_any B b k w.heap.size 5 5 [0, 0, 10, 50, 100] _ (HH.out.alloc _) (by omega) rfl (by omega) (by omega) (by omega) (num_cells w 3 [0, 0, 10, 50, 100] _ rfl)).mono ?_
  rintro e w1 ⟨x, hx, rfl, hc, hg⟩
  have hxb : 0 ≤ x ∧ x ≤ 100 := by simp at hx; omega
  have hg1 := grown_trans (World.grownBy_alloc w (.cells #[.int .i64 0, .int .i64 0, .int .i64 10, .int .i64 50, .int .i64 100] 3) (some b)) hg
  have S2 : Hid (StI B b (k + 2) w (w1.alloc (.cells #[.int .i64 x] 3)) (.slice (some ⟨w1.heap.size, 0, none⟩) 1 1) [x]) :=
    Lib.hid ⟨hc.alloc _, World.ownsRow_lit w1 #[.int .i64 x] 1 hg1.size (by unfold maxLen; omega) rfl, grown_trans hg1 (World.grownBy_alloc w1 _ _), hb⟩
  clear hx hc hg hg1 HH
  go_wp2_with fail
  refine (pick_any B b (k + 2) 12 _ S2.out.cur (by omega) (by omega) (by omega)).mono ?_
  rintro e w4 ⟨r, rfl, hr, hc, hg⟩
  have S4 := Lib.hid (S2.out.call hc hg)
  clear S2 hc hg
  have hB0 : Bd9 [x] := fun y hy => by simp at hy; subst hy; exact hxb
  go_wp2
  go_loopw [3, 4] (fun v n wr => ∃ (m kk c : Nat) (l : List Int), n = .int .i64 (m : Int) ∧ l.length = c ∧ (1 ≤ c ∧ c + m ≤ 12) ∧ kk + 2 * m ≤ 30 ∧ Bd9 l ∧ Hid (St 3 1 B b (k + kk) w wr v c (intVs l))) (fun _ n _ => (intOf n).toNat)
  case atStart => exact ⟨r, 4, 1, [x], rfl, rfl, by omega, by omega, hB0, S4⟩
  case round =>
    obtain ⟨m, kk, c, l, rfl, hlc, hl, hkk, hBd, S5⟩ := hrel
    obtain ⟨g, cap, rfl, hwg, hg5, hcl, hcm⟩ := StI.shape S5.out (by omega)
    have HLC := Lib.hid hlc
    by_cases hm : 0 < m
    · have hmi : (0 : Int) < (m : Int) := by omega
      have hbw := S5.out.cur.2.1
      have hX : 0 ≤ l.getD (c - 1) 0 ∧ l.getD (c - 1) 0 ≤ 100 := hBd _ (at_mem (by omega))
      have c0 : wr.cell? ⟨g, c - 1, none⟩ = some (.int .i64 (l.getD (c - 1) 0)) := (S5.out.own.cellAt (c - 1) (by omega)).trans (int_at (by omega))
      have hBd5 := Lib.hid hBd
      clear hlc hBd
      generalize l.getD (c - 1) 0 = X at *
      obtain ⟨p1, p2, p3⟩ := pred_in c (by omega) (by omega)
      have t1 : (c : Int) - 1 < (c : Int) := by omega
      have t2 : (1 : Int) ≤ (c : Int) := by omega
      have t3 : (0 : Int) < (c : Int) := by omega
      have t4 : 0 < c := by omega
      have hgb : g ≠ b := by omega
      have HC0 := Lib.hid c0
      go_wp2_with fail
      go_region_held3 (fun w' => w'.cell? ⟨g, c - 1, none⟩ = some (.int .i64 X))
        (first | go_keep | exact grown_cell G6 HC0.out (by simp; exact hgb))
        (first
          | (go_at_call 56; refine (among_any B b (k + kk) wr.heap.size 9 9 [0, 0, 5, -5, 10, -10, 20, -20, 3] _ (by first | exact (S5.out.cur.alloc _).drew9 | exact S5.out.cur.drew9.alloc _ | exact S5.out.cur.alloc _ | fail) (by omega) rfl (by omega) (by omega) (by omega) (by exact fun i h => (num_cells wr 3 [0, 0, 5, -5, 10, -10, 20, -20, 3] #[.int .i64 0, .int .i64 0, .int .i64 5, .int .i64 (-5), .int .i64 10, .int .i64 (-10), .int .i64 20, .int .i64 (-20), .int .i64 3] rfl i h : (wr.alloc (.cells #[.int .i64 0, .int .i64 0, .int .i64 5, .int .i64 (-5), .int .i64 10, .int .i64 (-10), .int .i64 20, .int .i64 (-20), .int .i64 3] 3)).cell? ⟨wr.heap.size, i, none⟩ = _))).mono ?_; rintro e W6 ⟨y, hy, rfl, hc6, hg6⟩; have hyb : -20 ≤ y ∧ y ≤ 20 := (by simp at hy; omega); have G6 : wr.grownBy W6 (some b) := grown_trans (by (repeat (first | with_reducible exact World.grownBy.refl _ _ | with_reducible refine gr9_drew ?_ | with_reducible refine gr9_al ?_ _)); first | done | fail) hg6; have q6 : IntKind.i64.wrap (X + y) = X + y := IntWalk.i64_in _ (by omega))
          | fail)
      have S6 := Lib.hid (S5.out.call hc6 G6)
      clear S5 hc6 hg6 G6 HC0 hy p1 p2 p3 t1 t2
      have hyb := hyb
      obtain ⟨V, hV⟩ : ∃ V, V = (if 100 < X + y then 100 else X + y) := ⟨_, rfl⟩
      obtain ⟨Z, hZ⟩ : ∃ Z, Z = (if V < 0 then 0 else V) := ⟨_, rfl⟩
      have hZb : 0 ≤ Z ∧ Z ≤ 100 := by rw [hZ, hV]; split <;> split <;> omega
      have E1 := Lib.hid (fun W => least9_c 100 (X + y) W)
      have E2 := Lib.hid (fun W => most9_c 0 V W)
      have HV1 : Hid ((if 100 < X + y then (100 : Int) else X + y) = V) := Lib.hid hV.symm
      have HZ1 : Hid ((if V < 0 then (0 : Int) else V) = Z) := Lib.hid hZ.symm
      rw [HV1.out] at E1
      rw [HZ1.out] at E2
      clear hV hZ HV1 HZ1
      go_wp2_with fail
      refine (E1.out _).mono ?_
      rintro e w7 ⟨rfl, rfl⟩
      go_wp2_with fail
      refine (E2.out _).mono ?_
      rintro e w8 ⟨rfl, rfl⟩
      have hown := (S6.out.alloc (.cells #[.int .i64 Z] 3)).own
      have S7 := Lib.hid (S6.out.alloc (.cells #[.int .i64 Z] 3))
      have hsz := S7.out.size
      have hsz6 := S6.out.size
      clear S6
      go_wp2_with (at_builtin; go_loud (refine wpList_append_own _ rfl _ _ 24 rfl w.heap.size 3 i0 (.int .i64 0) 1 8 Try.underlying24 hi hz0 hz1 hz2 rfl (by decide) _ _ _ rfl hown ⟨w8.heap.size, 0, none⟩ 1 1 [.int .i64 Z] rfl rfl (cell_one_new _ _ _) (by simp [Value.oneCell']) (by unfold maxLen; omega) (by omega) (by simp; omega) ?_; intro v' w9 hown' hgrow _))
      go_roundw
      case rel =>
        exact ⟨m - 1, kk + 2, c + 1, l ++ [Z], by go_num, by rw [List.length_append, HLC.out]; rfl, by omega, by omega, hBd5.out.app hZb, Lib.hid (by
          have h9 := (St.app S7.out hown' hgrow).more (k' := k + (kk + 2)) (by omega)
          rw [iv_one]
          exact h9)⟩
      case measure => simp [intOf]; omega
    · obtain rfl : m = 0 := by omega
      clear hlc hBd
      go_wp2_with fail
      refine (pick_any B b (k + kk) 32 _ S5.out.cur (by omega) (by omega) (by omega)).mono ?_
      rintro e w8 ⟨r8, rfl, hr8, hc, hg⟩
      have S8 := Lib.hid (S5.out.call hc hg)
      clear S5 hc hg
      by_cases c0 : r8 = 0
      · have t0 : ((r8 : Int) == 0) = true := by rw [beq_iff_eq]; omega
        go_wp2_with fail
        refine (pick_any B b (k + kk + 2) (c : Int) _ S8.out.cur (by omega) (by omega) (by omega)).mono ?_
        rintro e w9 ⟨r9, rfl, hr9, hc, hg⟩
        have S9 := Lib.hid (S8.out.call hc hg)
        have hbw := S9.out.cur.2.1
        clear S8 hc hg
        go_wp2_with fail
        refine (among_any B b (k + kk + 2 + 2) w9.heap.size 3 3 [-1, 101, 100] _ (S9.out.cur.alloc _) (by omega) rfl (by omega) (by omega) (by omega) (num_cells w9 3 [-1, 101, 100] _ rfl)).mono ?_
        rintro e wa ⟨y, hy, rfl, hc, hg⟩
        have Sa := Lib.hid ((S9.out.alloc (.cells #[.int .i64 (-1), .int .i64 101, .int .i64 100] 3)).call hc hg)
        clear S9 hc hg hy
        have hr9n : r9 < c := by omega
        have k0 := (Sa.out.own.cellAt r9 (by omega)).trans (int_at (l := l) (by rw [HLC.out]; exact hr9n))
        have f0 := Sa.out.own.frozenAt r9
        have q1 := Sa.out.own.stored r9 (.int .i64 y)
        have q2 := q1.1
        rw [iv_set] at q2
        have SB := Lib.hid (St.app Sa.out q2 q1.2)
        clear q1 q2 Sa
        go_wp2
        go_ret
        exact PfPost.mk (kk := kk + 6) (l := l.set r9 y) (by exact SB.out) (by rw [List.length_set, HLC.out]) (by omega) (by omega)
      · by_cases c1 : r8 = 1
        · have t0 : ((r8 : Int) == 0) = false := by rw [beq_eq_false_iff_ne]; omega
          have t1 : ((r8 : Int) == 1) = true := by rw [beq_iff_eq]; omega
          have SB : Hid (St 3 1 B b (k + (kk + 2)) w (w8.alloc (.cells #[] 3)) (.slice (some ⟨w8.heap.size, 0, none⟩) 0 0) 0 (intVs [])) := Lib.hid ⟨S8.out.cur.alloc _, World.ownsRow_made w8 #[] 0 S8.out.size (by decide) rfl, gr9_al S8.out.gr _, S8.out.lt⟩
          clear S8
          go_wp2
          go_ret
          exact PfPost.mk (kk := kk + 2) (l := []) SB.out rfl (by omega) (by omega)
        · by_cases c2 : r8 = 2
          · have t0 : ((r8 : Int) == 0) = false := by rw [beq_eq_false_iff_ne]; omega
            have t1 : ((r8 : Int) == 1) = false := by rw [beq_eq_false_iff_ne]; omega
            have t2 : ((r8 : Int) == 2) = true := by rw [beq_iff_eq]; omega
            have S9 : Hid (St 3 1 B b (k + (kk + 2)) w w8 (.slice (some ⟨g, 0, none⟩) c cap) c (intVs l)) := S8
            clear S8
            go_wp2_with fail
            go_loopg [3] 32 (fun M v wr => ∃ (kk c : Nat) (l : List Int), l.length = c ∧ (1 ≤ c ∧ c ≤ 31) ∧ kk ≤ 32 + 2 * c ∧ 32 - c ≤ M ∧ Hid (St 3 1 B b (k + kk) w wr v c (intVs l)))
            case atStart => exact ⟨kk + 2, c, l, HLC.out, by omega, by omega, by omega, S9⟩
            case round =>
              obtain ⟨k1, c1, l1, hlc1, hl1, hk1, hM, T1⟩ := hrel
              obtain ⟨g6, cap6, rfl, hwg6, hg6, hcl6, hcm6⟩ := StI.shape T1.out (by omega)
              have HLC1 := Lib.hid hlc1
              clear hlc1
              go_wp2_with fail
              refine (pick_any B b (k + k1) 2 _ T1.out.cur (by omega) (by omega) (by omega)).mono ?_
              rintro e wb ⟨r9, rfl, hr9, hc, hg⟩
              have T2 := Lib.hid (T1.out.call hc hg)
              clear T1 hc hg
              by_cases hlt : c1 < 30 + r9
              · have hlt' : (c1 : Int) < 30 + (r9 : Int) := by omega
                have hown := (T2.out.alloc (.cells #[.int .i64 40] 3)).own
                have T3 := Lib.hid (T2.out.alloc (.cells #[.int .i64 40] 3))
                have hsz := T3.out.size
                have hsz2 := T2.out.size
                clear T2
                go_wp2_with (at_builtin; go_loud (refine wpList_append_own _ rfl _ _ 24 rfl w.heap.size 3 i0 (.int .i64 0) 1 8 Try.underlying24 hi hz0 hz1 hz2 rfl (by decide) _ _ _ rfl hown ⟨wb.heap.size, 0, none⟩ 1 1 [.int .i64 40] rfl rfl (cell_one_new _ _ _) (by simp [Value.oneCell']) (by unfold maxLen; omega) (by omega) (by simp; omega) ?_; intro v' w9 hown' hgrow _))
                go_roundg (31 - c1)
                case measure => omega
                case rel =>
                  exact ⟨k1 + 2, c1 + 1, l1 ++ [40], by rw [List.length_append, HLC1.out]; rfl, by omega, by omega, by omega, Lib.hid (by
                    have h9 := (St.app T3.out hown' hgrow).more (k' := k + (k1 + 2)) (by omega)
                    rw [iv_one]
                    exact h9)⟩
              · have hge : ¬ (c1 : Int) < 30 + (r9 : Int) := by omega
                go_wp2
                go_ret
                exact PfPost.mk (kk := k1 + 2) T2.out HLC1.out (by omega) (by omega)
          · have t0 : ((r8 : Int) == 0) = false := by rw [beq_eq_false_iff_ne]; omega
            have t1 : ((r8 : Int) == 1) = false := by rw [beq_eq_false_iff_ne]; omega
            have t2 : ((r8 : Int) == 2) = false := by rw [beq_eq_false_iff_ne]; omega
            go_wp2
            go_ret
            exact PfPost.mk (kk := kk + 2) S8.out HLC.out (by omega) (by omega)
end Go.Proofs.Ytklfipmjdhkkiaa
