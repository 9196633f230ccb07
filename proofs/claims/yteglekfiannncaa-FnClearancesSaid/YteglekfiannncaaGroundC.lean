/- What a ground is: the program's and the specification's answer as one function. Condition: sizes. -/
import Derived.Test.YteglekfiannncaaSagSpecC
import Derived.Test.YteglekfiannncaaGPS
namespace Go.Proofs.Yteglekfiannncaa
open Go.RowKit
set_option linter.unusedVariables false
/-- What a ground's point must keep. -/
def GOk (g : List GP) (i : Nat) : Prop := (0 ≤ (gth g i).h ∧ (gth g i).h ≤ 2000) ∧ (0 < i → (gth g (i - 1)).a < (gth g i).a)
/-- A line and a ground below it. -/
structure IsG (l : List Sup) (g : List GP) : Prop where
  line : IsL l
  two : 2 ≤ g.length
  eight : g.length ≤ 8
  ok : ∀ i, i < g.length → GOk g i
  zero : (gth g 0).a = 0
  last : (gth g (g.length - 1)).a = (nth l (l.length - 1)).a
noncomputable def isG (l : List Sup) (g : List GP) : Bool := @decide (IsG l g) (Classical.propDecidable _)
theorem isG_iff (l : List Sup) (g : List GP) : isG l g = true ↔ IsG l g := by simp [isG]
theorem q_within (x lo hi : Int) (b : Bool) (h : inR x lo hi = b) (w : World) (n : Nat) :
    Calls Try.prog 83 #[.int .i64 x, .int .i64 lo, .int .i64 hi] (w.drewN n) fun e w'' => e = .returned (.bool b) ∧ ∃ m, w'' = w.drewN m :=
  (within_c x lo hi _).mono fun _ _ ⟨he, hw⟩ => ⟨by rw [← h]; exact he, n, hw⟩
theorem q_l1In (x lo hi : Int) (b : Bool) (h : inR x lo hi = b) (w : World) (n : Nat) :
    Calls Try.prog 91 #[.int .i64 x, .int .i64 lo, .int .i64 hi] (w.drewN n) fun e w'' => e = .returned (.bool b) ∧ ∃ m, w'' = w.drewN m :=
  (l1In_c x lo hi _).mono fun _ _ ⟨he, hw⟩ => ⟨by rw [← h]; exact he, n, hw⟩
set_option maxRecDepth 100000 in
set_option maxHeartbeats 4000000 in
theorem IsGround_b (v0 v1 : Value) (l : List Sup) (g : List GP) (b : Bool) (w : World) (hr0 : Rs w v0 l.length (sups l)) (hr1 : Rs w v1 g.length (gps g)) (hn : l.length ≤ 1048576) (hng : g.length ≤ 1048576) (hb : b = true ↔ IsG l g) :
    Calls Try.prog 19 #[v0, v1] w fun e w' => e = .returned (.bool b) ∧ Below w.heap.size w w' := by
  have HB := Lib.hid hb
  clear hb
  have HC := Lib.hid (implIsLine_c v0 l w hr0 hn)
  cases hl : isL l with
  | false =>
    rw [hl] at HC
    have HN : Hid (¬ IsG l g) := Lib.hid (fun h => by have := (isL_iff l).2 h.line; rw [hl] at this; cases this)
    clear hl hr0
    obtain ⟨a1, ca1, rfl⟩ := hr1.shape
    clear hr1
    go_enter Try.func19, Try.ntmps19
    go_wp2_with fail
    refine HC.out.mono ?_
    rintro e w1 ⟨rfl, b1⟩
    go_wp2
    go_ret
    exact ⟨ret_b (b_no HB HN.out), b1⟩
  | true =>
    rw [hl] at HC
    have hL := isL_yes hl
    have h2 := hL.two
    have h8 := hL.eight
    have E1 := Lib.hid (fun W => within_c (g.length : Int) 2 8 W)
    by_cases hlen : 2 ≤ g.length ∧ g.length ≤ 8
    · have hin : inR (g.length : Int) 2 8 = true := by rw [inR_iff]; omega
      rw [hin] at E1
      obtain ⟨hg2, hg8⟩ := hlen
      obtain ⟨a, oa, ca, rfl, hla, hm, hs⟩ := hr0.sup (by omega)
      obtain ⟨ga, go, gc, rfl, hga, hgm, hgs⟩ := hr1.at_GP (by omega)
      have HA := Lib.hid hs
      have HG := Lib.hid hgs
      have HLn := Lib.hid hL
      have HY : Hid ((∀ i, i < g.length → GOk g i) → (gth g 0).a = 0 → (gth g (g.length - 1)).a = (nth l (l.length - 1)).a → IsG l g) := Lib.hid (fun h1 h3 h4 => ⟨hL, hg2, hg8, h1, h3, h4⟩)
      clear hr0 hr1 hl hs hgs hin hL
      go_enter Try.func19, Try.ntmps19
      go_wp2_with fail
      refine HC.out.mono ?_
      rintro e w1 ⟨rfl, b1⟩
      have B1 := Lib.hid b1
      clear b1 HC
      go_wp2_with fail
      refine (E1.out _).mono ?_
      rintro e w2 ⟨rfl, rfl⟩
      go_wp2
      go_loopw [18] (fun i wr => ∃ j : Nat, j ≤ g.length ∧ i = .int .i64 j ∧ Hid (Below w.heap.size w wr) ∧ Hid (∀ i, i < j → GOk g i)) (fun i _ => g.length - (intOf i).toNat)
      case atStart => exact ⟨0, Nat.zero_le _, rfl, B1, Lib.hid (fun i hi => by omega)⟩
      case round =>
        obtain ⟨j, hj, rfl, hbl, HO⟩ := hrel
        have hszr := hbl.out.size
        by_cases hlt : j < g.length
        · obtain ⟨c0, c1⟩ := (HG.out.below hbl.out hga) j hlt
          have hgaw : ga < wr.heap.size := by omega
          have HN : Hid (¬ GOk g j → ¬ IsG l g) := Lib.hid (fun h k => h (k.ok j hlt))
          have HO1 : Hid (GOk g j → ∀ i, i < j + 1 → GOk g i) := Lib.hid (fun h i hi => by
            by_cases e : i = j
            · subst e; exact h
            · exact HO.out i (by omega))
          have HAl : Hid (Below w.heap.size w (wr.alloc (.cells #[.int .i64 (gth g j).a, .int .i64 (gth g j).h] 38))) := Lib.hid (hbl.out.alloc hbl.out.size _)
          have HGO : Hid (GOk g j ↔ (0 ≤ (gth g j).h ∧ (gth g j).h ≤ 2000) ∧ (0 < j → (gth g (j - 1)).a < (gth g j).a)) := Lib.hid Iff.rfl
          have HP := Lib.hid (fun hp : 0 < j => (HG.out.below hbl.out hga) (j - 1) (by omega))
          have hbi := inR_iff (gth g j).h 0 2000
          generalize gth g j = D at *
          generalize gth g (j - 1) = F at *
          generalize GOk g j = OKj at *
          by_cases hh : 0 ≤ D.h ∧ D.h ≤ 2000
          · have hin : inR D.h 0 2000 = true := hbi.2 hh
            clear hbi
            by_cases hp : 0 < j
            · obtain ⟨f0, f1⟩ := HP.out hp
              obtain ⟨p1, p2, p3⟩ := pred_in j hp (by omega)
              have hpi : (0 : Int) < (j : Int) := by omega
              have hji : (j : Int) - 1 < (g.length : Int) := by omega
              have hjn : j - 1 < g.length := by omega
              by_cases hlt2 : F.a < D.a
              · go_wp2_with fail
                go_quiet ((go_at_call 83; exact q_within _ _ _ _ hin _ _))
                clear p1 p2 p3
                go_wp2
                go_roundw
                case rel => exact ⟨j + 1, by omega, by go_num, Lib.hid (below_drewN HAl.out _), Lib.hid (HO1.out (HGO.out.2 ⟨hh, fun _ => hlt2⟩))⟩
                case measure => simp [intOf]; omega
              · have hlt2' := Lib.hid hlt2
                go_wp2_with fail
                go_quiet ((go_at_call 83; exact q_within _ _ _ _ hin _ _))
                clear p1 p2 p3
                go_wp2
                go_ret
                exact ⟨ret_b (b_no HB (HN.out (fun h => by have := (HGO.out.1 h).2 hp; have := hlt2'.out; omega))), below_drewN HAl.out _⟩
            · have hj0 : (j : Int) ≤ 0 := by omega
              go_wp2_with fail
              go_quiet ((go_at_call 83; exact q_within _ _ _ _ hin _ _))
              go_wp2
              go_roundw
              case rel => exact ⟨j + 1, by omega, by go_num, Lib.hid (below_drewN HAl.out _), Lib.hid (HO1.out (HGO.out.2 ⟨hh, fun h => by omega⟩))⟩
              case measure => simp [intOf]; omega
          · have hin : inR D.h 0 2000 = false := by
              cases e : inR D.h 0 2000 with
              | false => rfl
              | true => exact absurd (hbi.1 e) hh
            clear hbi
            go_wp2_with fail
            go_quiet ((go_at_call 83; exact q_within _ _ _ _ hin _ _))
            go_wp2
            go_ret
            exact ⟨ret_b (b_no HB (HN.out (fun h => hh (HGO.out.1 h).1))), below_drewN HAl.out _⟩
        · obtain rfl : j = g.length := by omega
          have hjj : ¬ g.length < g.length := by omega
          obtain ⟨c0, _⟩ := (HG.out.below hbl.out hga) 0 (by omega)
          obtain ⟨c1, _⟩ := (HG.out.below hbl.out hga) (g.length - 1) (by omega)
          obtain ⟨c2, _, _⟩ := (HA.out.below hbl.out hla) (l.length - 1) (by omega)
          obtain ⟨p1, p2, p3⟩ := pred_in g.length (by omega) (by omega)
          obtain ⟨p4, p5, p6⟩ := pred_in l.length (by omega) (by omega)
          have i1 : (g.length : Int) - 1 < (g.length : Int) := by omega
          have i2 : (l.length : Int) - 1 < (l.length : Int) := by omega
          have i3 : g.length - 1 < g.length := by omega
          have i4 : l.length - 1 < l.length := by omega
          have i5 : 0 < g.length := by omega
          have i6 : (0 : Int) < (g.length : Int) := by omega
          have HN1 : Hid ((gth g 0).a ≠ 0 → ¬ IsG l g) := Lib.hid (fun h k => h k.zero)
          have HN2 : Hid ((gth g (g.length - 1)).a ≠ (nth l (l.length - 1)).a → ¬ IsG l g) := Lib.hid (fun h k => h k.last)
          have HYY := Lib.hid (HY.out HO.out)
          simp only [Nat.zero_mul, Nat.add_zero] at c0
          clear HY HO
          generalize (gth g 0).a = X at *
          generalize (gth g (g.length - 1)).a = Y at *
          generalize (nth l (l.length - 1)).a = Z at *
          by_cases hx : X = 0
          · have e1 : (X == 0) = true := by simpa using hx
            by_cases hy : Y = Z
            · have e2 : (Y == Z) = true := by simpa using hy
              go_wp2_with fail
              go_quiet (fail)
              clear p1 p2 p3 p4 p5 p6
              go_wp2
              go_ret
              exact ⟨ret_b (b_yes HB (HYY.out hx hy)), below_drewN hbl.out _⟩
            · have e2 : (Y == Z) = false := by simpa using hy
              go_wp2_with fail
              go_quiet (fail)
              clear p1 p2 p3 p4 p5 p6
              go_wp2
              go_ret
              exact ⟨ret_b (b_no HB (HN2.out hy)), below_drewN hbl.out _⟩
          · have e1 : (X == 0) = false := by simpa using hx
            go_wp2_with fail
            go_quiet (fail)
            clear p1 p2 p3 p4 p5 p6
            go_wp2
            go_ret
            exact ⟨ret_b (b_no HB (HN1.out hx)), below_drewN hbl.out _⟩
    · have hin : inR (g.length : Int) 2 8 = false := by
        cases e : inR (g.length : Int) 2 8 with
        | false => rfl
        | true => have := (inR_iff _ _ _).1 e; omega
      rw [hin] at E1
      have HN : Hid (¬ IsG l g) := Lib.hid (fun h => hlen ⟨h.two, h.eight⟩)
      clear hl hr0 hin hlen
      obtain ⟨a1, ca1, rfl⟩ := hr1.shape
      clear hr1 hL
      go_enter Try.func19, Try.ntmps19
      go_wp2_with fail
      refine HC.out.mono ?_
      rintro e w1 ⟨rfl, b1⟩
      go_wp2_with fail
      refine (E1.out _).mono ?_
      rintro e w2 ⟨rfl, rfl⟩
      go_wp2
      go_ret
      exact ⟨ret_b (b_no HB HN.out), b1⟩
theorem implIsGround_c (v0 : Value) (l : List Sup) (v1 : Value) (g : List GP) (w : World) (hr0 : Rs w v0 l.length (sups l)) (hn : l.length ≤ 1048576) (hr1 : Rs w v1 g.length (gps g)) (hng : g.length ≤ 1048576) :
    Calls Try.prog 19 #[v0, v1] w fun e w' => e = .returned (.bool (isG l g)) ∧ Below w.heap.size w w' :=
  IsGround_b v0 v1 l g _ w hr0 hr1 hn hng (isG_iff l g)
end Go.Proofs.Yteglekfiannncaa
