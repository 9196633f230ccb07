/- The walks of impl.IsLine and spec.l2Line. Condition: sizes. -/
import Derived.Test.YtmmjbdffpgohdaaDoorLineMath
import Derived.RegionTactic
import Derived.ChangeAlike
namespace Go.Proofs.YtmmjbdffpgohdaaDoor
open Go.RowKit
set_option linter.unusedVariables false
theorem inYes (x lo hi : Int) (w : World) (h1 : lo ≤ x) (h2 : x ≤ hi) :
    Calls Tryd.prog 33 #[.int .i64 x, .int .i64 lo, .int .i64 hi] w fun e w' => e = .returned (.bool true) ∧ w = w' := by
  go_enter Tryd.func33, Tryd.ntmps33
  go_wp2
  go_ret
  exact ⟨rfl, rfl⟩
theorem inNo (x lo hi : Int) (w : World) (h : x < lo ∨ hi < x) :
    Calls Tryd.prog 33 #[.int .i64 x, .int .i64 lo, .int .i64 hi] w fun e w' => e = .returned (.bool false) ∧ w = w' := by
  by_cases h1 : lo ≤ x
  · have h3 : decide (x ≤ hi) = false := by simp; omega
    clear h
    go_enter Tryd.func33, Tryd.ntmps33
    go_wp2
    go_ret
    exact ⟨rfl, rfl⟩
  · clear h
    go_enter Tryd.func33, Tryd.ntmps33
    go_wp2
    go_ret
    exact ⟨rfl, rfl⟩
theorem q_yes (x lo hi : Int) (w : World) (n : Nat) (h1 : lo ≤ x) (h2 : x ≤ hi) :
    Calls Tryd.prog 33 #[.int .i64 x, .int .i64 lo, .int .i64 hi] (w.drewN n) fun e w' => e = .returned (.bool true) ∧ ∃ m, w' = w.drewN m :=
  (inYes x lo hi (w.drewN n) h1 h2).mono fun _ _ ⟨he, hw⟩ => ⟨he, n, hw.symm⟩
theorem q_no (x lo hi : Int) (w : World) (n : Nat) (h : x < lo ∨ hi < x) :
    Calls Tryd.prog 33 #[.int .i64 x, .int .i64 lo, .int .i64 hi] (w.drewN n) fun e w' => e = .returned (.bool false) ∧ ∃ m, w' = w.drewN m :=
  (inNo x lo hi (w.drewN n) h).mono fun _ _ ⟨he, hw⟩ => ⟨he, n, hw.symm⟩
theorem ret_bool {a b : Bool} (h : a = b) : Ending.returned (.bool a) = .returned (.bool b) := by rw [h]
theorem b_no {b : Bool} {P : Prop} (h : Hid (b = true ↔ P)) (g : ¬ P) : false = b := by
  cases b with
  | false => rfl
  | true => exact absurd (h.out.1 rfl) g
theorem b_yes {b : Bool} {P : Prop} (h : Hid (b = true ↔ P)) (g : P) : true = b := (h.out.2 g).symm
set_option maxHeartbeats 4000000 in
theorem l2Line_b (v : Value) (l : List Sup) (b : Bool) (w : World) (hr : Rs w v l.length (sups l)) (hn : l.length ≤ 1048576) (hb : b = true ↔ IsL l) :
    Calls Tryd.prog 20 #[v] w fun e w' => e = .returned (.bool b) ∧ Drew w w' := by
  have HB := Lib.hid hb
  clear hb
  by_cases hlen : 2 ≤ l.length ∧ l.length ≤ 8
  · obtain ⟨h2, h8⟩ := hlen
    obtain ⟨a, oa, ca, rfl, hla, hm, hs⟩ := hr.sup (by omega)
    have HS := Lib.hid hs
    obtain ⟨z0, z1, z2⟩ := hs.zero (by omega)
    obtain ⟨y0, y1, y2⟩ := hs (l.length - 1) (by omega)
    clear hs hr z1 y0 y1
    by_cases e0 : (nth l 0).a = 0
    · cases e1 : (nth l 0).s with
      | false =>
        rw [e0] at z0
        rw [e1] at z2
        have H1 := Lib.hid e1
        clear e0 e1
        go_enter Tryd.func20, Tryd.ntmps20
        go_wp2_with (go_at_call 33; refine (inYes _ _ _ _ (by omega) (by omega)).mono ?_; rintro e w' ⟨rfl, rfl⟩)
        go_ret
        exact ⟨ret_bool (b_no HB (fun hl => by have := hl.s0; rw [H1.out] at this; cases this)), Drew.refl _⟩
      | true =>
        cases e2 : (nth l (l.length - 1)).s with
        | false =>
          rw [e0] at z0
          rw [e1] at z2
          rw [e2] at y2
          have H1 := Lib.hid e2
          clear e0 e1 e2
          go_enter Tryd.func20, Tryd.ntmps20
          go_wp2_with (go_at_call 33; refine (inYes _ _ _ _ (by omega) (by omega)).mono ?_; rintro e w' ⟨rfl, rfl⟩)
          go_ret
          exact ⟨ret_bool (b_no HB (fun hl => by have := hl.sl; rw [H1.out] at this; cases this)), Drew.refl _⟩
        | true =>
          rw [e0] at z0
          rw [e1] at z2
          rw [e2] at y2
          have HE := Lib.hid (And.intro e0 (And.intro e1 e2))
          clear e0 e1 e2
          go_enter Tryd.func20, Tryd.ntmps20
          go_wp2_with (go_at_call 33; refine (inYes _ _ _ _ (by omega) (by omega)).mono ?_; rintro e w' ⟨rfl, rfl⟩)
          go_loopw [4] (fun i wr => ∃ k : Nat, k ≤ l.length ∧ i = .int .i64 k ∧ Drew w wr ∧ Hid (∀ i, i < k → OkAt l i)) (fun i _ => l.length - (intOf i).toNat)
          case atStart => exact ⟨0, Nat.zero_le _, rfl, Drew.refl _, Lib.hid (fun i hi => by omega)⟩
          case round =>
            obtain ⟨k, hk, rfl, hd, HO⟩ := hrel
            clear z0 z2 y2
            by_cases hlt : k < l.length
            · have HS1 := Lib.hid (HS.out.drew hd)
              by_cases hok : OkAt l k
              · have HO1 : Hid (∀ i, i < k + 1 → OkAt l i) := Lib.hid (fun i hi => by
                  by_cases e : i = k
                  · subst e; exact hok
                  · exact HO.out i (by omega))
                obtain ⟨o1, o2, o3, o4, o5⟩ := hok
                by_cases hp : 0 < k
                · obtain ⟨c0, c1, c2⟩ := HS1.out k hlt
                  have b0 := (HS1.out (k - 1) (by omega)).1
                  have o5 := o5 hp
                  clear c2
                  generalize (nth l k).a = A at *
                  generalize (nth l k).h = B at *
                  generalize (nth l (k - 1)).a = C at *
                  have hgt : (0 : Int) < (k : Int) := by omega
                  obtain ⟨p1, p2, p3⟩ := pred_in k hp (by omega)
                  go_wp2_with fail
                  go_quiet ((go_at_call 33; exact q_yes _ _ _ _ _ (by assumption) (by assumption)))
                  clear p1 p3
                  go_wp2
                  go_roundw
                  case rel => exact ⟨k + 1, by omega, by go_num, hd.more _, HO1⟩
                  case measure => simp [intOf]; omega
                · obtain rfl : k = 0 := by omega
                  clear o5
                  obtain ⟨c0, c1, c2⟩ := HS1.out.zero (by omega)
                  generalize (nth l 0).a = A at *
                  generalize (nth l 0).h = B at *
                  have hgt : decide ((0 : Int) < ((0 : Nat) : Int)) = false := by simp
                  go_wp2_with fail
                  go_quiet ((go_at_call 33; exact q_yes _ _ _ _ _ (by assumption) (by assumption)))
                  go_wp2
                  go_roundw
                  case rel => exact ⟨0 + 1, by omega, by go_num, hd.more _, HO1⟩
                  case measure => simp [intOf]; omega
              · have HN : Hid (¬ IsL l) := Lib.hid (fun hl => hok (hl.ok k hlt))
                obtain ⟨c0, c1, c2⟩ := HS1.out k hlt
                clear c2
                rcases okAt_cases hok with hq | ⟨o1, o2, hq⟩ | ⟨o1, o2, o3, o4, hp, hq⟩
                · clear hok
                  generalize (nth l k).a = A at *
                  generalize (nth l k).h = B at *
                  go_wp2_with fail
                  go_quiet ((go_at_call 33; exact q_no _ _ _ _ _ (by assumption)))
                  go_wp2
                  go_ret
                  exact ⟨ret_bool (b_no HB HN.out), hd.more _⟩
                · clear hok
                  generalize (nth l k).a = A at *
                  generalize (nth l k).h = B at *
                  go_wp2_with fail
                  go_quiet ((first | (go_at_call 33; exact q_yes _ _ _ _ _ (by assumption) (by assumption)) | (go_at_call 33; exact q_no _ _ _ _ _ (by assumption))))
                  go_wp2
                  go_ret
                  exact ⟨ret_bool (b_no HB HN.out), hd.more _⟩
                · clear hok
                  have b0 := (HS1.out (k - 1) (by omega)).1
                  generalize (nth l k).a = A at *
                  generalize (nth l k).h = B at *
                  generalize (nth l (k - 1)).a = C at *
                  have hgt : (0 : Int) < (k : Int) := by omega
                  obtain ⟨p1, p2, p3⟩ := pred_in k hp (by omega)
                  go_wp2_with fail
                  go_quiet ((go_at_call 33; exact q_yes _ _ _ _ _ (by assumption) (by assumption)))
                  clear p1 p3
                  go_wp2
                  go_ret
                  exact ⟨ret_bool (b_no HB HN.out), hd.more _⟩
            · go_wp2
              go_ret
              exact ⟨ret_bool (b_yes HB ⟨h2, h8, HE.out.1, HE.out.2.1, HE.out.2.2, fun i hi => HO.out i (by omega)⟩), hd⟩
    · have HN : Hid (¬ IsL l) := Lib.hid (fun hl => e0 hl.a0)
      have e1 : ((nth l 0).a != 0) = true := by simpa using e0
      clear e0
      generalize (nth l 0).a = A at *
      go_enter Tryd.func20, Tryd.ntmps20
      go_wp2_with (go_at_call 33; refine (inYes _ _ _ _ (by omega) (by omega)).mono ?_; rintro e w' ⟨rfl, rfl⟩)
      go_ret
      exact ⟨ret_bool (b_no HB HN.out), Drew.refl _⟩
  · obtain ⟨a, ca, rfl⟩ := hr.shape
    have hq : (l.length : Int) < 2 ∨ 8 < (l.length : Int) := by omega
    clear hr
    go_enter Tryd.func20, Tryd.ntmps20
    go_wp2_with (go_at_call 33; refine (inNo _ _ _ _ hq).mono ?_; rintro e w' ⟨rfl, rfl⟩)
    go_ret
    exact ⟨ret_bool (b_no HB (fun hl => hlen ⟨hl.two, hl.eight⟩)), Drew.refl _⟩
end Go.Proofs.YtmmjbdffpgohdaaDoor
