/- SteepestHeld: the program's and the specification's answer as one function. No condition. -/
import Derived.Test.YtiogjocbiagipaaHoldC
namespace Go.Proofs.Ytiogjocbiagipaa
open Go.RowKit
set_option linter.unusedVariables false
/-- The greatest slope below n on which it holds, or -1. -/
def shP (k : Grp) (a : Int) : Nat → Int
  | 0 => -1
  | n + 1 => if dhV k a n then n else shP k a n
theorem shP_yes {k : Grp} {a : Int} {n : Nat} (h : dhV k a n = true) : shP k a (n + 1) = n := by simp [shP, h]
theorem shP_no {k : Grp} {a : Int} {n : Nat} (h : dhV k a n = false) : shP k a (n + 1) = shP k a n := by simp [shP, h]
def shOk (k : Grp) (a : Int) : Bool := decide (0 ≤ shP k a 101)
def shV (k : Grp) (a : Int) : Int := if 0 ≤ shP k a 101 then shP k a 101 else 0
theorem sh_hit {k : Grp} {a : Int} {n : Nat} (h : shP k a 101 = shP k a (n + 1)) (g : dhV k a n = true) : shV k a = n ∧ shOk k a = true := by
  rw [shP_yes g] at h
  have : (0 : Int) ≤ (n : Int) := by omega
  exact ⟨by unfold shV; rw [h, if_pos this], by unfold shOk; rw [h]; simp⟩
theorem sh_out {k : Grp} {a : Int} (h : shP k a 101 = -1) : shV k a = 0 ∧ shOk k a = false :=
  ⟨by unfold shV; rw [h]; rfl, by unfold shOk; rw [h]; rfl⟩
theorem sh_bad {k : Grp} {a : Int} (h : ∀ s, dhV k a s = false) : shV k a = 0 ∧ shOk k a = false := by
  refine sh_out ?_
  have : ∀ n, shP k a n = -1 := by
    intro n
    induction n with
    | zero => rfl
    | succ n ih => rw [shP_no (h n), ih]
  exact this 101
theorem ret_p2 {a b : Int} {c d : Bool} (h : b = a ∧ d = c) : Ending.returned (.tuple #[.int .i64 a, .bool c]) = .returned (.tuple #[.int .i64 b, .bool d]) := by rw [h.1, h.2]
/-- The slope as the loop has it: one below n. -/
def ShAt (k : Grp) (a : Int) (i : Value) : Prop := (∃ n : Nat, n ≤ 100 ∧ i = .int .i64 (n : Int) ∧ shP k a 101 = shP k a (n + 1)) ∨ (i = .int .i64 (-1) ∧ shP k a 101 = -1)
theorem ShAt.next {k : Grp} {a : Int} {n : Nat} (hn : n ≤ 100) (h : shP k a 101 = shP k a (n + 1)) (g : dhV k a n = false) : ShAt k a (.int .i64 ((n : Int) - 1)) := by
  rw [shP_no g] at h
  cases n with
  | zero => exact .inr ⟨rfl, h⟩
  | succ m => exact .inl ⟨m, by omega, by congr 1; omega, h⟩
theorem dn_in (n : Nat) (h : n ≤ 100) : IntKind.i64.wrap ((n : Int) - 1) = (n : Int) - 1 := IntWalk.i64_in _ (by omega)
set_option maxRecDepth 100000 in
set_option maxHeartbeats 4000000 in
theorem implSteepestHeld_c (k : Grp) (a : Int) (w : World) (hw : (Lit.int .i64 a).wf = true) :
    Calls Try.prog 17 #[.agg #[.int .i64 k.i, .int .i64 k.s, .int .i64 k.w, .int .i64 k.g, .int .i64 k.p], .int .i64 a] w fun e w' => e = .returned (.tuple #[.int .i64 (shV k a), .bool (shOk k a)]) ∧ Below w.heap.size w w' := by
  clear hw
  have HK := Lib.hid (box_Grp w k 25 _ rfl)
  have HB0 := Lib.hid ((Below.refl w.heap.size w).alloc (Nat.le_refl _) (.cells #[.int .i64 k.i, .int .i64 k.s, .int .i64 k.w, .int .i64 k.g, .int .i64 k.p] 25))
  go_enter Try.func17, Try.ntmps17
  go_wp2
  have hs0 : (w.alloc (.cells #[.int .i64 k.i, .int .i64 k.s, .int .i64 k.w, .int .i64 k.g, .int .i64 k.p] 25)).heap.size = w.heap.size + 1 := by simp
  generalize w.alloc (.cells #[.int .i64 k.i, .int .i64 k.s, .int .i64 k.w, .int .i64 k.g, .int .i64 k.p] 25) = W0 at *
  go_loopw [6] (fun i wr => Hid (Below (w.heap.size + 1) W0 wr) ∧ Hid (ShAt k a i)) (fun i _ => (intOf i + 1).toNat)
  case atStart => exact ⟨Lib.hid (Below.refl _ _), Lib.hid (.inl ⟨100, by omega, rfl, rfl⟩)⟩
  case round =>
    obtain ⟨hbel, hat⟩ := hrel
    have hsz := hbel.out.size
    rcases hat.out with ⟨n, hn, rfl, hp⟩ | ⟨rfl, hp⟩
    · obtain ⟨c0, c1, c2, c3, c4⟩ := HK.out _ hbel.out
      have HH := Lib.hid (fun g => sh_hit (k := k) (a := a) (n := n) hp g)
      have HN := Lib.hid (fun g => ShAt.next (k := k) (a := a) (n := n) hn hp g)
      have e1 := dn_in n hn
      have E0 := Lib.hid (fun W => implDoesHold_w k a n W)
      have n1 : ¬ (n : Int) < 0 := by omega
      have n2 : (0 : Int) ≤ (n : Int) := by omega
      clear hp hat
      generalize hdv : dhV k a n = D at *
      generalize dhOk k a n = D2 at *
      clear hdv
      go_wp2_with fail
      refine (E0.out _).mono ?_
      rintro e w1 ⟨rfl, b1⟩
      have HB1 := Lib.hid (hbel.out.trans (b1.mono (by omega)))
      clear b1 c0 c1 c2 c3 c4
      cases D with
      | true =>
        have HR := Lib.hid (HH.out rfl)
        go_wp2
        go_ret2
        exact ⟨ret_p2 HR.out, HB0.out.trans (HB1.out.mono (by omega))⟩
      | false =>
        have HR := Lib.hid (HN.out rfl)
        go_wp2
        go_roundw
        case rel => exact ⟨HB1, HR⟩
        case measure => simp [intOf] <;> omega
    · have HR := Lib.hid (sh_out hp)
      clear hp hat
      go_wp2
      go_ret2
      exact ⟨ret_p2 HR.out, HB0.out.trans (hbel.out.mono (by omega))⟩
theorem shB {k : Grp} {a : Int} {n : Nat} (hg : isG k = true) (ha : inR a 100 4000 = true) (hn : n ≤ 100) : plOk a n = true ∧ dhV k a n = dhB k a n := by
  have h := plOk_yes ha ((inR_iff (n : Int) 0 100).2 ⟨by omega, by omega⟩)
  exact ⟨h, dh_yes (dh_all h hg)⟩
set_option maxRecDepth 100000 in
set_option maxHeartbeats 4000000 in
theorem specSteepestHeld_c (k : Grp) (a : Int) (w : World) (hw : (Lit.int .i64 a).wf = true) :
    Calls Try.prog 18 #[.agg #[.int .i64 k.i, .int .i64 k.s, .int .i64 k.w, .int .i64 k.g, .int .i64 k.p], .int .i64 a] w fun e w' => e = .returned (.tuple #[.int .i64 (shV k a), .bool (shOk k a)]) ∧ Below w.heap.size w w' := by
  clear hw
  have E0 := Lib.hid (fun W => l7One_c k W)
  have E1 := Lib.hid (fun W => l7Load_c a W)
  cases hk : isG k with
  | false =>
    rw [hk] at E0
    have HN := Lib.hid (sh_bad (k := k) (a := a) (fun s => dh_no (dh_g hk)))
    clear hk E1
    go_enter Try.func18, Try.ntmps18
    go_wp2_with fail
    refine (E0.out _).mono ?_
    rintro e w1 ⟨rfl, b1⟩
    go_wp2
    go_ret2
    exact ⟨ret_p2 HN.out, ((Below.refl _ _).alloc (Nat.le_refl _) _).trans (b1.mono (by simp))⟩
  | true =>
    cases hm : inR a 100 4000 with
    | false =>
      rw [hk] at E0
      rw [hm] at E1
      have HN := Lib.hid (sh_bad (k := k) (a := a) (fun s => dh_no (dh_p (plOk_no1 hm))))
      clear hk hm
      go_enter Try.func18, Try.ntmps18
      go_wp2_with fail
      refine (E0.out _).mono ?_
      rintro e w1 ⟨rfl, b1⟩
      go_wp2_with fail
      refine (E1.out _).mono ?_
      rintro e w2 ⟨rfl, rfl⟩
      go_wp2
      go_ret2
      exact ⟨ret_p2 HN.out, ((Below.refl _ _).alloc (Nat.le_refl _) _).trans (b1.mono (by simp))⟩
    | true =>
      have HSB := Lib.hid (fun n hn => shB (k := k) (a := a) (n := n) hk hm hn)
      rw [hk] at E0
      rw [hm] at E1
      have HK := Lib.hid (box_Grp w k 25 _ rfl)
      have HB0 := Lib.hid ((Below.refl w.heap.size w).alloc (Nat.le_refl _) (.cells #[.int .i64 k.i, .int .i64 k.s, .int .i64 k.w, .int .i64 k.g, .int .i64 k.p] 25))
      clear hk hm
      go_enter Try.func18, Try.ntmps18
      go_wp2_with fail
      have hs0 : (w.alloc (.cells #[.int .i64 k.i, .int .i64 k.s, .int .i64 k.w, .int .i64 k.g, .int .i64 k.p] 25)).heap.size = w.heap.size + 1 := by simp
      generalize w.alloc (.cells #[.int .i64 k.i, .int .i64 k.s, .int .i64 k.w, .int .i64 k.g, .int .i64 k.p] 25) = W0 at *
      refine (E0.out _).mono ?_
      rintro e w1 ⟨rfl, b1⟩
      go_wp2_with fail
      refine (E1.out _).mono ?_
      rintro e w2 ⟨rfl, rfl⟩
      have HB1 : Hid (Below (w.heap.size + 1) W0 w2) := Lib.hid (b1.mono (by omega))
      clear b1
      go_wp2
      go_loopw [6] (fun i wr => Hid (Below (w.heap.size + 1) W0 wr) ∧ Hid (ShAt k a i)) (fun i _ => (intOf i + 1).toNat)
      case atStart => exact ⟨HB1, Lib.hid (.inl ⟨100, by omega, rfl, rfl⟩)⟩
      case round =>
        obtain ⟨hbel, hat⟩ := hrel
        have hsz := hbel.out.size
        rcases hat.out with ⟨n, hn, rfl, hp⟩ | ⟨rfl, hp⟩
        · obtain ⟨c0, c1, c2, c3, c4⟩ := HK.out _ hbel.out
          obtain ⟨hpl, hdb⟩ := HSB.out n hn
          have HH := Lib.hid (fun g => sh_hit (k := k) (a := a) (n := n) hp g)
          have HN := Lib.hid (fun g => ShAt.next (k := k) (a := a) (n := n) hn hp g)
          have e1 := dn_in n hn
          have E2 := Lib.hid (fun W => l7Holds_c k a n W hpl)
          have n1 : ¬ (n : Int) < 0 := by omega
          have n2 : (0 : Int) ≤ (n : Int) := by omega
          rw [hdb] at HH HN
          clear hp hat hpl hdb
          generalize hdv : dhB k a n = D at *
          clear hdv
          go_wp2_with fail
          refine (E2.out _).mono ?_
          rintro e w3 ⟨rfl, b3⟩
          have HB3 := Lib.hid (hbel.out.trans (b3.mono (by omega)))
          clear b3 c0 c1 c2 c3 c4
          cases D with
          | true =>
            have HR := Lib.hid (HH.out rfl)
            go_wp2
            go_ret2
            exact ⟨ret_p2 HR.out, HB0.out.trans (HB3.out.mono (by omega))⟩
          | false =>
            have HR := Lib.hid (HN.out rfl)
            go_wp2
            go_roundw
            case rel => exact ⟨HB3, HR⟩
            case measure => simp [intOf] <;> omega
        · have HR := Lib.hid (sh_out hp)
          clear hp hat
          go_wp2
          go_ret2
          exact ⟨ret_p2 HR.out, HB0.out.trans (hbel.out.mono (by omega))⟩
end Go.Proofs.Ytiogjocbiagipaa
