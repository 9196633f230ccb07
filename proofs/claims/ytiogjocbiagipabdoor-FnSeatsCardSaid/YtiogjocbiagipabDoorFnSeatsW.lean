/- The draws, the helpers and the walk of the law FnSeats. Condition: sizes; the program's table of moves is as laid. -/
import Derived.Test.YtiogjocbiagipabDoorCabS
import Derived.Test.YtiogjocbiagipabDoorIntS
import Derived.Test.YtiogjocbiagipabDoorIntC
import Derived.Test.YtiogjocbiagipabDoorDrawKit
import Derived.Test.YtiogjocbiagipabDoorDrawCabs
import Derived.Test.YtiogjocbiagipabDoorCabNextC
import Derived.Test.YtiogjocbiagipabDoorBig
import Derived.Deep.RegionHeld3
import Derived.Test.YtiogjocbiagipabDoorFewMath
import Derived.Test.YtiogjocbiagipabDoorCabInC
import Derived.Test.YtiogjocbiagipabDoorMoveMath
import Derived.Test.YtiogjocbiagipabDoorCabFewC
import Derived.Test.YtiogjocbiagipabDoorCabFewI
import Derived.Test.YtiogjocbiagipabDoorCabWornC
import Derived.Test.YtiogjocbiagipabDoorMoveI
import Derived.WalkArith
import Derived.Deep.CutRange
import Derived.Deep.CutBlock
import Derived.Deep.DeepCutAuto
namespace Go.Proofs.YtiogjocbiagipabDoor
open Go.RowKit
set_option linter.unusedVariables false
set_option linter.unusedVariables false
set_option maxHeartbeats 400000 in
theorem rBig_yes (a : Option Addr) (len cap : Nat) (w : World) (h : 65536 < len) (hm : len ≤ 9223372036854775807) :
    Calls Tryd.prog 13 #[.slice a len cap] w fun e w' => e = .returned (.bool true) ∧ w = w' := by
  have h1 : (65536 : Int) < (len : Int) := by omega
  go_enter Tryd.func13, Tryd.ntmps13
  go_wp2
  go_ret
  exact ⟨rfl, rfl⟩
set_option maxHeartbeats 400000 in
theorem rBig_no (a : Option Addr) (len cap : Nat) (w : World) (h : len ≤ 65536) :
    Calls Tryd.prog 13 #[.slice a len cap] w fun e w' => e = .returned (.bool false) ∧ w = w' := by
  have h1 : decide ((65536 : Int) < (len : Int)) = false := by simp; omega
  go_enter Tryd.func13, Tryd.ntmps13
  go_wp2
  go_ret
  exact ⟨rfl, rfl⟩
set_option maxRecDepth 100000 in
set_option maxHeartbeats 2000000 in
theorem rCabins_same (va vb : Value) (l : List Cab) (w : World) (ha : Rs w va l.length (cabs l)) (hb : Rs w vb l.length (cabs l)) :
    Calls Tryd.prog 22 #[va, vb] w fun e w' => e = .returned (.bool true) ∧ Below w.heap.size w w' := by
  by_cases h0 : l.length = 0
  · obtain rfl := List.eq_nil_of_length_eq_zero h0
    obtain ⟨a, ca, rfl⟩ := ha.zero
    obtain ⟨b, cb, rfl⟩ := hb.zero
    clear ha hb h0
    go_enter Tryd.func22, Tryd.ntmps22
    go_wp2
    refine wp_loop_rounds 1 ?_
    rw [rounds_succ]
    go_wp2
    go_ret
    exact ⟨rfl, Below.refl _ _⟩
  · obtain ⟨a, oa, ca, rfl, hla, hcap, hm, hca⟩ := ha.pos h0
    obtain ⟨b, ob, cb, rfl, hlb, _, _, hcb⟩ := hb.pos h0
    unfold maxLen at hm
    have HA := Lib.hid hca
    have HB := Lib.hid hcb
    clear hca hcb ha hb h0
    go_enter Tryd.func22, Tryd.ntmps22
    go_wp2
    go_loopw [5] (fun i wr => ∃ k : Nat, k ≤ l.length ∧ i = .int .i64 k ∧ Below w.heap.size w wr) (fun i _ => l.length - (intOf i).toNat)
    case atStart => exact ⟨0, Nat.zero_le _, rfl, Below.refl _ _⟩
    case round =>
      obtain ⟨k, hk, rfl, hb⟩ := hrel
      by_cases hlt : k < l.length
      · obtain ⟨e0, e1, e2, e3, e4⟩ := cabs_at l k hlt
        have c0 : wr.cell? ⟨a, oa + k * 5, none⟩ = some (.int .i64 (gth l k).i) := (hb.cell (p := ⟨a, oa + k * 5, none⟩) hla).trans (HA.out _ _ e0)
        have c1 : wr.cell? ⟨a, oa + k * 5 + 1, none⟩ = some (.int .i64 (gth l k).s) := (hb.cell (p := ⟨a, oa + k * 5 + 1, none⟩) hla).trans (HA.out _ _ e1)
        have c2 : wr.cell? ⟨a, oa + k * 5 + 2, none⟩ = some (.int .i64 (gth l k).w) := (hb.cell (p := ⟨a, oa + k * 5 + 2, none⟩) hla).trans (HA.out _ _ e2)
        have c3 : wr.cell? ⟨a, oa + k * 5 + 3, none⟩ = some (.int .i64 (gth l k).g) := (hb.cell (p := ⟨a, oa + k * 5 + 3, none⟩) hla).trans (HA.out _ _ e3)
        have c4 : wr.cell? ⟨a, oa + k * 5 + 4, none⟩ = some (.int .i64 (gth l k).p) := (hb.cell (p := ⟨a, oa + k * 5 + 4, none⟩) hla).trans (HA.out _ _ e4)
        have d0 : wr.cell? ⟨b, ob + k * 5, none⟩ = some (.int .i64 (gth l k).i) := (hb.cell (p := ⟨b, ob + k * 5, none⟩) hlb).trans (HB.out _ _ e0)
        have d1 : wr.cell? ⟨b, ob + k * 5 + 1, none⟩ = some (.int .i64 (gth l k).s) := (hb.cell (p := ⟨b, ob + k * 5 + 1, none⟩) hlb).trans (HB.out _ _ e1)
        have d2 : wr.cell? ⟨b, ob + k * 5 + 2, none⟩ = some (.int .i64 (gth l k).w) := (hb.cell (p := ⟨b, ob + k * 5 + 2, none⟩) hlb).trans (HB.out _ _ e2)
        have d3 : wr.cell? ⟨b, ob + k * 5 + 3, none⟩ = some (.int .i64 (gth l k).g) := (hb.cell (p := ⟨b, ob + k * 5 + 3, none⟩) hlb).trans (HB.out _ _ e3)
        have d4 : wr.cell? ⟨b, ob + k * 5 + 4, none⟩ = some (.int .i64 (gth l k).p) := (hb.cell (p := ⟨b, ob + k * 5 + 4, none⟩) hlb).trans (HB.out _ _ e4)
        have p1 : IntKind.i64.wrap ((k : Int) + 1) = (k : Int) + 1 := IntWalk.i64_in _ (by omega)
        clear e0 e1 e2 e3 e4
        go_wp2_with fail
        go_region
        go_wp2
        go_roundw
        case rel => exact ⟨k + 1, by omega, by go_num, hb.drew⟩
        case measure => simp [intOf]; omega
      · go_wp2
        go_ret
        exact ⟨rfl, hb⟩
set_option linter.unusedVariables false
set_option maxHeartbeats 400000 in
theorem rInts_same (va vb : Value) (l : List Int) (w : World) (ha : Rd w va (intVs l)) (hb : Rd w vb (intVs l)) :
    Calls Tryd.prog 26 #[va, vb] w fun e w' => e = .returned (.bool true) ∧ Drew w w' := by
  by_cases h0 : l = []
  · subst h0
    obtain ⟨a, ca, rfl⟩ := ha.iv0
    obtain ⟨b, cb, rfl⟩ := hb.iv0
    clear ha hb
    go_enter Tryd.func26, Tryd.ntmps26
    go_wp2
    refine wp_loop_rounds 1 ?_
    rw [rounds_succ]
    go_wp2
    go_ret
    exact ⟨rfl, Drew.refl _⟩
  · obtain ⟨a, oa, ca, rfl, hla, hm, hca⟩ := ha.iv h0
    obtain ⟨b, ob, cb, rfl, hlb, _, hcb⟩ := hb.iv h0
    unfold maxLen at hm
    have HA := Lib.hid hca
    have HB := Lib.hid hcb
    clear hca hcb ha hb
    go_enter Tryd.func26, Tryd.ntmps26
    go_wp2
    go_loopw [5] (fun i wr => ∃ k m : Nat, k ≤ l.length ∧ i = .int .i64 k ∧ wr = w.drewN m) (fun i _ => l.length - (intOf i).toNat)
    case atStart => exact ⟨0, 0, Nat.zero_le _, rfl, rfl⟩
    case round =>
      obtain ⟨k, m, hk, rfl, rfl⟩ := hrel
      by_cases hlt : k < l.length
      · have c1 : w.cell? ⟨a, oa + k, none⟩ = some (.int .i64 (l.getD k 0)) := HA.out k hlt
        have c2 : w.cell? ⟨b, ob + k, none⟩ = some (.int .i64 (l.getD k 0)) := HB.out k hlt
        generalize l.getD k 0 = x at c1 c2
        go_wp2
        go_quiet (fail)
        go_wp2
        go_roundw
        case rel => exact ⟨k + 1, m + nq, by omega, by go_num, rfl⟩
        case measure => simp [intOf]; omega
      · go_wp2
        go_ret
        exact ⟨rfl, m, rfl⟩
theorem rInts_c (va vb : Value) (l : List Int) (w : World) (ha : Rd w va (intVs l)) (hb : Rd w vb (intVs l)) :
    Calls Tryd.prog 26 #[va, vb] w fun e w' => e = .returned (.bool true) ∧ Below w.heap.size w w' := (rInts_same va vb l w ha hb).mono fun _ _ h => ⟨h.1, h.2.below _⟩
theorem ret_b0 {a b : Bool} (h : a = b) : Ending.returned (.bool a) = .returned (.bool b) := by rw [h]
set_option maxHeartbeats 1000000 in
theorem rHas_b (v : Value) (l : List Int) (x : Int) (b : Bool) (w : World) (hr : Rd w v (intVs l)) (hn : l.length ≤ 16) (hx : b = true ↔ x ∈ l) :
    Calls Tryd.prog 30 #[v, .int .i64 x] w fun e w' => e = .returned (.bool b) ∧ Below w.heap.size w w' := by
  by_cases h0 : l = []
  · subst h0
    obtain ⟨a, ca, rfl⟩ := hr.iv0
    have hbf : b = false := by cases b; rfl; simp at hx
    subst hbf
    clear hr hx
    go_enter Tryd.func30, Tryd.ntmps30
    go_wp2
    refine wp_loop_rounds 1 ?_
    rw [rounds_succ]
    go_wp2
    go_ret
    exact ⟨rfl, Below.refl _ _⟩
  · obtain ⟨a, oa, ca, rfl, hla, hm, hca⟩ := hr.iv h0
    have HA := Lib.hid hca
    have HX := Lib.hid hx
    have HM : Hid (∀ k, k < l.length → l.getD k 0 = x → x ∈ l) := Lib.hid (fun k hk e => by rw [← e]; simp [List.getD, hk])
    have HE : Hid ((∀ k, k < l.length → l.getD k 0 ≠ x) → x ∉ l) := Lib.hid (fun h g => by
      obtain ⟨i, hi, e⟩ := List.getElem_of_mem g
      exact h i hi (by simp [List.getD, hi, e]))
    clear hca hr h0 hx
    go_enter Tryd.func30, Tryd.ntmps30
    go_wp2
    go_loop [5] (fun i => ∃ k : Nat, k ≤ l.length ∧ i = .int .i64 k ∧ Hid (∀ j, j < k → l.getD j 0 ≠ x)) (fun i => l.length - (intOf i).toNat)
    case atStart => exact ⟨0, Nat.zero_le _, rfl, Lib.hid (fun j h => by omega)⟩
    case round =>
      obtain ⟨k, hk, rfl, HN⟩ := hrel
      by_cases hlt : k < l.length
      · have c1 : w.cell? ⟨a, oa + k, none⟩ = some (.int .i64 (l.getD k 0)) := HA.out k hlt
        have HK := Lib.hid (HM.out k hlt)
        have HS : Hid (l.getD k 0 ≠ x → ∀ j, j < k + 1 → l.getD j 0 ≠ x) := Lib.hid (fun h j hj => by
          by_cases e : j = k
          · subst e; exact h
          · exact HN.out j (by omega))
        generalize l.getD k 0 = X at *
        by_cases hx : X = x
        · have t1 : (X == x) = true := by simpa using hx
          have HB : Hid (true = b) := Lib.hid ((HX.out.2 (HK.out hx)).symm)
          clear hx
          go_wp2
          go_ret
          exact ⟨ret_b0 HB.out, Below.refl _ _⟩
        · have t1 : (X == x) = false := by simpa using hx
          have HT := Lib.hid (HS.out hx)
          clear hx
          go_wp2
          go_round
          case rel => exact ⟨k + 1, by omega, by go_num, HT⟩
          case measure => simp [intOf]; omega
      · obtain rfl : k = l.length := by omega
        have HB : Hid (false = b) := Lib.hid (by
          have := HE.out HN.out
          cases b
          · rfl
          · exact absurd (HX.out.1 rfl) this)
        go_wp2
        go_ret
        exact ⟨ret_b0 HB.out, Below.refl _ _⟩
end Go.Proofs.YtiogjocbiagipabDoor

namespace Go.Proofs.YtiogjocbiagipabDoor
open Go.RowKit
set_option linter.unusedVariables false
def DlcPost (w : World) (e : Ending) (w' : World) : Prop := ∃ (v : Value) (l : List Cab), e = .returned v ∧ Rs w' v l.length (cabs l) ∧ l.length ≤ 13 ∧ Below w.heap.size w w'
set_option maxRecDepth 100000 in
set_option maxHeartbeats 1000000 in
theorem DrawAreCabins_any (a : Option Addr) (len cap : Nat) (w : World) (h : ByteRow w a len) :
    Calls Tryd.prog 82 #[.slice a len cap] w (DlcPost w) := by
  have HC := Lib.hid (cur_new (cap := cap) h 80)
  have HB0 := Lib.hid ((Below.refl w.heap.size w).alloc (Nat.le_refl _) (.cells #[.slice a len cap, .int .i64 0, .int .u64 0] 80))
  clear h
  go_enter Tryd.func82, Tryd.ntmps82
  go_upto_region 2 with fail
  generalize hw0 : w.alloc (.cells #[.slice a len cap, .int .i64 0, .int .u64 0] 80) = w0 at *
  clear hw0
  go_wp2_with fail
  refine (cabins_any w.heap.size w.heap.size 0 w0 HC.out (by omega)).mono ?_
  rintro e w1 ⟨v, l, rfl, o1, hl, hc, b1, hq⟩
  have HO := Lib.hid (Rs.of_own o1)
  have HB := Lib.hid (HB0.out.trans b1)
  clear o1 hc b1
  go_wp2_with fail
  go_ret
  exact ⟨v, l, rfl, HO.out, hl, HB.out⟩
theorem DrawSeatsOnLine_any (a : Option Addr) (len cap : Nat) (w : World) (h : ByteRow w a len) :
    Calls Tryd.prog 41 #[.slice a len cap] w (DlcPost w) := by
  have HH := Lib.hid h
  clear h
  go_enter Tryd.func41, Tryd.ntmps41
  go_wp2_with fail
  refine (DrawAreCabins_any a len cap w HH.out).mono ?_
  rintro e w1 ⟨v, l, rfl, o1, hl, b1⟩
  have HO := Lib.hid o1
  have HB := Lib.hid b1
  clear o1 b1
  go_wp2_with fail
  go_ret
  exact ⟨v, l, rfl, HO.out, hl, HB.out⟩
def DfcPost (w : World) (e : Ending) (w' : World) : Prop := ∃ (v : Value) (l : List Cab) (m : Int), e = .returned (.tuple #[v, .int .i64 m]) ∧ Rs w' v l.length (cabs l) ∧ l.length ≤ 13 ∧ (-1 ≤ m ∧ m ≤ 201) ∧ Below w.heap.size w w'
set_option maxRecDepth 100000 in
set_option maxHeartbeats 1000000 in
theorem DrawFewestCabins_any (a : Option Addr) (len cap : Nat) (w : World) (h : ByteRow w a len) :
    Calls Tryd.prog 27 #[.slice a len cap] w (DfcPost w) := by
  have HC := Lib.hid (cur_new (cap := cap) h 80)
  have HB0 := Lib.hid ((Below.refl w.heap.size w).alloc (Nat.le_refl _) (.cells #[.slice a len cap, .int .i64 0, .int .u64 0] 80))
  have hs0 : (w.alloc (.cells #[.slice a len cap, .int .i64 0, .int .u64 0] 80)).heap.size = w.heap.size + 1 := by simp
  clear h
  go_enter Tryd.func27, Tryd.ntmps27
  go_upto_region 2 with fail
  generalize hw0 : w.alloc (.cells #[.slice a len cap, .int .i64 0, .int .u64 0] 80) = w0 at *
  clear hw0
  go_wp2_with fail
  refine (cabins_any w.heap.size w.heap.size 0 w0 HC.out (by omega)).mono ?_
  rintro e w1 ⟨v, l, rfl, o1, hl, hc, b1, hq⟩
  have HO := Lib.hid o1
  have HB := Lib.hid (HB0.out.trans b1)
  have Cw1 := Lib.hid hc
  have hs1 := b1.size
  have HQ := Lib.hid hq
  clear o1 hc b1 hq HC
  have hz1 : w.heap.size < w1.heap.size := by omega
  have hne : v.ownBlock = none ∨ v.ownBlock ≠ some w.heap.size := by
    cases hu : v.ownBlock with
    | none => exact .inl rfl
    | some j => exact .inr (fun e => by have := (HO.out.lt j hu).1; have := Option.some.inj e; omega)
  go_wp2_with fail
  refine (pick_any w.heap.size w.heap.size (0 + 500) 24 _ (Cw1.out.alloc _) (by omega) (by omega) (by omega)).mono ?_
  rintro e w2 ⟨rm, rfl, hr, hc, hg⟩
  have Cw2 := Lib.hid hc
  have Gw2 := Lib.hid hg
  have hsw2 := hg.size
  simp at hsw2
  clear hc hg
  obtain ⟨cm, nm, hn, t1, s1, s2⟩ := sel6 rm hr
  clear hr
  go_wp2_with fail
  refine (among_any w.heap.size w.heap.size (0 + 500 + 2) w1.heap.size nm _ ([0, 1, 8, 9, 30, 200, -1, 201].take nm) w2 Cw2.out (by omega) (by rw [List.length_take]; simp; omega) (by omega) (by omega) (by omega) (num_part w1 3 [0, 1, 8, 9, 30, 200, -1, 201] nm _ rfl w2 w.heap.size Gw2.out (by omega))).mono ?_
  rintro e w3 ⟨m, hx, rfl, hc, hg⟩
  have hbm : -1 ≤ m ∧ m ≤ 201 := by have h := List.mem_of_mem_take hx; simp at h; omega
  have Cw3 := Lib.hid hc
  have Gw3 := Lib.hid (grown_trans (grown_trans (World.grownBy_alloc w1 (.cells #[.int .i64 0, .int .i64 1, .int .i64 8, .int .i64 9, .int .i64 30, .int .i64 200, .int .i64 (-1), .int .i64 201] 3) (some w.heap.size)) Gw2.out) hg)
  have hsw3 := hg.size
  clear hc hg hx hn t1 s1 s2 Cw2 Gw2
  have Tw3 := Gw3
  have hzw3 : w.heap.size < w3.heap.size := by omega
  have HR := Lib.hid (Rs.of_own (HO.out.kept Tw3.out hne))
  have HB9 := Lib.hid (HB.out.trans (grown_below Tw3.out (by omega) (fun k hk => by cases hk; exact Nat.le_refl _)))
  go_wp2_with fail
  go_ret2
  exact ⟨v, l, m, rfl, HR.out, hl, hbm, HB9.out⟩
def DnoPost (w : World) (e : Ending) (w' : World) : Prop := ∃ (v : Value) (l : List Cab) (m : Int), e = .returned (.tuple #[v, .int .i64 m]) ∧ Rs w' v l.length (cabs l) ∧ l.length ≤ 13 ∧ (0 ≤ m ∧ m ≤ 17) ∧ Below w.heap.size w w'
set_option maxRecDepth 100000 in
set_option maxHeartbeats 1000000 in
theorem DrawNextOut_any (a : Option Addr) (len cap : Nat) (w : World) (h : ByteRow w a len) :
    Calls Tryd.prog 31 #[.slice a len cap] w (DnoPost w) := by
  have HC := Lib.hid (cur_new (cap := cap) h 80)
  have HB0 := Lib.hid ((Below.refl w.heap.size w).alloc (Nat.le_refl _) (.cells #[.slice a len cap, .int .i64 0, .int .u64 0] 80))
  have hs0 : (w.alloc (.cells #[.slice a len cap, .int .i64 0, .int .u64 0] 80)).heap.size = w.heap.size + 1 := by simp
  clear h
  go_enter Tryd.func31, Tryd.ntmps31
  go_upto_region 2 with fail
  generalize hw0 : w.alloc (.cells #[.slice a len cap, .int .i64 0, .int .u64 0] 80) = w0 at *
  clear hw0
  go_wp2_with fail
  refine (cabins_any w.heap.size w.heap.size 0 w0 HC.out (by omega)).mono ?_
  rintro e w1 ⟨v, l, rfl, o1, hl, hc, b1, hq⟩
  have HO := Lib.hid o1
  have HB := Lib.hid (HB0.out.trans b1)
  have Cw1 := Lib.hid hc
  have hs1 := b1.size
  have HQ := Lib.hid hq
  clear o1 hc b1 hq HC
  have hz1 : w.heap.size < w1.heap.size := by omega
  have hne : v.ownBlock = none ∨ v.ownBlock ≠ some w.heap.size := by
    cases hu : v.ownBlock with
    | none => exact .inl rfl
    | some j => exact .inr (fun e => by have := (HO.out.lt j hu).1; have := Option.some.inj e; omega)
  go_wp2_with fail
  refine (pick_any w.heap.size w.heap.size (0 + 500) 24 _ (Cw1.out.alloc _) (by omega) (by omega) (by omega)).mono ?_
  rintro e w2 ⟨rm, rfl, hr, hc, hg⟩
  have Cw2 := Lib.hid hc
  have Gw2 := Lib.hid hg
  have hsw2 := hg.size
  simp at hsw2
  clear hc hg
  obtain ⟨cm, nm, hn, t1, s1, s2⟩ := sel4 rm hr
  clear hr
  go_wp2_with fail
  refine (among_any w.heap.size w.heap.size (0 + 500 + 2) w1.heap.size nm _ ([1, 4, 8, 16, 0, 17].take nm) w2 Cw2.out (by omega) (by rw [List.length_take]; simp; omega) (by omega) (by omega) (by omega) (num_part w1 3 [1, 4, 8, 16, 0, 17] nm _ rfl w2 w.heap.size Gw2.out (by omega))).mono ?_
  rintro e w3 ⟨m, hx, rfl, hc, hg⟩
  have hbm : 0 ≤ m ∧ m ≤ 17 := by have h := List.mem_of_mem_take hx; simp at h; omega
  have Cw3 := Lib.hid hc
  have Gw3 := Lib.hid (grown_trans (grown_trans (World.grownBy_alloc w1 (.cells #[.int .i64 1, .int .i64 4, .int .i64 8, .int .i64 16, .int .i64 0, .int .i64 17] 3) (some w.heap.size)) Gw2.out) hg)
  have hsw3 := hg.size
  clear hc hg hx hn t1 s1 s2 Cw2 Gw2
  have Tw3 := Gw3
  have hzw3 : w.heap.size < w3.heap.size := by omega
  have HR := Lib.hid (Rs.of_own (HO.out.kept Tw3.out hne))
  have HB9 := Lib.hid (HB.out.trans (grown_below Tw3.out (by omega) (fun k hk => by cases hk; exact Nat.le_refl _)))
  go_wp2_with fail
  go_ret2
  exact ⟨v, l, m, rfl, HR.out, hl, hbm, HB9.out⟩
def DwcPost (w : World) (e : Ending) (w' : World) : Prop := ∃ (v : Value) (l : List Cab) (m : Int), e = .returned (.tuple #[v, .int .i64 m]) ∧ Rs w' v l.length (cabs l) ∧ l.length ≤ 13 ∧ (0 ≤ m ∧ m ≤ 100000) ∧ Below w.heap.size w w'
set_option maxRecDepth 100000 in
set_option maxHeartbeats 1000000 in
theorem DrawWornCabins_any (a : Option Addr) (len cap : Nat) (w : World) (h : ByteRow w a len) :
    Calls Tryd.prog 35 #[.slice a len cap] w (DwcPost w) := by
  have HC := Lib.hid (cur_new (cap := cap) h 80)
  have HB0 := Lib.hid ((Below.refl w.heap.size w).alloc (Nat.le_refl _) (.cells #[.slice a len cap, .int .i64 0, .int .u64 0] 80))
  have hs0 : (w.alloc (.cells #[.slice a len cap, .int .i64 0, .int .u64 0] 80)).heap.size = w.heap.size + 1 := by simp
  clear h
  go_enter Tryd.func35, Tryd.ntmps35
  go_upto_region 2 with fail
  generalize hw0 : w.alloc (.cells #[.slice a len cap, .int .i64 0, .int .u64 0] 80) = w0 at *
  clear hw0
  go_wp2_with fail
  refine (cabins_any w.heap.size w.heap.size 0 w0 HC.out (by omega)).mono ?_
  rintro e w1 ⟨v, l, rfl, o1, hl, hc, b1, hq⟩
  have HO := Lib.hid o1
  have HB := Lib.hid (HB0.out.trans b1)
  have Cw1 := Lib.hid hc
  have hs1 := b1.size
  have HQ := Lib.hid hq
  clear o1 hc b1 hq HC
  have hz1 : w.heap.size < w1.heap.size := by omega
  have hne : v.ownBlock = none ∨ v.ownBlock ≠ some w.heap.size := by
    cases hu : v.ownBlock with
    | none => exact .inl rfl
    | some j => exact .inr (fun e => by have := (HO.out.lt j hu).1; have := Option.some.inj e; omega)
  go_wp2_with fail
  refine (pick_any w.heap.size w.heap.size (0 + 500) 24 _ (Cw1.out.alloc _) (by omega) (by omega) (by omega)).mono ?_
  rintro e w2 ⟨rm, rfl, hr, hc, hg⟩
  have Cw2 := Lib.hid hc
  have Gw2 := Lib.hid hg
  have hsw2 := hg.size
  simp at hsw2
  clear hc hg
  obtain ⟨cm, nm, hn, t1, s1, s2⟩ := sel5 rm hr
  clear hr
  go_wp2_with fail
  refine (among_any w.heap.size w.heap.size (0 + 500 + 2) w1.heap.size nm _ ([1, 5, 6, 900, 99999, 0, 100000].take nm) w2 Cw2.out (by omega) (by rw [List.length_take]; simp; omega) (by omega) (by omega) (by omega) (num_part w1 3 [1, 5, 6, 900, 99999, 0, 100000] nm _ rfl w2 w.heap.size Gw2.out (by omega))).mono ?_
  rintro e w3 ⟨m, hx, rfl, hc, hg⟩
  have hbm : 0 ≤ m ∧ m ≤ 100000 := by have h := List.mem_of_mem_take hx; simp at h; omega
  have Cw3 := Lib.hid hc
  have Gw3 := Lib.hid (grown_trans (grown_trans (World.grownBy_alloc w1 (.cells #[.int .i64 1, .int .i64 5, .int .i64 6, .int .i64 900, .int .i64 99999, .int .i64 0, .int .i64 100000] 3) (some w.heap.size)) Gw2.out) hg)
  have hsw3 := hg.size
  clear hc hg hx hn t1 s1 s2 Cw2 Gw2
  have Tw3 := Gw3
  have hzw3 : w.heap.size < w3.heap.size := by omega
  have HR := Lib.hid (Rs.of_own (HO.out.kept Tw3.out hne))
  have HB9 := Lib.hid (HB.out.trans (grown_below Tw3.out (by omega) (fun k hk => by cases hk; exact Nat.le_refl _)))
  go_wp2_with fail
  go_ret2
  exact ⟨v, l, m, rfl, HR.out, hl, hbm, HB9.out⟩
def DciPost (w : World) (e : Ending) (w' : World) : Prop := ∃ (v : Value) (l : List Cab) (m : Int), e = .returned (.tuple #[v, .int .i64 m]) ∧ Rs w' v l.length (cabs l) ∧ l.length ≤ 13 ∧ (-1 ≤ m ∧ m ≤ 4) ∧ Below w.heap.size w w'
set_option maxRecDepth 100000 in
set_option maxHeartbeats 1000000 in
theorem DrawCabinsIn_any (a : Option Addr) (len cap : Nat) (w : World) (h : ByteRow w a len) :
    Calls Tryd.prog 23 #[.slice a len cap] w (DciPost w) := by
  have HC := Lib.hid (cur_new (cap := cap) h 80)
  have HB0 := Lib.hid ((Below.refl w.heap.size w).alloc (Nat.le_refl _) (.cells #[.slice a len cap, .int .i64 0, .int .u64 0] 80))
  have hs0 : (w.alloc (.cells #[.slice a len cap, .int .i64 0, .int .u64 0] 80)).heap.size = w.heap.size + 1 := by simp
  clear h
  go_enter Tryd.func23, Tryd.ntmps23
  go_upto_region 2 with fail
  generalize hw0 : w.alloc (.cells #[.slice a len cap, .int .i64 0, .int .u64 0] 80) = w0 at *
  clear hw0
  go_wp2_with fail
  refine (cabins_any w.heap.size w.heap.size 0 w0 HC.out (by omega)).mono ?_
  rintro e w1 ⟨v, l, rfl, o1, hl, hc, b1, hq⟩
  have HO := Lib.hid o1
  have HB := Lib.hid (HB0.out.trans b1)
  have Cw1 := Lib.hid hc
  have hs1 := b1.size
  have HQ := Lib.hid hq
  clear o1 hc b1 hq HC
  have hz1 : w.heap.size < w1.heap.size := by omega
  have hne : v.ownBlock = none ∨ v.ownBlock ≠ some w.heap.size := by
    cases hu : v.ownBlock with
    | none => exact .inl rfl
    | some j => exact .inr (fun e => by have := (HO.out.lt j hu).1; have := Option.some.inj e; omega)
  go_wp2_with fail
  refine (pick_any w.heap.size w.heap.size (0 + 500) 24 _ (Cw1.out.alloc _) (by omega) (by omega) (by omega)).mono ?_
  rintro e w2 ⟨rm, rfl, hr, hc, hg⟩
  have Cw2 := Lib.hid hc
  have Gw2 := Lib.hid hg
  have hsw2 := hg.size
  simp at hsw2
  clear hc hg
  obtain ⟨cm, nm, hn, t1, s1, s2⟩ := sel4 rm hr
  clear hr
  go_wp2_with fail
  refine (among_any w.heap.size w.heap.size (0 + 500 + 2) w1.heap.size nm _ ([0, 1, 2, 3, -1, 4].take nm) w2 Cw2.out (by omega) (by rw [List.length_take]; simp; omega) (by omega) (by omega) (by omega) (num_part w1 3 [0, 1, 2, 3, -1, 4] nm _ rfl w2 w.heap.size Gw2.out (by omega))).mono ?_
  rintro e w3 ⟨m, hx, rfl, hc, hg⟩
  have hbm : -1 ≤ m ∧ m ≤ 4 := by have h := List.mem_of_mem_take hx; simp at h; omega
  have Cw3 := Lib.hid hc
  have Gw3 := Lib.hid (grown_trans (grown_trans (World.grownBy_alloc w1 (.cells #[.int .i64 0, .int .i64 1, .int .i64 2, .int .i64 3, .int .i64 (-1), .int .i64 4] 3) (some w.heap.size)) Gw2.out) hg)
  have hsw3 := hg.size
  clear hc hg hx hn t1 s1 s2 Cw2 Gw2
  have Tw3 := Gw3
  have hzw3 : w.heap.size < w3.heap.size := by omega
  have HR := Lib.hid (Rs.of_own (HO.out.kept Tw3.out hne))
  have HB9 := Lib.hid (HB.out.trans (grown_below Tw3.out (by omega) (fun k hk => by cases hk; exact Nat.le_refl _)))
  go_wp2_with fail
  go_ret2
  exact ⟨v, l, m, rfl, HR.out, hl, hbm, HB9.out⟩
def DicPost (w : World) (e : Ending) (w' : World) : Prop := ∃ (x : Cab), e = .returned (x.agg) ∧ CabB x ∧ Below w.heap.size w w'
set_option maxRecDepth 100000 in
set_option maxHeartbeats 4000000 in
theorem DrawIsCabin_any (a : Option Addr) (len cap : Nat) (w : World) (h : ByteRow w a len) :
    Calls Tryd.prog 53 #[.slice a len cap] w (DicPost w) := by
  have h1 := h.below ((Below.refl _ _).alloc (Nat.le_refl _) (.cells #[.int .i64 0, .int .i64 0, .int .i64 0, .int .i64 0, .int .i64 0] 34))
  have C0 := Lib.hid (cur_at (cap := cap) h1 80 (n := w.heap.size + 1) (by simp))
  have K0 := Lib.hid (old_allocD (o' := .cells #[.slice a len cap, .int .i64 0, .int .u64 0] 80) (heap_alloc_new w (.cells #[.int .i64 0, .int .i64 0, .int .i64 0, .int .i64 0, .int .i64 0] 34)))
  have B0 := Lib.hid (((Below.refl w.heap.size w).alloc (Nat.le_refl _) (.cells #[.int .i64 0, .int .i64 0, .int .i64 0, .int .i64 0, .int .i64 0] 34)).alloc (by simp; try omega) (.cells #[.slice a len cap, .int .i64 0, .int .u64 0] 80))
  have hz : ((w.alloc (.cells #[.int .i64 0, .int .i64 0, .int .i64 0, .int .i64 0, .int .i64 0] 34)).alloc (.cells #[.slice a len cap, .int .i64 0, .int .u64 0] 80)).heap.size = w.heap.size + 2 := by simp
  clear h h1
  go_enter Tryd.func53, Tryd.ntmps53
  go_upto_region 2 with fail
  generalize hw0 : (w.alloc (.cells #[.int .i64 0, .int .i64 0, .int .i64 0, .int .i64 0, .int .i64 0] 34)).alloc (.cells #[.slice a len cap, .int .i64 0, .int .u64 0] 80) = w0 at *
  clear hw0
  have hb0 := B0.out.size
  go_wp2_with fail
  refine (among_any _ _ 0 (w.heap.size + 2) 3 3 [1, 42, 99] _ (C0.out.alloc _) (by omega) rfl (by omega) (by omega) (by omega) (num_cells1 w0 3 [1, 42, 99] _ rfl _ hz.symm)).mono ?_
  rintro e w1 ⟨id, hx, rfl, hc, hg⟩
  have hid : -10 ≤ id ∧ id ≤ 200 := by simp at hx; omega
  have K1 := Lib.hid (keepD hg (by omega) (old_allocD (o' := .cells #[.int .i64 1, .int .i64 42, .int .i64 99] 3) K0.out))
  have G1 := Lib.hid (grown_trans (World.grownBy_alloc w0 (.cells #[.int .i64 1, .int .i64 42, .int .i64 99] 3) (some (w.heap.size + 1))) hg)
  have C1 := Lib.hid hc
  clear hc hg hx
  go_wp2_with fail
  refine (cabin_any _ _ (0 + 2) id w1 C1.out (by omega) hid).mono ?_
  rintro e w2 ⟨x, rfl, hx, hc, hg⟩
  have K2 := Lib.hid (keepD hg (by omega) K1.out)
  have G2 := Lib.hid (grown_trans G1.out hg)
  have C2 := Lib.hid hc
  clear hc hg
  unfold Cab.agg
  have KK := K2.out
  have BB := Lib.hid (B0.out.trans (grown_below G2.out (by omega) (fun k hk => by cases hk; omega)))
  have c0 := cell_of_row w2 w.heap.size 0 _ _ _ KK
  have c1 := cell_of_row w2 w.heap.size 1 _ _ _ KK
  have c2 := cell_of_row w2 w.heap.size 2 _ _ _ KK
  have c3 := cell_of_row w2 w.heap.size 3 _ _ _ KK
  have c4 := cell_of_row w2 w.heap.size 4 _ _ _ KK
  have d0 := frozen_of_row w2 w.heap.size 0 _ _ KK
  have d1 := frozen_of_row w2 w.heap.size 1 _ _ KK
  have d2 := frozen_of_row w2 w.heap.size 2 _ _ KK
  have d3 := frozen_of_row w2 w.heap.size 3 _ _ KK
  have d4 := frozen_of_row w2 w.heap.size 4 _ _ KK
  have s0 := blk_setD (i := 0) (v := .int .i64 x.i) KK
  have z0 := cell_of_row _ w.heap.size 0 _ _ _ s0
  have s1 := blk_setD (i := 1) (v := .int .i64 x.s) s0
  have z1 := cell_of_row _ w.heap.size 1 _ _ _ s1
  have s2 := blk_setD (i := 2) (v := .int .i64 x.w) s1
  have z2 := cell_of_row _ w.heap.size 2 _ _ _ s2
  have s3 := blk_setD (i := 3) (v := .int .i64 x.g) s2
  have z3 := cell_of_row _ w.heap.size 3 _ _ _ s3
  have s4 := blk_setD (i := 4) (v := .int .i64 x.p) s3
  have z4 := cell_of_row _ w.heap.size 4 _ _ _ s4
  simp at c0 c1 c2 c3 c4 z0 z1 z2 z3 z4
  have Z0 := Lib.hid z0
  have Z1 := Lib.hid z1
  have Z2 := Lib.hid z2
  have Z3 := Lib.hid z3
  have Z4 := Lib.hid z4
  clear z0 z1 z2 z3 z4 KK s0 s1 s2 s3 s4
  go_wp2
  refine bodyPost_ret (v := .agg #[.int .i64 x.i, .int .i64 x.s, .int .i64 x.w, .int .i64 x.g, .int .i64 x.p]) (by simp [results, Tryd.results53, go_sem, Z0.out, Z1.out, Z2.out, Z3.out, Z4.out]) rfl ⟨x, rfl, hx, ?_⟩
  exact ((((BB.out.setCell (Nat.le_refl _) _).setCell (Nat.le_refl _) _).setCell (Nat.le_refl _) _).setCell (Nat.le_refl _) _).setCell (Nat.le_refl _) _
set_option maxRecDepth 100000 in
set_option maxHeartbeats 4000000 in
theorem DrawCabinText_any (a : Option Addr) (len cap : Nat) (w : World) (h : ByteRow w a len) :
    Calls Tryd.prog 14 #[.slice a len cap] w (DicPost w) := by
  have HH := Lib.hid (h.below ((Below.refl _ _).alloc (Nat.le_refl _) (.cells #[.int .i64 0, .int .i64 0, .int .i64 0, .int .i64 0, .int .i64 0] 34)))
  have K0 := Lib.hid (heap_alloc_new w (.cells #[.int .i64 0, .int .i64 0, .int .i64 0, .int .i64 0, .int .i64 0] 34))
  have B0 := Lib.hid ((Below.refl w.heap.size w).alloc (Nat.le_refl _) (.cells #[.int .i64 0, .int .i64 0, .int .i64 0, .int .i64 0, .int .i64 0] 34))
  have hz : (w.alloc (.cells #[.int .i64 0, .int .i64 0, .int .i64 0, .int .i64 0, .int .i64 0] 34)).heap.size = w.heap.size + 1 := by simp
  clear h
  go_enter Tryd.func14, Tryd.ntmps14
  go_upto_region 1 with fail
  generalize hw0 : w.alloc (.cells #[.int .i64 0, .int .i64 0, .int .i64 0, .int .i64 0, .int .i64 0] 34) = w0 at *
  clear hw0
  go_wp2_with fail
  refine (DrawIsCabin_any a len cap w0 HH.out).mono ?_
  rintro e w1 ⟨x, rfl, hx, b1⟩
  have KK := (b1.block w.heap.size (by omega)).trans K0.out
  have BB := Lib.hid (B0.out.trans (b1.mono (by omega)))
  clear b1
  unfold Cab.agg
  have c0 := cell_of_row w1 w.heap.size 0 _ _ _ KK
  have c1 := cell_of_row w1 w.heap.size 1 _ _ _ KK
  have c2 := cell_of_row w1 w.heap.size 2 _ _ _ KK
  have c3 := cell_of_row w1 w.heap.size 3 _ _ _ KK
  have c4 := cell_of_row w1 w.heap.size 4 _ _ _ KK
  have d0 := frozen_of_row w1 w.heap.size 0 _ _ KK
  have d1 := frozen_of_row w1 w.heap.size 1 _ _ KK
  have d2 := frozen_of_row w1 w.heap.size 2 _ _ KK
  have d3 := frozen_of_row w1 w.heap.size 3 _ _ KK
  have d4 := frozen_of_row w1 w.heap.size 4 _ _ KK
  have s0 := blk_setD (i := 0) (v := .int .i64 x.i) KK
  have z0 := cell_of_row _ w.heap.size 0 _ _ _ s0
  have s1 := blk_setD (i := 1) (v := .int .i64 x.s) s0
  have z1 := cell_of_row _ w.heap.size 1 _ _ _ s1
  have s2 := blk_setD (i := 2) (v := .int .i64 x.w) s1
  have z2 := cell_of_row _ w.heap.size 2 _ _ _ s2
  have s3 := blk_setD (i := 3) (v := .int .i64 x.g) s2
  have z3 := cell_of_row _ w.heap.size 3 _ _ _ s3
  have s4 := blk_setD (i := 4) (v := .int .i64 x.p) s3
  have z4 := cell_of_row _ w.heap.size 4 _ _ _ s4
  simp at c0 c1 c2 c3 c4 z0 z1 z2 z3 z4
  have Z0 := Lib.hid z0
  have Z1 := Lib.hid z1
  have Z2 := Lib.hid z2
  have Z3 := Lib.hid z3
  have Z4 := Lib.hid z4
  clear z0 z1 z2 z3 z4 KK s0 s1 s2 s3 s4
  go_wp2
  refine bodyPost_ret (v := .agg #[.int .i64 x.i, .int .i64 x.s, .int .i64 x.w, .int .i64 x.g, .int .i64 x.p]) (by simp [results, Tryd.results14, go_sem, Z0.out, Z1.out, Z2.out, Z3.out, Z4.out]) rfl ⟨x, rfl, hx, ?_⟩
  exact ((((BB.out.setCell (Nat.le_refl _) _).setCell (Nat.le_refl _) _).setCell (Nat.le_refl _) _).setCell (Nat.le_refl _) _).setCell (Nat.le_refl _) _
theorem cell5_of {W : World} {g : Nat} {c0 c1 c2 c3 c4 : Value} {t : TypeId} (h : W.heap[g]? = some (.cells #[c0, c1, c2, c3, c4] t (0, 0))) : W.cell? ⟨g, 0, none⟩ = some c0 ∧ W.cell? ⟨g, 1, none⟩ = some c1 ∧ W.cell? ⟨g, 2, none⟩ = some c2 ∧ W.cell? ⟨g, 3, none⟩ = some c3 ∧ W.cell? ⟨g, 4, none⟩ = some c4 :=
  ⟨cell_of_row _ g 0 _ _ _ h, cell_of_row _ g 1 _ _ _ h, cell_of_row _ g 2 _ _ _ h, cell_of_row _ g 3 _ _ _ h, cell_of_row _ g 4 _ _ _ h⟩
def DclPost (w : World) (e : Ending) (w' : World) : Prop := ∃ (x : Cab) (n : Int), e = .returned (.tuple #[x.agg, .int .i64 n]) ∧ CabB x ∧ (-1 ≤ n ∧ n ≤ 18) ∧ Below w.heap.size w w'
end Go.Proofs.YtiogjocbiagipabDoor

namespace Go.Proofs.YtiogjocbiagipabDoor
open Go.RowKit
set_option linter.unusedVariables false
theorem Cur.drewD {B b k : Nat} {w : World} (h : Cur B b k w) (n : Nat) : Cur B b k (w.drewN n) := h.grown (row := none) (grown_drew w n none) (fun j hj => by cases hj)
theorem lit_cells {W : World} {t : TypeId} {l : List Int} {cs : Array Value} {g : Nat} (hcs : cs = (l.map (Value.int .i64)).toArray) (h : W.heap[g]? = some (.cells cs t (0, 0))) :
    ∀ (i : Nat) (hi : i < l.length), W.cell? ⟨g, i, none⟩ = some (.int .i64 l[i]) := by
  intro i hi
  subst hcs
  simp [World.cell?, h, hi]
theorem nalD {W : World} {o : Obj} {g : Nat} (hg : g = W.heap.size) : (W.alloc o).heap[g]? = some o := by subst hg; exact heap_alloc_new W o
theorem odrewD1 {W : World} {o : Obj} {g : Nat} (h : W.heap[g]? = some o) : W.drew.heap[g]? = some o := h
theorem setO {W : World} {S T i : Nat} {v : Value} {o : Obj} (hne : S ≠ T) (h : W.heap[S]? = some o) : (W.setCell ⟨T, i, none⟩ v).heap[S]? = some o := by
  simp only [World.setCell, Array.getElem?_modify]
  rw [if_neg (by show ¬ T = S; omega)]
  exact h
theorem box5 {W : World} {g : Nat} {x0 x1 x2 x3 x4 : Value} {t : TypeId} (K : W.heap[g]? = some (.cells #[x0, x1, x2, x3, x4] t (0, 0))) :
    W.cell? ⟨g, 0, none⟩ = some x0 ∧ W.cell? ⟨g, 1, none⟩ = some x1 ∧ W.cell? ⟨g, 2, none⟩ = some x2 ∧ W.cell? ⟨g, 3, none⟩ = some x3 ∧ W.cell? ⟨g, 4, none⟩ = some x4 := by
  have p0 := cell_of_row W g 0 _ _ _ K
  have p1 := cell_of_row W g 1 _ _ _ K
  have p2 := cell_of_row W g 2 _ _ _ K
  have p3 := cell_of_row W g 3 _ _ _ K
  have p4 := cell_of_row W g 4 _ _ _ K
  simp at p0 p1 p2 p3 p4
  exact ⟨p0, p1, p2, p3, p4⟩
def DclPost2 (w : World) (e : Ending) (w' : World) : Prop := ∃ (x : Cab) (q : Int), e = .returned (.tuple #[x.agg, .int .i64 q]) ∧ CabB x ∧ (-1 ≤ q ∧ q ≤ 18) ∧ Below w.heap.size w w'
set_option maxRecDepth 100000 in
set_option maxHeartbeats 400000 in
theorem DrawCabinLoad_any (a : Option Addr) (len cap : Nat) (w : World) (h : ByteRow w a len) :
    Calls Tryd.prog 38 #[.slice a len cap] w (DclPost2 w) := by
  have h1 := h.below (((Below.refl w.heap.size w).alloc (Nat.le_refl _) (.cells #[.int .i64 0, .int .i64 0, .int .i64 0, .int .i64 0, .int .i64 0] 34)))
  have C0 := Lib.hid (cur_at (cap := cap) h1 80 (n := w.heap.size + 1) (by simp))
  have K0 := Lib.hid (old_allocD (o' := .cells #[.slice a len cap, .int .i64 0, .int .u64 0] 80) (heap_alloc_new w (.cells #[.int .i64 0, .int .i64 0, .int .i64 0, .int .i64 0, .int .i64 0] 34)))
  have B0 := Lib.hid ((((Below.refl w.heap.size w).alloc (Nat.le_refl _) (.cells #[.int .i64 0, .int .i64 0, .int .i64 0, .int .i64 0, .int .i64 0] 34))).alloc (by simp; try omega) (.cells #[.slice a len cap, .int .i64 0, .int .u64 0] 80))
  have hz : ((w.alloc (.cells #[.int .i64 0, .int .i64 0, .int .i64 0, .int .i64 0, .int .i64 0] 34)).alloc (.cells #[.slice a len cap, .int .i64 0, .int .u64 0] 80)).heap.size = w.heap.size + 2 := by simp
  clear h h1
  go_enter Tryd.func38, Tryd.ntmps38
  go_upto_region 2 with fail
  generalize hw0 : (w.alloc (.cells #[.int .i64 0, .int .i64 0, .int .i64 0, .int .i64 0, .int .i64 0] 34)).alloc (.cells #[.slice a len cap, .int .i64 0, .int .u64 0] 80) = w0 at *
  clear hw0
  go_wp2_with fail
  refine (cabin_any _ _ 0 5 w0 C0.out (by omega) (by omega)).mono ?_
  rintro e w1 ⟨x, rfl, hx, hc, hg⟩
  have K1 := Lib.hid (old_allocD (o' := .cells #[.int .i64 x.i, .int .i64 x.s, .int .i64 x.w, .int .i64 x.g, .int .i64 x.p] 34) (keepD hg (by omega) K0.out))
  have M1 := Lib.hid (heap_alloc_new w1 (.cells #[.int .i64 x.i, .int .i64 x.s, .int .i64 x.w, .int .i64 x.g, .int .i64 x.p] 34))
  have G1 := Lib.hid (grown_trans hg (World.grownBy_alloc w1 (.cells #[.int .i64 x.i, .int .i64 x.s, .int .i64 x.w, .int .i64 x.g, .int .i64 x.p] 34) (some (w.heap.size + 1))))
  have C1 := Lib.hid (hc.alloc (.cells #[.int .i64 x.i, .int .i64 x.s, .int .i64 x.w, .int .i64 x.g, .int .i64 x.p] 34))
  have hz1 := hg.size
  clear hc hg
  unfold Cab.agg
  go_upto_region 3 with fail
  have hz2 : (w1.alloc (.cells #[.int .i64 x.i, .int .i64 x.s, .int .i64 x.w, .int .i64 x.g, .int .i64 x.p] 34)).heap.size = w1.heap.size + 1 := by simp
  generalize hw2 : w1.alloc (.cells #[.int .i64 x.i, .int .i64 x.s, .int .i64 x.w, .int .i64 x.g, .int .i64 x.p] 34) = w2 at *
  clear hw2
  have KPb := Lib.hid (fun (W : World) (hW : w2.grownBy W (some (w.heap.size + 1))) => keepD hW (show w1.heap.size ≠ w.heap.size + 1 by omega) M1.out)
  have KP := Lib.hid (fun (W : World) (hW : w2.grownBy W (some (w.heap.size + 1))) => box5 (KPb.out W hW))
  have RPb := Lib.hid (fun (W : World) (hW : w2.grownBy W (some (w.heap.size + 1))) => keepD hW (show w.heap.size ≠ w.heap.size + 1 by omega) K1.out)
  have g00 : w2.grownBy w2 (some (w.heap.size + 1)) := grown_drew w2 0 (some _)
  have gd : Hid (∀ (W : World), w2.grownBy W (some (w.heap.size + 1)) → w2.grownBy W.drew (some (w.heap.size + 1))) := Lib.hid (fun W hW => grown_trans hW ⟨rfl, rfl, rfl, Nat.le_refl _, fun _ _ _ => rfl⟩)
  have cdr : Hid (∀ (W : World) (j : Nat), Cur (w.heap.size + 1) (w.heap.size + 1) j W → Cur (w.heap.size + 1) (w.heap.size + 1) j W.drew) := Lib.hid (fun W j hW => hW.drewD 1)
  have c00 := C1.out
  have hb0 : Hid (∀ n : Nat, w2.heap.size ≤ n → n ≠ w.heap.size + 1) := Lib.hid (fun n hn => by omega)
  have gdw := gd.out _ g00
  have cdw := cdr.out _ _ c00
  obtain ⟨y0, y1, y2, y3, y4⟩ := KP.out _ g00
  have hxb := hx
  obtain ⟨_, ⟨hs0, hs1⟩, _⟩ := hxb
  have e1 : IntKind.i64.wrap (x.s + 1) = x.s + 1 := IntWalk.i64_in _ (by omega)
  have HAm : Hid (∀ W g, Cur (w.heap.size + 1) (w.heap.size + 1) (0 + 20) W → g ≠ w.heap.size + 1 → W.heap[g]? = some (.cells #[.int .i64 0, .int .i64 1, .int .i64 4, .int .i64 x.s, .int .i64 (x.s + 1), .int .i64 (-1)] 3 (0, 0)) → Calls Tryd.prog 64 #[.pointer (some ⟨w.heap.size + 1, 0, none⟩), .slice (some ⟨g, 0, none⟩) 6 6] W (AmPost (w.heap.size + 1) (w.heap.size + 1) (0 + 20) [0, 1, 4, x.s, x.s + 1, -1] W)) := Lib.hid (fun W g hW hg hc => among_any (w.heap.size + 1) (w.heap.size + 1) (0 + 20) g 6 6 [0, 1, 4, x.s, x.s + 1, -1] W hW (by omega) rfl (by omega) (by omega) hg (lit_cells rfl hc))
  go_region_held3 (fun w' => w'.cell? ⟨w1.heap.size, 0, none⟩ = some (.int .i64 x.i) ∧ w'.cell? ⟨w1.heap.size, 1, none⟩ = some (.int .i64 x.s) ∧ w'.cell? ⟨w1.heap.size, 2, none⟩ = some (.int .i64 x.w) ∧ w'.cell? ⟨w1.heap.size, 3, none⟩ = some (.int .i64 x.g) ∧ w'.cell? ⟨w1.heap.size, 4, none⟩ = some (.int .i64 x.p)) (first | with_reducible exact KP.out _ gA | with_reducible exact KP.out _ g00 | with_reducible exact KP.out _ gdw | exact box5 (setO (show w1.heap.size ≠ w.heap.size by omega) (setO (show w1.heap.size ≠ w.heap.size by omega) (setO (show w1.heap.size ≠ w.heap.size by omega) (setO (show w1.heap.size ≠ w.heap.size by omega) (setO (show w1.heap.size ≠ w.heap.size by omega) (KPb.out _ gA)))))) | with_reducible exact KP.out _ (gA) | with_reducible exact KP.out _ (g00) | with_reducible exact KP.out _ (gdw) | with_reducible exact KP.out _ (gd.out _ gA) | with_reducible exact KP.out _ (gd.out _ g00) | with_reducible exact KP.out _ (gd.out _ gdw) | with_reducible exact KP.out _ ((grown_trans gA (World.grownBy_alloc _ _ _))) | with_reducible exact KP.out _ ((grown_trans g00 (World.grownBy_alloc _ _ _))) | with_reducible exact KP.out _ ((grown_trans gdw (World.grownBy_alloc _ _ _))) | with_reducible exact KP.out _ (gd.out _ (grown_trans gA (World.grownBy_alloc _ _ _))) | with_reducible exact KP.out _ (gd.out _ (grown_trans g00 (World.grownBy_alloc _ _ _))) | with_reducible exact KP.out _ (gd.out _ (grown_trans gdw (World.grownBy_alloc _ _ _))))
    (first
    | (go_at_call 64; refine (HAm.out _ _ (by first | with_reducible exact c00 | with_reducible exact cdw | with_reducible exact cdr.out _ _ c00 | with_reducible exact cdr.out _ _ cdw | with_reducible exact Cur.alloc c00 _ | with_reducible exact Cur.alloc cdw _ | with_reducible exact cdr.out _ _ (Cur.alloc c00 _) | with_reducible exact cdr.out _ _ (Cur.alloc cdw _) | fail) (hb0.out _ (by first | omega | (simp; done) | (simp; omega))) (by first | with_reducible exact nalD (by first | rfl | (simp; done) | omega) | with_reducible exact odrewD1 (nalD (by first | rfl | (simp; done) | omega)) | fail)).mono ?_; rintro e wA ⟨q, hq, rfl, hcA, hgA⟩; have hqb : -1 ≤ q ∧ q ≤ 18 := (by simp at hq; omega); have gA : w2.grownBy wA (some (w.heap.size + 1)) := grown_trans (by first | with_reducible exact g00 | with_reducible exact gdw | with_reducible exact gd.out _ g00 | with_reducible exact gd.out _ gdw | with_reducible exact (grown_trans g00 (World.grownBy_alloc _ _ _)) | with_reducible exact (grown_trans gdw (World.grownBy_alloc _ _ _)) | with_reducible exact gd.out _ (grown_trans g00 (World.grownBy_alloc _ _ _)) | with_reducible exact gd.out _ (grown_trans gdw (World.grownBy_alloc _ _ _)) | fail) hgA; have zA := gA.size; have K9 := RPb.out wA gA; have c0 := cell_of_row wA w.heap.size 0 _ _ _ K9; have c1 := cell_of_row wA w.heap.size 1 _ _ _ K9; have c2 := cell_of_row wA w.heap.size 2 _ _ _ K9; have c3 := cell_of_row wA w.heap.size 3 _ _ _ K9; have c4 := cell_of_row wA w.heap.size 4 _ _ _ K9; have d0 := frozen_of_row wA w.heap.size 0 _ _ K9; have d1 := frozen_of_row wA w.heap.size 1 _ _ K9; have d2 := frozen_of_row wA w.heap.size 2 _ _ K9; have d3 := frozen_of_row wA w.heap.size 3 _ _ K9; have d4 := frozen_of_row wA w.heap.size 4 _ _ K9; have s0 := blk_setD (i := 0) (v := .int .i64 x.i) K9; have z0 := cell_of_row _ w.heap.size 0 _ _ _ s0; have s1 := blk_setD (i := 1) (v := .int .i64 x.s) s0; have z1 := cell_of_row _ w.heap.size 1 _ _ _ s1; have s2 := blk_setD (i := 2) (v := .int .i64 x.w) s1; have z2 := cell_of_row _ w.heap.size 2 _ _ _ s2; have s3 := blk_setD (i := 3) (v := .int .i64 x.g) s2; have z3 := cell_of_row _ w.heap.size 3 _ _ _ s3; have s4 := blk_setD (i := 4) (v := .int .i64 x.p) s3; have z4 := cell_of_row _ w.heap.size 4 _ _ _ s4; simp at c0 c1 c2 c3 c4 z0 z1 z2 z3 z4; have Z0 := Lib.hid z0; have Z1 := Lib.hid z1; have Z2 := Lib.hid z2; have Z3 := Lib.hid z3; have Z4 := Lib.hid z4; clear z0 z1 z2 z3 z4 s0 s1 s2 s3 s4))

  all_goals (have BB := Lib.hid (B0.out.trans (grown_below (grown_trans G1.out gA) (by omega) (fun k hk => by cases hk; omega))))
  all_goals (have GA := Lib.hid (grown_trans (grown_trans (grown_trans (grown_trans (grown_setCell wA w.heap.size 0 (.int .i64 x.i)) (grown_setCell _ w.heap.size 1 (.int .i64 x.s))) (grown_setCell _ w.heap.size 2 (.int .i64 x.w))) (grown_setCell _ w.heap.size 3 (.int .i64 x.g))) (grown_setCell _ w.heap.size 4 (.int .i64 x.p))))
  all_goals clear y0 y1 y2 y3 y4 c0 c1 c2 c3 c4 d0 d1 d2 d3 d4 KP KPb RPb
  all_goals go_wp2
  all_goals refine bodyPost_ret (v := .tuple #[.agg #[.int .i64 x.i, .int .i64 x.s, .int .i64 x.w, .int .i64 x.g, .int .i64 x.p], .int .i64 q]) (by simp [results, Tryd.results38, go_sem, Z0.out, Z1.out, Z2.out, Z3.out, Z4.out]) rfl ?_
  all_goals refine ⟨x, q, rfl, hx, hqb, ((((BB.out.setCell (Nat.le_refl _) _).setCell (Nat.le_refl _) _).setCell (Nat.le_refl _) _).setCell (Nat.le_refl _) _).setCell (Nat.le_refl _) _⟩
end Go.Proofs.YtiogjocbiagipabDoor

namespace Go.Proofs.YtiogjocbiagipabDoor
open Go.RowKit
set_option linter.unusedVariables false
/-- Its number is told. -/
def told (A : List Int) (c : Cab) : Bool := decide (c.i ∈ A)
theorem filter_sub {T O : List Cab} (h : List.Sublist T O) (hO : O.Pairwise (fun a c => a.i ≠ c.i)) : O.filter (told (nums T)) = T := by
  induction h with
  | slnil => rfl
  | @cons T O a h ih =>
    rw [List.pairwise_cons] at hO
    have : told (nums T) a = false := by
      unfold told
      rw [decide_eq_false_iff_not]
      intro hm
      obtain ⟨d, hd, e⟩ := List.mem_map.1 (by unfold nums at hm; exact hm)
      exact hO.1 d (h.subset hd) e.symm
    rw [List.filter_cons, this]
    simpa using ih hO.2
  | @cons_cons T O a h ih =>
    rw [List.pairwise_cons] at hO
    have h1 : told (nums (a :: T)) a = true := by simp [told, nums]
    rw [List.filter_cons, h1]
    have h2 : O.filter (told (nums (a :: T))) = O.filter (told (nums T)) := by
      apply List.filter_congr
      intro c hc
      have := hO.1 c hc
      have e : ¬ c.i = a.i := fun e => this e.symm
      unfold told nums
      simp [e]
    rw [h2, ih hO.2]
    simp
theorem sumS_perm {a b : List Cab} (h : a.Perm b) : sumS a = sumS b := by
  induction h with
  | nil => rfl
  | cons x _ ih => simp [sumS, ih]
  | swap x y l => simp [sumS]; omega
  | trans _ _ h1 h2 => rw [h1, h2]
/-- The least seats, at most 17. -/
def leS (r : List Cab) : Int := r.foldl (fun a c => if c.s < a then c.s else a) 17
theorem leS_one (r : List Cab) (c : Cab) : leS (r ++ [c]) = if c.s < leS r then c.s else leS r := by unfold leS; rw [List.foldl_append]; rfl
theorem leS_from (r : List Cab) (d : Int) (h : ∀ c ∈ r, d ≤ c.s) : ∀ z : Int, d ≤ z → d ≤ r.foldl (fun a c => if c.s < a then c.s else a) z := by
  induction r with
  | nil => intro z hz; exact hz
  | cons c r ih =>
    intro z hz
    refine ih (fun x hx => h x (by simp [hx])) _ ?_
    have := h c (by simp)
    show d ≤ if c.s < z then c.s else z
    split <;> omega
theorem leS_ge {r : List Cab} {d : Int} (h : ∀ c ∈ r, d ≤ c.s) (hd : d ≤ 17) : d ≤ leS r := leS_from r d h 17 hd
theorem leS_to (r : List Cab) : ∀ z : Int, r.foldl (fun a c => if c.s < a then c.s else a) z ≤ z := by
  induction r with
  | nil => intro z; exact Int.le_refl _
  | cons c r ih =>
    intro z
    refine Int.le_trans (ih _) ?_
    show (if c.s < z then c.s else z) ≤ z
    split <;> omega
theorem leS_17 (r : List Cab) : leS r ≤ 17 := leS_to r 17
theorem fewN_sum : ∀ (r : List Cab) (m : Int), m ≤ sumS r → m ≤ sumS (r.take (fewN r m))
  | [], m, h => by simpa using h
  | c :: r, m, h => by
    rw [fewN]
    split
    · simp [sumS]; omega
    · simp only [sumS] at h
      have := fewN_sum r (m - c.s) (by omega)
      simp only [List.take_succ_cons, sumS]
      omega
theorem fewN_less : ∀ (r : List Cab) (m : Int), 0 < fewN r m → sumS (r.take (fewN r m - 1)) < m
  | [], m, h => by simp [fewN] at h
  | c :: r, m, h => by
    rw [fewN] at h ⊢
    split at h
    · omega
    · rename_i h0
      rw [if_neg h0]
      rw [Nat.add_sub_cancel]
      cases hn : fewN r (m - c.s) with
      | zero => simp [sumS]; omega
      | succ n =>
        have := fewN_less r (m - c.s) (by omega)
        rw [hn, Nat.add_sub_cancel] at this
        simp only [List.take_succ_cons, sumS]
        omega
theorem few_law {l : List Cab} {m : Int} (h : fwOk l m = true) :
    m ≤ sumS (l.filter (told (fwR l m))) ∧ (0 < (fwR l m).length → sumS (l.filter (told (fwR l m))) - leS (l.filter (told (fwR l m))) < m) ∧ (∀ c ∈ l, 1 ≤ c.s ∧ c.s ≤ 16) ∧ l.length ≤ 12 ∧ 0 ≤ m ∧ m ≤ 200 := by
  have hin : fwIn l m = true ∧ m ≤ sumS (rdy l) := by unfold fwOk at h; rw [Bool.and_eq_true, decide_eq_true_eq] at h; exact h
  have hi2 : cabL l = true ∧ 0 ≤ m ∧ m ≤ 200 := by have := hin.1; unfold fwIn at this; rw [Bool.and_eq_true, inR_iff] at this; exact this
  have hV := cabL_yes hi2.1
  have hA := (fw_yes hin.1 hin.2).2
  have ht := fewN_le (rdy l) m
  have hs1 := fewN_sum (rdy l) m hin.2
  have hs2 := fewN_less (rdy l) m
  generalize fewN (rdy l) m = t at *
  have hO : (ordA false l).Pairwise (fun a c : Cab => a.i ≠ c.i) := (ordA_perm false l).symm.pairwise (hV.pair.imp (fun h => by omega)) (fun h => h.symm)
  have hsub : List.Sublist ((rdy l).take t) (ordA false l) := (List.take_sublist _ _).trans List.filter_sublist
  have htold : ∀ c, told (fwR l m) c = told (nums ((rdy l).take t)) c := by
    intro c
    unfold told
    rw [hA]
    have : (c.i ∈ srt (nums ((rdy l).take t))) ↔ (c.i ∈ nums ((rdy l).take t)) := (srt_perm _).mem_iff
    simp [this]
  have hF : (l.filter (told (fwR l m))).Perm ((rdy l).take t) := by
    have e : l.filter (told (fwR l m)) = l.filter (told (nums ((rdy l).take t))) := List.filter_congr (fun c _ => htold c)
    rw [e]
    have := (ordA_perm false l).symm.filter (told (nums ((rdy l).take t)))
    rwa [filter_sub hsub hO] at this
  have hsum := sumS_perm hF
  have hlen : (fwR l m).length = t := by rw [hA, srt_len, nums_len, List.length_take]; omega
  refine ⟨by rw [hsum]; exact hs1, fun h0 => ?_, fun c hc => hV.seats hc, hV.len, hi2.2⟩
  rw [hlen] at h0
  have hs3 := hs2 h0
  have hlt : t - 1 < (rdy l).length := by omega
  have hsplit : (rdy l).take t = (rdy l).take (t - 1) ++ [gth (rdy l) (t - 1)] := by
    have := take_gth (rdy l) (t - 1) hlt
    rwa [show t - 1 + 1 = t by omega] at this
  have hpw : (rdy l).Pairwise (Befo false) := (ordA_pair hV).sublist List.filter_sublist
  have hlast : ∀ c ∈ (rdy l).take t, (gth (rdy l) (t - 1)).s ≤ c.s := by
    intro c hc
    obtain ⟨j, hj, rfl⟩ := mem_gth hc
    rw [List.length_take, Nat.min_eq_left ht] at hj
    rw [gth_take hj]
    by_cases e : j = t - 1
    · subst e; exact Int.le_refl _
    · have := pair_gth hpw (show j < t - 1 by omega) hlt
      unfold Befo keyC at this
      simp at this
      omega
  have hge := leS_ge (r := l.filter (told (fwR l m))) (d := (gth (rdy l) (t - 1)).s) (fun c hc => hlast c (hF.mem_iff.1 hc)) (by have := rdy_seats hV _ (gth_mem hlt); omega)
  rw [hsum, hsplit, sumS_one]
  omega
theorem told_sum {l : List Cab} {A : List Int} {k : Nat} (hk : k < l.length) (h : (gth l k).i ∈ A) : sumS ((l.take (k + 1)).filter (told A)) = sumS ((l.take k).filter (told A)) + (gth l k).s ∧ leS ((l.take (k + 1)).filter (told A)) = if (gth l k).s < leS ((l.take k).filter (told A)) then (gth l k).s else leS ((l.take k).filter (told A)) := by
  have : told A (gth l k) = true := by simp [told, h]
  rw [filt_yes hk this, sumS_one, leS_one]
  exact ⟨rfl, rfl⟩
theorem told_not {l : List Cab} {A : List Int} {k : Nat} (hk : k < l.length) (h : ¬ (gth l k).i ∈ A) : sumS ((l.take (k + 1)).filter (told A)) = sumS ((l.take k).filter (told A)) ∧ leS ((l.take (k + 1)).filter (told A)) = leS ((l.take k).filter (told A)) := by
  have : told A (gth l k) = false := by simp [told, h]
  rw [filt_no hk this]
  exact ⟨rfl, rfl⟩
theorem told_bd {l : List Cab} {A : List Int} (h : ∀ c ∈ l, 1 ≤ c.s ∧ c.s ≤ 16) (hl : l.length ≤ 12) (k : Nat) : 0 ≤ sumS ((l.take k).filter (told A)) ∧ sumS ((l.take k).filter (told A)) ≤ 192 ∧ 1 ≤ leS ((l.take k).filter (told A)) ∧ leS ((l.take k).filter (told A)) ≤ 17 := by
  have hm : ∀ c ∈ (l.take k).filter (told A), 1 ≤ c.s ∧ c.s ≤ 16 := fun c hc => h c (List.mem_of_mem_take (List.mem_filter.1 hc).1)
  have h1 := sumS_bound _ hm
  have h2 := filt_len' (told A) l k
  have h3 := leS_ge (d := 1) (fun c hc => (hm c hc).1) (by omega)
  have h4 := leS_17 ((l.take k).filter (told A))
  omega
theorem nxL_mem {s : Int} {r : List Cab} {c : Cab} : ∀ k, k ≤ r.length → nxL s (r.take k) = some c → c ∈ r ∧ s ≤ c.s
  | 0, _, h => by simp [nxL] at h
  | k + 1, hk, h => by
    rw [take_gth r k (by omega), nxL_one] at h
    have hg := gth_mem (l := r) (i := k) (by omega)
    cases ho : nxL s (r.take k) with
    | none =>
      rw [ho] at h
      by_cases hh : s ≤ (gth r k).s
      · rw [nx_taken hh (.inl rfl)] at h
        cases Option.some.inj h
        exact ⟨hg, hh⟩
      · rw [nx_kept (.inl (by omega))] at h
        cases h
    | some b =>
      rw [ho] at h
      by_cases hh : s ≤ (gth r k).s
      · by_cases hp : (gth r k).p < b.p
        · rw [nx_taken hh (.inr ⟨b, rfl, hp⟩)] at h
          cases Option.some.inj h
          exact ⟨hg, hh⟩
        · rw [nx_kept (.inr ⟨b, rfl, by omega⟩)] at h
          cases Option.some.inj h
          exact nxL_mem k (by omega) ho
      · rw [nx_kept (.inl (by omega))] at h
        cases Option.some.inj h
        exact nxL_mem k (by omega) ho
theorem seat_law {l : List Cab} {s : Int} (h : noOk l s = true) : ciOk l 0 = true ∧ noV l s ∈ ciR l 0 ∧ mvOk l (noV l s) 1 = true ∧ cabL l = true ∧ cabL (mvR l (noV l s) 1) = true ∧ soV l + s ≤ soV (mvR l (noV l s) 1) ∧ (0 ≤ soV l ∧ soV l ≤ 192) ∧ (1 ≤ noV l s ∧ noV l s ≤ 99) := by
  have hin : noIn l s = true := by unfold noOk at h; rw [Bool.and_eq_true] at h; exact h.1
  have hL : cabL l = true := by unfold noIn at hin; rw [Bool.and_eq_true] at hin; exact hin.1
  have hV := cabL_yes hL
  have hsome : (nxL s (stOf l 0)).isSome = true := by rw [← (no_yes hin).1]; exact h
  obtain ⟨c, hc⟩ := Option.isSome_iff_exists.1 hsome
  have hv : noV l s = c.i := (no_some hin hc).2
  have hcm := nxL_mem (s := s) (r := stOf l 0) (c := c) (stOf l 0).length (Nat.le_refl _) (by rw [List.take_length]; exact hc)
  obtain ⟨hcl, hcg⟩ := List.mem_filter.1 hcm.1
  have hcg : c.g = 0 := by simpa [inSt] using hcg
  obtain ⟨i, hi, rfl⟩ := mem_gth hcl
  have hci : ciOk l 0 = true := by unfold ciOk; rw [hL]; rfl
  have hix : idxN l (gth l i).i = i := idxN_is hi (fun j hj e => by have := hV.lt i j hj hi; omega) rfl
  have hok := (isC_iff _).1 (hV.ok i hi).1
  have hmc : mvC (gth l i) 1 = ⟨(gth l i).i, (gth l i).s, (gth l i).w, 1, (gth l i).p⟩ := by
    unfold mvC
    rw [if_neg (by omega)]
  have hmi : mvIn l 1 = true := by unfold mvIn; rw [hL]; rfl
  have hmay : may (gth l i).g 1 = true := by rw [hcg]; rfl
  have hmv : mvOk l (gth l i).i 1 = true := mv_all hmi (by rw [hix]; exact hi) (by rw [hix]; exact hmay) (by rw [hix, hmc]; exact hok.2.2.2.2.2)
  have hR : mvR l (gth l i).i 1 = l.set i (mvC (gth l i) 1) := by rw [mv_yes hmv, hix]
  have hLR : cabL (mvR l (gth l i).i 1) = true := by
    rw [hR, cabL_mv hV hi (by omega), hmc]
    simpa using hok.2.2.2.2.2
  rw [hv]
  have hsb := sumS_bound (stOf l 1) (fun d hd => hV.seats (List.mem_filter.1 hd).1)
  have hsl := stOf_len l 1
  have h12 := hV.len
  refine ⟨hci, ?_, hmv, hL, hLR, ?_, ?_, hok.1⟩
  · rw [ci_yes hci]
    unfold nums
    exact List.mem_map.2 ⟨_, hcm.1, rfl⟩
  · rw [so_yes hL, so_yes hLR, hR]
    have hsp : sumS (stOf (l.set i (mvC (gth l i) 1)) 1) = sumS (stOf l 1) + (gth l i).s := by
      have e1 : l.set i (mvC (gth l i) 1) = l.take i ++ mvC (gth l i) 1 :: l.drop (i + 1) := by rw [List.set_eq_take_append_cons_drop, if_pos hi]
      have e2 : l = l.take i ++ gth l i :: l.drop (i + 1) := by
        have h1 := List.take_append_drop i l
        rw [List.drop_eq_getElem_cons hi, ← gth_get hi] at h1
        exact h1.symm
      have f1 : inSt 1 (mvC (gth l i) 1) = true := by rw [hmc]; rfl
      have f2 : inSt 1 (gth l i) = false := by simp [inSt, hcg]
      have g1 : stOf (l.take i ++ mvC (gth l i) 1 :: l.drop (i + 1)) 1 = stOf (l.take i) 1 ++ mvC (gth l i) 1 :: stOf (l.drop (i + 1)) 1 := by
        unfold stOf; rw [List.filter_append, List.filter_cons, f1]; simp
      have g2 : stOf (l.take i ++ gth l i :: l.drop (i + 1)) 1 = stOf (l.take i) 1 ++ stOf (l.drop (i + 1)) 1 := by
        unfold stOf; rw [List.filter_append, List.filter_cons, f2]; simp
      have g3 : sumS (stOf l 1) = sumS (stOf (l.take i) 1) + sumS (stOf (l.drop (i + 1)) 1) := by
        have : stOf l 1 = stOf (l.take i ++ gth l i :: l.drop (i + 1)) 1 := by rw [← e2]
        rw [this, g2, sumS_append]
      rw [e1, g1, sumS_append, g3, hmc]
      simp only [sumS]
      omega
    rw [hsp]
    omega
  · rw [so_yes hL]
    omega
theorem load_law {x : Cab} {n : Int} (h : clOk x n = true) : x.w ≤ clV x n := by
  have h1 := cl_bd h
  rw [cl_yes h]
  omega
end Go.Proofs.YtiogjocbiagipabDoor

namespace Go.Proofs.YtiogjocbiagipabDoor
open Go.RowKit
set_option linter.unusedVariables false
set_option maxRecDepth 100000 in
set_option maxHeartbeats 16000000 in
theorem FnSeats_walk (a : Option Addr) (len cap : Nat) (w : World) (h : ByteRow w a len) (hwMovP : MovP w) :
    Calls Tryd.prog 5 #[.slice a len cap] w fun e w' => e = .returned (.bool true) ∧ Below w.heap.size w w' := by
  have hm := h.1
  have HC := Lib.hid h
  clear h
  have HMovP : Hid (∀ W, Below w.heap.size w W → MovP W) := Lib.hid (fun W hW => hwMovP.below hW)
  clear hwMovP
  by_cases hbig : 65536 < len
  · go_enter Tryd.func5, Tryd.ntmps5
    go_wp2_with fail
    refine (rBig_yes a len cap _ hbig hm).mono ?_
    rintro e w' ⟨rfl, rfl⟩
    go_wp2_with fail
    go_ret
    exact ⟨rfl, Below.refl _ _⟩
  · go_enter Tryd.func5, Tryd.ntmps5
    go_wp2_with fail
    refine (rBig_no a len cap _ (by omega)).mono ?_
    rintro e w' ⟨rfl, rfl⟩
    have T0 := Lib.hid (Below.refl w.heap.size w)
    have HCode1 := Lib.hid (HC.out.below T0.out)
    go_wp2_with fail
    refine (DrawFewestCabins_any a len cap _ HCode1.out).mono ?_
    rintro e X1 ⟨v1, l1, m1, rfl, hr, hl1, hm1, hb⟩
    have T1 := Lib.hid (T0.out.trans (hb.mono T0.out.size))
    have HR1 := Lib.hid hr
    have HWm1 := Lib.hid (WalkArith.wf_i64 (n := m1) (by omega))
    clear hb hr HCode1
    go_wp2_with fail
    refine (implFewestCabins_c v1 l1 m1 _ HR1.out (by omega) HWm1.out).mono ?_
    rintro e Y2 ⟨g, rfl, o2, b2⟩
    have T_2 := Lib.hid (T1.out.trans (b2.mono T1.out.size))
    have R1_2 := Lib.hid (HR1.out.below b2 rfl)
    have Og_2 := Lib.hid o2
    clear b2 o2 T1 HR1
    go_wp2_with fail
    refine (specFewestCabins_c v1 l1 m1 _ R1_2.out (by omega) HWm1.out).mono ?_
    rintro e Y3 ⟨h, rfl, o3, b3⟩
    have T_3 := Lib.hid (T_2.out.trans (b3.mono T_2.out.size))
    have R1_3 := Lib.hid (R1_2.out.below b3 rfl)
    have Og_3 := Lib.hid (owns_below Og_2.out b3)
    have Oh_3 := Lib.hid o3
    clear b3 o3 T_2 R1_2 Og_2
    go_wp2_with fail
    refine (rInts_c g h (fwR l1 m1) _ (Rd.of_own Og_3.out) (Rd.of_own Oh_3.out)).mono ?_
    rintro e Y4 ⟨rfl, b4⟩
    have T_4 := Lib.hid (T_3.out.trans (b4.mono T_3.out.size))
    have R1_4 := Lib.hid (R1_3.out.below b4 rfl)
    have Og_4 := Lib.hid (owns_below Og_3.out b4)
    have Oh_4 := Lib.hid (owns_below Oh_3.out b4)
    clear b4 T_3 R1_3 Og_3 Oh_3
    have HFL := Lib.hid (fun h => few_law (l := l1) (m := m1) h)
    have hAl := fwR_len l1 m1
    generalize fwOk l1 m1 = ok at *
    generalize fwR l1 m1 = AR at *
    obtain ⟨ao, ba, oa, ca, hv, hao, hat⟩ := R1_4.out.form_Cab
    subst hv
    obtain ⟨ga, gc, hv⟩ := slice_of_own Og_4.out
    subst hv
    have HAO := Lib.hid hao
    have HAT := Lib.hid hat
    clear hao hat
    go_upto_if 71 with fail
    go_cut [] from 9 (fun wx => Hid (Below Y4.heap.size Y4 wx))
    case first =>
      as_aux_lemma =>
      cases ok with
      | false =>
        go_wp2
        go_meet
        case rel => exact Lib.hid (Below.refl _ _)
      | true =>
        obtain ⟨f1, f2, f3, f4, f5, f6⟩ := HFL.out rfl
        have HF1 := Lib.hid f1
        have HF2 := Lib.hid f2
        have HBD := Lib.hid (told_bd (A := AR) f3 f4)
        have HSE := Lib.hid f3
        clear f1 f2 f3
        go_wp2
        go_loopw [9, 10, 11] (fun sm le i wr => ∃ j : Nat, j ≤ l1.length ∧ i = .int .i64 j ∧ sm = .int .i64 (sumS ((l1.take j).filter (told AR))) ∧ le = .int .i64 (leS ((l1.take j).filter (told AR))) ∧ Hid (Below Y4.heap.size Y4 wr)) (fun _ _ i _ => l1.length - (intOf i).toNat)
        case atStart => exact ⟨0, Nat.zero_le _, rfl, by simp [sumS], by simp [leS], Lib.hid (Below.refl _ _)⟩
        case round =>
          obtain ⟨j, hj, rfl, rfl, rfl, HBr⟩ := hrel
          by_cases hlt : j < l1.length
          · obtain ⟨hao, hba, hml⟩ := HAO.out (by omega)
            subst hao
            have hlti : (j : Int) < (l1.length : Int) := by omega
            obtain ⟨c0, c1, c2, c3, c4⟩ := (HAT.out.below HBr.out hba) j hlt
            have hOG := owns_below Og_4.out HBr.out
            have HOG := Lib.hid hOG
            have hbd := HBD.out j
            have hse := HSE.out _ (gth_mem hlt)
            have HTS := Lib.hid (fun h => told_sum (l := l1) (A := AR) (k := j) hlt h)
            have HTN := Lib.hid (fun h => told_not (l := l1) (A := AR) (k := j) hlt h)
            have HCD := Lib.hid (fun (W : World) (hW : Below Y4.heap.size Y4 W) => (HAT.out.below hW hba) j hlt)
            clear hOG
            generalize gth l1 j = D at *
            generalize sumS ((l1.take j).filter (told AR)) = SM at *
            generalize leS ((l1.take j).filter (told AR)) = LE at *
            by_cases hmem : D.i ∈ AR
            · obtain ⟨e1, e2⟩ := HTS.out hmem
              have HE1 := Lib.hid e1
              have HE2 := Lib.hid e2
              clear e1 e2
              go_wp2_with fail
              refine (rHas_b _ AR D.i true _ (Rd.of_own HOG.out) (by omega) (by simpa using hmem)).mono ?_
              rintro e w9 ⟨rfl, b9⟩
              have HB9 := Lib.hid (HBr.out.trans (b9.mono HBr.out.size))
              clear b9 c0 c1 c2 c3 c4 hmem
              obtain ⟨c0, c1, c2, c3, c4⟩ := HCD.out _ HB9.out
              have s1 : IntKind.i64.wrap (SM + D.s) = SM + D.s := IntWalk.i64_in _ (by omega)
              by_cases hle : D.s < LE
              · have t1 : decide (D.s < LE) = true := by simpa using hle
                have HL : Hid ((if D.s < LE then D.s else LE) = D.s) := Lib.hid (if_pos hle)
                clear hle
                go_wp2
                go_roundw
                case rel => exact ⟨j + 1, by omega, by go_num, by rw [HE1.out], by rw [HE2.out, HL.out], HB9⟩
                case measure => simp [intOf]; omega
              · have t1 : decide (D.s < LE) = false := by simpa using hle
                have HL : Hid ((if D.s < LE then D.s else LE) = LE) := Lib.hid (if_neg hle)
                clear hle
                go_wp2
                go_roundw
                case rel => exact ⟨j + 1, by omega, by go_num, by rw [HE1.out], by rw [HE2.out, HL.out], HB9⟩
                case measure => simp [intOf]; omega
            · obtain ⟨e1, e2⟩ := HTN.out hmem
              have HE1 := Lib.hid e1
              have HE2 := Lib.hid e2
              clear e1 e2
              go_wp2_with fail
              refine (rHas_b _ AR D.i false _ (Rd.of_own HOG.out) (by omega) (by simpa using hmem)).mono ?_
              rintro e w9 ⟨rfl, b9⟩
              have HB9 := Lib.hid (HBr.out.trans (b9.mono HBr.out.size))
              clear b9 c0 c1 c2 c3 c4 hmem
              go_wp2
              go_roundw
              case rel => exact ⟨j + 1, by omega, by go_num, by rw [HE1.out], by rw [HE2.out], HB9⟩
              case measure => simp [intOf]; omega
          · have hlti : ¬ (j : Int) < (l1.length : Int) := by omega
            have hjl : j = l1.length := by omega
            have hbd := HBD.out j
            have hft : (l1.take j).filter (told AR) = l1.filter (told AR) := by rw [hjl, List.take_length]
            have f1 := HF1.out
            have f2 := HF2.out
            rw [hft] at hbd ⊢
            clear hft hjl
            generalize sumS (l1.filter (told AR)) = SM at *
            generalize leS (l1.filter (told AR)) = LE at *
            have t1 : decide (SM < m1) = false := by simp; omega
            have s1 : IntKind.i64.wrap (SM - LE) = SM - LE := IntWalk.i64_in _ (by omega)
            by_cases h0 : 0 < AR.length
            · have f3 := f2 h0
              have t2 : decide (m1 ≤ SM - LE) = false := by simp; omega
              have t3 : (0 : Int) < (AR.length : Int) := by omega
              clear f1 f2 f3
              go_wp2
              go_meet
              case rel => exact HBr
            · have t3 : ¬ (0 : Int) < (AR.length : Int) := by omega
              clear f1 f2
              go_wp2
              go_meet
              case rel => exact HBr
    case rest =>
      clear HFL HAO HAT
      have TA := Lib.hid (T_4.out.trans (hcut.out.mono T_4.out.size))
      clear hcut T_4 R1_4 Og_4 Oh_4
      have HCode5 := Lib.hid (HC.out.below TA.out)
      go_wp2_with fail
      refine (DrawNextOut_any a len cap _ HCode5.out).mono ?_
      rintro e X5 ⟨v5, l5, m5, rfl, hr, hl5, hm5, hb⟩
      have T5 := Lib.hid (TA.out.trans (hb.mono TA.out.size))
      have HR5 := Lib.hid hr
      have HWm5 := Lib.hid (WalkArith.wf_i64 (n := m5) (by omega))
      clear hb hr HCode5
      go_wp2_with fail
      refine (implNextOut_c v5 l5 m5 _ HR5.out (by omega) HWm5.out).mono ?_
      rintro e Y6 ⟨rfl, b6⟩
      have T_6 := Lib.hid (T5.out.trans (b6.mono T5.out.size))
      have R5_6 := Lib.hid (HR5.out.below b6 rfl)
      clear b6 T5 HR5
      go_wp2_with fail
      refine (specNextOut_c v5 l5 m5 _ R5_6.out (by omega) HWm5.out).mono ?_
      rintro e Y7 ⟨rfl, b7⟩
      have T_7 := Lib.hid (T_6.out.trans (b7.mono T_6.out.size))
      have R5_7 := Lib.hid (R5_6.out.below b7 rfl)
      clear b7 T_6 R5_6
      have HSL := Lib.hid (fun h => seat_law (l := l5) (s := m5) h)
      generalize noOk l5 m5 = fi at *
      generalize noV l5 m5 = nv at *
      go_upto_if 144 with fail
      go_cut [] from 18 (fun wx => Hid (Below Y7.heap.size Y7 wx))
      case first =>
        as_aux_lemma =>
        cases fi with
        | false =>
          go_wp2
          go_meet
          case rel => exact Lib.hid (Below.refl _ _)
        | true =>
          obtain ⟨g1, g2, g3, g4, g5, g6, g7, g8⟩ := HSL.out rfl
          have HW0 := Lib.hid (WalkArith.wf_i64 (n := 0) (by omega))
          have HW1 := Lib.hid (WalkArith.wf_i64 (n := 1) (by omega))
          have HWn := Lib.hid (WalkArith.wf_i64 (n := nv) (by omega))
          have HA1 := Lib.hid (fun W h => implCabinsIn_c v5 l5 0 W h (by omega) HW0.out)
          rw [g1] at HA1
          have HA2 := Lib.hid (fun W h hM => implMoveCabin_c v5 l5 nv 1 W h (by omega) HWn.out HW1.out hM)
          rw [g3] at HA2
          have HA3 := Lib.hid (fun W h => implSeatsOnLine_c v5 l5 W h (by omega))
          rw [g4] at HA3
          have hml := mvR_len l5 nv 1
          have HA4 := Lib.hid (fun V W h => implSeatsOnLine_c V (mvR l5 nv 1) W h (by omega))
          rw [g5] at HA4
          have HG2 := Lib.hid g2
          have hcl := ciR_len l5 0
          clear g1 g2 g3 g4 g5
          generalize soV l5 = SA at *
          generalize soV (mvR l5 nv 1) = SB at *
          have s1 : IntKind.i64.wrap (SA + m5) = SA + m5 := IntWalk.i64_in _ (by omega)
          have t1 : decide (SB < SA + m5) = false := by simp; omega
          have hY0 := Lib.hid (Below.refl Y7.heap.size Y7)
          have HMY := Lib.hid (fun (W : World) (hW : Below Y7.heap.size Y7 W) => HMovP.out W (T_7.out.trans (hW.mono T_7.out.size)))
          go_wp2_with fail
          refine (HA1.out _ R5_7.out).mono ?_
          rintro e Y8 ⟨rd, rfl, o8, b8⟩
          have T_8 := Lib.hid (hY0.out.trans (b8.mono hY0.out.size))
          have R5_8 := Lib.hid (R5_7.out.below b8 rfl)
          have Or_8 := Lib.hid o8
          clear b8 o8 hY0 R5_7
          go_wp2_with fail
          refine (HA2.out _ R5_8.out (HMY.out _ T_8.out)).mono ?_
          rintro e Y9 ⟨ou, rfl, o9, b9⟩
          have T_9 := Lib.hid (T_8.out.trans (b9.mono T_8.out.size))
          have R5_9 := Lib.hid (R5_8.out.below b9 rfl)
          have Or_9 := Lib.hid (owns_below Or_8.out b9)
          have Ou_9 := Lib.hid o9
          clear b9 o9 T_8 R5_8 Or_8
          go_wp2_with fail
          refine (HA3.out _ R5_9.out).mono ?_
          rintro e Y10 ⟨rfl, b10⟩
          have T_10 := Lib.hid (T_9.out.trans (b10.mono T_9.out.size))
          have R5_10 := Lib.hid (R5_9.out.below b10 rfl)
          have Or_10 := Lib.hid (owns_below Or_9.out b10)
          have Ou_10 := Lib.hid (owns_below Ou_9.out b10)
          clear b10 T_9 R5_9 Or_9 Ou_9
          go_wp2_with fail
          refine (HA4.out ou _ (Rs.of_own Ou_10.out)).mono ?_
          rintro e Y11 ⟨rfl, b11⟩
          have T_11 := Lib.hid (T_10.out.trans (b11.mono T_10.out.size))
          have R5_11 := Lib.hid (R5_10.out.below b11 rfl)
          have Or_11 := Lib.hid (owns_below Or_10.out b11)
          have Ou_11 := Lib.hid (owns_below Ou_10.out b11)
          clear b11 T_10 R5_10 Or_10 Ou_10
          go_wp2_with fail
          refine (rHas_b rd (ciR l5 0) nv true _ (Rd.of_own Or_11.out) (by omega) (by simpa using HG2.out)).mono ?_
          rintro e Y12 ⟨rfl, b12⟩
          have T_12 := Lib.hid (T_11.out.trans (b12.mono T_11.out.size))
          have R5_12 := Lib.hid (R5_11.out.below b12 rfl)
          have Or_12 := Lib.hid (owns_below Or_11.out b12)
          have Ou_12 := Lib.hid (owns_below Ou_11.out b12)
          clear b12 T_11 R5_11 Or_11 Ou_11
          go_wp2
          go_meet
          case rel => exact T_12
      case rest =>
        clear HSL
        have TB := Lib.hid (T_7.out.trans (hcut.out.mono T_7.out.size))
        clear hcut T_7 R5_7
        have HCode13 := Lib.hid (HC.out.below TB.out)
        go_wp2_with fail
        refine (DrawWornCabins_any a len cap _ HCode13.out).mono ?_
        rintro e X13 ⟨v13, l13, m13, rfl, hr, hl13, hm13, hb⟩
        have T13 := Lib.hid (TB.out.trans (hb.mono TB.out.size))
        have HR13 := Lib.hid hr
        have HWm13 := Lib.hid (WalkArith.wf_i64 (n := m13) (by omega))
        clear hb hr HCode13
        go_wp2_with fail
        refine (implWornCabins_c v13 l13 m13 _ HR13.out (by omega) HWm13.out).mono ?_
        rintro e Y14 ⟨p, rfl, o14, b14⟩
        have T_14 := Lib.hid (T13.out.trans (b14.mono T13.out.size))
        have R13_14 := Lib.hid (HR13.out.below b14 rfl)
        have Op_14 := Lib.hid o14
        clear b14 o14 T13 HR13
        go_wp2_with fail
        refine (specWornCabins_c v13 l13 m13 _ R13_14.out (by omega) HWm13.out).mono ?_
        rintro e Y15 ⟨q, rfl, o15, b15⟩
        have T_15 := Lib.hid (T_14.out.trans (b15.mono T_14.out.size))
        have R13_15 := Lib.hid (R13_14.out.below b15 rfl)
        have Op_15 := Lib.hid (owns_below Op_14.out b15)
        have Oq_15 := Lib.hid o15
        clear b15 o15 T_14 R13_14 Op_14
        generalize wnOk l13 m13 = wo at *
        generalize wnR l13 m13 = WR at *
        go_wp2_with fail
        refine (rInts_c p q WR _ (Rd.of_own Op_15.out) (Rd.of_own Oq_15.out)).mono ?_
        rintro e Y16 ⟨rfl, b16⟩
        have T_16 := Lib.hid (T_15.out.trans (b16.mono T_15.out.size))
        have R13_16 := Lib.hid (R13_15.out.below b16 rfl)
        have Op_16 := Lib.hid (owns_below Op_15.out b16)
        have Oq_16 := Lib.hid (owns_below Oq_15.out b16)
        clear b16 T_15 R13_15 Op_15 Oq_15
        have HCode17 := Lib.hid (HC.out.below T_16.out)
        go_wp2_with fail
        refine (DrawCabinLoad_any a len cap _ HCode17.out).mono ?_
        rintro e X17 ⟨x17, n17, rfl, hxb17, hn17, hb⟩
        unfold Cab.agg
        have HBX17 := Lib.hid (fun W hh => box_Cab X17 x17 34 _ rfl W hh)
        have BX17 := Lib.hid (Below.refl (X17.heap.size + 1) (X17.alloc (.cells #[.int .i64 x17.i, .int .i64 x17.s, .int .i64 x17.w, .int .i64 x17.g, .int .i64 x17.p] 34)))
        have hT := T_16.out.trans (hb.mono T_16.out.size)
        have T17 := Lib.hid (hT.alloc hT.size (.cells #[.int .i64 x17.i, .int .i64 x17.s, .int .i64 x17.w, .int .i64 x17.g, .int .i64 x17.p] 34))
        have hs17 : (X17.alloc (.cells #[.int .i64 x17.i, .int .i64 x17.s, .int .i64 x17.w, .int .i64 x17.g, .int .i64 x17.p] 34)).heap.size = X17.heap.size + 1 := by simp
        have HWn17 := Lib.hid (WalkArith.wf_i64 (n := n17) (by omega))
        clear hb hT HCode17
        obtain ⟨k0, k1, k2, k3, k4⟩ := HBX17.out _ BX17.out
        go_wp2_with fail
        refine (implCabinLoad_c x17 n17 _ HWn17.out).mono ?_
        rintro e Y18 ⟨rfl, b18⟩
        have T_18 := Lib.hid (T17.out.trans (b18.mono T17.out.size))
        have BX_18 := Lib.hid (BX17.out.trans (b18.mono (by first | exact BX17.out.size | (have := BX17.out.size; omega))))
        clear b18 k0 k1 k2 k3 k4 T17 BX17
        obtain ⟨k0, k1, k2, k3, k4⟩ := HBX17.out _ BX_18.out
        go_wp2_with fail
        refine (specCabinLoad_c x17 n17 _ HWn17.out).mono ?_
        rintro e Y19 ⟨rfl, b19⟩
        have T_19 := Lib.hid (T_18.out.trans (b19.mono T_18.out.size))
        have BX_19 := Lib.hid (BX_18.out.trans (b19.mono (by first | exact BX_18.out.size | (have := BX_18.out.size; omega))))
        clear b19 k0 k1 k2 k3 k4 T_18 BX_18
        have HLL := Lib.hid (fun h => load_law (x := x17) (n := n17) h)
        generalize clOk x17 n17 = lo at *
        generalize clV x17 n17 = lv at *
        go_upto_region 39 with fail
        go_cut [252] from 236 to 252 (fun tt wx => tt = .bool false ∧ wx = Y19)
        case first =>
          as_aux_lemma =>
          obtain ⟨k0, k1, k2, k3, k4⟩ := HBX17.out _ BX_19.out
          cases lo with
          | false =>
            go_wp2
            go_meet
            case rel => exact ⟨rfl, rfl⟩
          | true =>
            have hp3 := HLL.out rfl
            have t1 : decide (lv < x17.w) = false := by simp; omega
            go_wp2
            go_meet
            case rel => exact ⟨rfl, rfl⟩
        case rest =>
          obtain ⟨htt, rfl⟩ := hcut
          subst htt
          clear HLL BX_19
          have HCode20 := Lib.hid (HC.out.below T_19.out)
          go_wp2_with fail
          refine (DrawSeatsOnLine_any a len cap _ HCode20.out).mono ?_
          rintro e X20 ⟨v20, l20, rfl, hr, hl20, hb⟩
          have T20 := Lib.hid (T_19.out.trans (hb.mono T_19.out.size))
          have HR20 := Lib.hid hr
          clear hb hr HCode20
          go_wp2_with fail
          refine (implSeatsOnLine_c v20 l20 _ HR20.out (by omega)).mono ?_
          rintro e Y21 ⟨rfl, b21⟩
          have T_21 := Lib.hid (T20.out.trans (b21.mono T20.out.size))
          have R20_21 := Lib.hid (HR20.out.below b21 rfl)
          clear b21 T20 HR20
          go_wp2_with fail
          refine (specSeatsOnLine_c v20 l20 _ R20_21.out (by omega)).mono ?_
          rintro e Y22 ⟨rfl, b22⟩
          have T_22 := Lib.hid (T_21.out.trans (b22.mono T_21.out.size))
          have R20_22 := Lib.hid (R20_21.out.below b22 rfl)
          clear b22 T_21 R20_21
          have HAC := Lib.hid (fun W h => implAreCabins_c v20 l20 W h (by omega))
          generalize cabL l20 = cl at *
          generalize soV l20 = sv at *
          go_wp2_with fail
          refine (HAC.out _ R20_22.out).mono ?_
          rintro e Y23 ⟨rfl, b23⟩
          have T_23 := Lib.hid (T_22.out.trans (b23.mono T_22.out.size))
          have R20_23 := Lib.hid (R20_22.out.below b23 rfl)
          clear b23 T_22 R20_22
          go_wp2
          go_ret
          exact ⟨by first | rfl | (cases cl <;> rfl) | simp, T_23.out⟩
end Go.Proofs.YtiogjocbiagipabDoor
