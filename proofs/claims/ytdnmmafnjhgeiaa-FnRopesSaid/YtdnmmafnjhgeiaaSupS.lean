/- Slices of supports: the helpers of the exact laws. Condition: sizes. -/
import Derived.Test.YtdnmmafnjhgeiaaRows
import Derived.Test.YtdnmmafnjhgeiaaRs
import Derived.LoopTactic
import Derived.OwnWalk
import Derived.Below
import Derived.Outline
import Derived.WalkKit
import Derived.Lib.Hide
import Derived.Deep.QuietTactic
import Derived.BigQuiet
import Derived.Deep.RegionHeld3
import Derived.StillTailTactics
namespace Go.Proofs.Ytdnmmafnjhgeiaa
open Go.RowKit
set_option linter.unusedVariables false
/-- A support: its place, its height, whether it is a station. -/
structure Sup where
  a : Int
  h : Int
  s : Bool
instance : Inhabited Sup := ⟨⟨0, 0, false⟩⟩
def Sup.enc (x : Sup) : List Value := [.int .i64 x.a, .int .i64 x.h, .bool x.s]
theorem Sup.enc_len (x : Sup) : x.enc.length = 3 := rfl
abbrev sups (l : List Sup) : List Value := flat Sup.enc l
def nth (l : List Sup) (i : Nat) : Sup := l.getD i default
theorem sups_len (l : List Sup) : (sups l).length = l.length * 3 := flat_len Sup.enc_len l
theorem sups_append (l r : List Sup) : sups (l ++ r) = sups l ++ sups r := flat_append _ l r
theorem sups_one (x : Sup) : sups [x] = [.int .i64 x.a, .int .i64 x.h, .bool x.s] := by simp [flat, Sup.enc]
theorem sups_at (l : List Sup) (i : Nat) (hi : i < l.length) : (sups l)[i * 3]? = some (.int .i64 (nth l i).a) ∧ (sups l)[i * 3 + 1]? = some (.int .i64 (nth l i).h) ∧ (sups l)[i * 3 + 2]? = some (.bool (nth l i).s) :=
  ⟨flat_at Sup.enc_len default l i 0 hi (by decide), flat_at Sup.enc_len default l i 1 hi (by decide), flat_at Sup.enc_len default l i 2 hi (by decide)⟩
set_option maxHeartbeats 400000 in
theorem szSupportS_ok (v : Value) (n : Nat) (xs : List Value) (left : Int) (w : World) (hr : Rs w v n xs) (hl : left ≤ 1048576) (h : (n : Int) ≤ left) :
    Calls Try.prog 34 #[v, .int .i64 left] w fun e w' => e = .returned (.int .i64 (left - (n : Int))) ∧ w' = w := by
  obtain ⟨a, ca, rfl⟩ := hr.shape
  clear hr
  go_enter Try.func34, Try.ntmps34
  go_wp2
  go_ret
  exact ⟨rfl, rfl⟩
set_option maxHeartbeats 400000 in
theorem szSupportS_big (v : Value) (n : Nat) (xs : List Value) (left : Int) (w : World) (hr : Rs w v n xs) (hn : n ≤ maxLen) (hl : left ≤ 1048576) (h0 : 0 ≤ left) (h : left < (n : Int)) :
    Calls Try.prog 34 #[v, .int .i64 left] w fun e w' => e = .returned (.int .i64 (-1)) ∧ w' = w := by
  obtain ⟨a, ca, rfl⟩ := hr.shape
  unfold maxLen at hn
  clear hr
  go_enter Try.func34, Try.ntmps34
  go_wp2
  go_ret
  exact ⟨rfl, rfl⟩
theorem Try.infoSup : (Try.prog.info? 94).map (fun i => (i.zero, i.size, i.bytes)) = some (some (.agg #[.int .i64 0, .int .i64 0, .bool false]), 3, 24) := by kernel_rfl
set_option maxHeartbeats 400000 in
theorem toSupport_any (x : Sup) (w : World) :
    Calls Try.prog 84 #[.agg #[.int .i64 x.a, .int .i64 x.h, .bool x.s]] w fun e w' => e = .returned (.agg #[.int .i64 x.a, .int .i64 x.h, .bool x.s]) ∧ Below w.heap.size w w' := by
  go_enter Try.func84, Try.ntmps84
  go_wp2
  refine bodyPost_ret (v := .agg #[.int .i64 x.a, .int .i64 x.h, .bool x.s]) (by simp [results, Try.results84, go_sem]) rfl ⟨rfl, ?_⟩
  exact (((Below.refl _ _).alloc (Nat.le_refl _) _).alloc (by simp) _).alloc (by simp; omega) _
theorem nth_some {l : List Sup} {i : Nat} (h : i < l.length) : l[i]? = some (nth l i) := by simp [nth, List.getD, h]
theorem sups_take_len (l : List Sup) (j : Nat) (h : j ≤ l.length) : (sups (l.take j)).length = j * 3 := by rw [sups_len, List.length_take, Nat.min_eq_left h]
theorem take_nth (l : List Sup) (j : Nat) (h : j < l.length) : l.take (j + 1) = l.take j ++ [nth l j] := by
  rw [List.take_add_one, nth_some h]; rfl
theorem set3 (p xs : List Value) (j : Nat) (u0 u1 u2 : Value) (hp : p.length = j * 3) (hx : (j + 1) * 3 ≤ xs.length) :
    (((p ++ xs.drop (j * 3)).set (j * 3) u0).set (j * 3 + 1) u1).set (j * 3 + 2) u2 = p ++ [u0, u1, u2] ++ xs.drop ((j + 1) * 3) := by
  have h0 : j * 3 < xs.length := by omega
  have h1 : j * 3 + 1 < xs.length := by omega
  have h2 : j * 3 + 2 < xs.length := by omega
  rw [List.drop_eq_getElem_cons h0, List.drop_eq_getElem_cons h1, List.drop_eq_getElem_cons h2]
  rw [List.set_append_right _ _ (by omega), hp, List.set_append_right _ _ (by omega), hp, List.set_append_right _ _ (by omega), hp]
  simp only [Nat.sub_self, Nat.add_sub_cancel_left, List.set_cons_zero, List.set_cons_succ, List.append_assoc, List.cons_append, List.nil_append]
  rw [show j * 3 + 2 + 1 = (j + 1) * 3 by omega]
set_option maxHeartbeats 400000 in
theorem toSupportS_any (v : Value) (l : List Sup) (w : World) (hr : Rs w v l.length (sups l)) (hln : l.length ≤ 1048576) :
    Calls Try.prog 36 #[v] w fun e w' => ∃ v', e = .returned v' ∧ w'.ownsRow w.heap.size 94 3 v' l.length (sups l) ∧ Below w.heap.size w w' := by
  obtain ⟨i0, hi, hz0, hz1, hz2⟩ := info_parts Try.infoSup
  by_cases h0 : l.length = 0
  · obtain rfl := List.eq_nil_of_length_eq_zero h0
    obtain ⟨a, ca, rfl⟩ := hr.zero
    clear hr h0
    go_enter Try.func36, Try.ntmps36
    go_wp2_with (at_make; refine wpList_make_full _ rfl _ _ 24 rfl w.heap.size 94 i0 (.agg #[.int .i64 0, .int .i64 0, .bool false]) 3 Try.underlying24 hi hz0 hz1 _ _ _ _ 0 rfl rfl (by simp) (by simp) (by omega) (by unfold maxLen; omega) (Nat.le_refl _) ?_; intro w0 hown0 hgrow0)
    refine wp_loop_rounds 1 ?_
    rw [rounds_succ]
    go_wp2
    go_ret
    exact ⟨_, rfl, by simpa [madeCells, flat] using hown0, (Below.refl _ _).grown hgrow0 (Nat.le_refl _) (fun k h => by cases h)⟩
  · obtain ⟨a, oa, ca, rfl, hla, hcap, hm, hca⟩ := hr.pos h0
    have HA := Lib.hid hca
    clear hca hr h0
    go_enter Try.func36, Try.ntmps36
    go_wp2_with (at_make; refine wpList_make_full _ rfl _ _ 24 rfl w.heap.size 94 i0 (.agg #[.int .i64 0, .int .i64 0, .bool false]) 3 Try.underlying24 hi hz0 hz1 _ _ _ _ l.length rfl rfl rfl rfl (by rw [hz2]; omega) (by unfold maxLen; omega) (Nat.le_refl _) ?_; intro w0 hown0 hgrow0)
    have hb0 := (Below.refl w.heap.size w).grown hgrow0 (Nat.le_refl _) (fun k h => by cases h)
    have hxl : (madeCells (Value.agg #[.int .i64 0, .int .i64 0, .bool false]).cells (l.length * 3)).toList.length = l.length * 3 := hown0.1
    generalize (madeCells (Value.agg #[.int .i64 0, .int .i64 0, .bool false]).cells (l.length * 3)).toList = xs at hown0 hxl
    clear hgrow0
    go_loopw [4] (fun i wr => ∃ j : Nat, j ≤ l.length ∧ i = .int .i64 j ∧ wr.ownsRow w.heap.size 94 3 (.slice (some ⟨w.heap.size, 0, none⟩) l.length l.length) l.length (sups (l.take j) ++ xs.drop (j * 3)) ∧ Below w.heap.size w wr) (fun i _ => l.length - (intOf i).toNat)
    case atStart => exact ⟨0, Nat.zero_le _, rfl, by simpa [flat] using hown0, hb0⟩
    case round =>
      obtain ⟨j, hj, rfl, ho, hb⟩ := hrel
      by_cases hlt : j < l.length
      · obtain ⟨e0, e1, e2⟩ := sups_at l j hlt
        have c0 : wr.cell? ⟨a, oa + j * 3, none⟩ = some (.int .i64 (nth l j).a) := (hb.cell (p := ⟨a, oa + j * 3, none⟩) hla).trans (HA.out _ _ e0)
        have c1 : wr.cell? ⟨a, oa + j * 3 + 1, none⟩ = some (.int .i64 (nth l j).h) := (hb.cell (p := ⟨a, oa + j * 3 + 1, none⟩) hla).trans (HA.out _ _ e1)
        have c2 : wr.cell? ⟨a, oa + j * 3 + 2, none⟩ = some (.bool (nth l j).s) := (hb.cell (p := ⟨a, oa + j * 3 + 2, none⟩) hla).trans (HA.out _ _ e2)
        clear e0 e1 e2
        have HX : Hid ((((((sups (l.take j) ++ xs.drop (j * 3)).set (j * 3) (.int .i64 (nth l j).a)).set (j * 3 + 1) (.int .i64 (nth l j).h)).set (j * 3 + 2) (.bool (nth l j).s))) = sups (l.take (j + 1)) ++ xs.drop ((j + 1) * 3)) := by
          rw [Hid, set3 _ _ _ _ _ _ (sups_take_len l j hj) (by omega), take_nth l j hlt, sups_append, sups_one]
        have hu0 : j * 3 + 2 < (sups (l.take j) ++ xs.drop (j * 3)).length := by simp [sups_take_len l j hj]; omega
        go_wp2_with fail
        refine (toSupport_any (nth l j) _).mono ?_
        rintro e w1 ⟨rfl, hb1⟩
        have ho1 := owns_below ho hb1
        have k0 := (ho1.cellAt (j * 3) (by omega)).trans (List.getElem?_eq_getElem (by omega))
        have k1 := (ho1.cellAt (j * 3 + 1) (by omega)).trans (List.getElem?_eq_getElem (by omega))
        have k2 := (ho1.cellAt (j * 3 + 2) (by omega)).trans (List.getElem?_eq_getElem (by omega))
        have f0 := ho1.frozenAt (j * 3)
        have f1 := ho1.frozenAt (j * 3 + 1)
        have f2 := ho1.frozenAt (j * 3 + 2)
        have hst := (((ho1.stored (j * 3) (.int .i64 (nth l j).a)).1.stored (j * 3 + 1) (.int .i64 (nth l j).h)).1.stored (j * 3 + 2) (.bool (nth l j).s)).1
        rw [HX.out] at hst
        go_wp2
        go_roundw
        case rel => exact ⟨j + 1, by omega, by go_num, hst, (((hb.trans (hb1.mono hb.size)).setCell (Nat.le_refl _) _).setCell (Nat.le_refl _) _).setCell (Nat.le_refl _) _⟩
        case measure => simp [intOf]; omega
      · obtain rfl : j = l.length := by omega
        go_wp2
        go_ret
        exact ⟨_, rfl, by rw [List.take_length, List.drop_of_length_le (by omega), List.append_nil] at ho; exact ho, hb⟩
set_option maxHeartbeats 400000 in
theorem eqSupport_same (x : Sup) (w : World) :
    Calls Try.prog 85 #[.agg #[.int .i64 x.a, .int .i64 x.h, .bool x.s], .agg #[.int .i64 x.a, .int .i64 x.h, .bool x.s]] w fun e w' => e = .returned (.bool true) ∧ Below w.heap.size w w' := by
  go_enter Try.func85, Try.ntmps85
  go_wp2
  go_ret
  exact ⟨rfl, ((Below.refl _ _).alloc (Nat.le_refl _) _).alloc (by simp) _⟩
set_option maxRecDepth 100000 in
set_option maxHeartbeats 400000 in
theorem eqSupportS_same (va vb : Value) (l : List Sup) (w : World) (ha : Rs w va l.length (sups l)) (hb : Rs w vb l.length (sups l)) :
    Calls Try.prog 38 #[va, vb] w fun e w' => e = .returned (.bool true) ∧ Below w.heap.size w w' := by
  by_cases h0 : l.length = 0
  · obtain rfl := List.eq_nil_of_length_eq_zero h0
    obtain ⟨a, ca, rfl⟩ := ha.zero
    obtain ⟨b, cb, rfl⟩ := hb.zero
    clear ha hb h0
    go_enter Try.func38, Try.ntmps38
    go_wp2
    refine wp_loop_rounds 1 ?_
    rw [rounds_succ]
    go_wp2
    go_ret
    exact ⟨rfl, Below.refl _ _⟩
  · obtain ⟨a, oa, ca, rfl, hla, hcap, hm, hca⟩ := ha.pos h0
    obtain ⟨b, ob, cb, rfl, hlb, _, _, hcb⟩ := hb.pos h0
    unfold maxLen at hm
    have HA := Lib.hid hca
    have HB := Lib.hid hcb
    clear hca hcb ha hb h0
    go_enter Try.func38, Try.ntmps38
    go_wp2
    go_loopw [5] (fun i wr => ∃ k : Nat, k ≤ l.length ∧ i = .int .i64 k ∧ Below w.heap.size w wr) (fun i _ => l.length - (intOf i).toNat)
    case atStart => exact ⟨0, Nat.zero_le _, rfl, Below.refl _ _⟩
    case round =>
      obtain ⟨k, hk, rfl, hb⟩ := hrel
      by_cases hlt : k < l.length
      · obtain ⟨e0, e1, e2⟩ := sups_at l k hlt
        have c0 : wr.cell? ⟨a, oa + k * 3, none⟩ = some (.int .i64 (nth l k).a) := (hb.cell (p := ⟨a, oa + k * 3, none⟩) hla).trans (HA.out _ _ e0)
        have c1 : wr.cell? ⟨a, oa + k * 3 + 1, none⟩ = some (.int .i64 (nth l k).h) := (hb.cell (p := ⟨a, oa + k * 3 + 1, none⟩) hla).trans (HA.out _ _ e1)
        have c2 : wr.cell? ⟨a, oa + k * 3 + 2, none⟩ = some (.bool (nth l k).s) := (hb.cell (p := ⟨a, oa + k * 3 + 2, none⟩) hla).trans (HA.out _ _ e2)
        have d0 : wr.cell? ⟨b, ob + k * 3, none⟩ = some (.int .i64 (nth l k).a) := (hb.cell (p := ⟨b, ob + k * 3, none⟩) hlb).trans (HB.out _ _ e0)
        have d1 : wr.cell? ⟨b, ob + k * 3 + 1, none⟩ = some (.int .i64 (nth l k).h) := (hb.cell (p := ⟨b, ob + k * 3 + 1, none⟩) hlb).trans (HB.out _ _ e1)
        have d2 : wr.cell? ⟨b, ob + k * 3 + 2, none⟩ = some (.bool (nth l k).s) := (hb.cell (p := ⟨b, ob + k * 3 + 2, none⟩) hlb).trans (HB.out _ _ e2)
        clear e0 e1 e2
        go_wp2_with fail
        go_still_tail 8, (by kernel_rfl)
        change wpList _ _ _ _ _ wr.drew
        go_wp2_with fail
        refine (eqSupport_same (nth l k) wr.drew).mono ?_
        rintro e w1 ⟨rfl, hb1⟩
        go_wp2
        go_roundw
        case rel => exact ⟨k + 1, by omega, by go_num, hb.drew.trans (hb1.mono hb.size)⟩
        case measure => simp [intOf]; omega
      · go_wp2
        go_ret
        exact ⟨rfl, hb⟩
end Go.Proofs.Ytdnmmafnjhgeiaa
