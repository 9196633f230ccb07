/- The iterator over the parts of a string. Condition: sizes. -/
import Derived.RangeFuncBox
import Derived.RangeFuncLeaves
import Derived.Shelf.Abstract
import Derived.WalkKit
import Derived.OwnWalkIn
import Derived.TacticsInMore
import Derived.LoopNIn
import Derived.LoopIn
import Derived.Maps.AppendAt
import Derived.Test.YtmmjbdffpgohdaaDoorRows
import Derived.Test.YtmmjbdffpgohdaaDoorSplitMath
import Derived.Outline
import Derived.Sort.BigQuietIn
namespace Go.Proofs.YtmmjbdffpgohdaaDoor
open Go.RowKit Go.Shelf
set_option linter.unusedVariables false
attribute [local go_sem] Oper.semAt_some
/-- Two blocks lie as they lay. -/
def Kp2 (B : Nat) (W W' : World) : Prop := W'.heap[B]? = W.heap[B]? ∧ W'.heap[B + 1]? = W.heap[B + 1]?
theorem Kp2.cell0 {B : Nat} {W W' : World} (h : Kp2 B W W') : W'.cell? ⟨B, 0, none⟩ = W.cell? ⟨B, 0, none⟩ := World.cell?_of_block (w := W) (a := ⟨B, 0, none⟩) h.1
theorem Kp2.cell1 {B : Nat} {W W' : World} (h : Kp2 B W W') : W'.cell? ⟨B + 1, 0, none⟩ = W.cell? ⟨B + 1, 0, none⟩ := World.cell?_of_block (w := W) (a := ⟨B + 1, 0, none⟩) h.2
theorem grown_drewN (w : World) (n : Nat) (row : Option Nat) : w.grownBy (w.drewN n) row := ⟨rfl, rfl, rfl, Nat.le_refl _, fun _ _ _ => rfl⟩
theorem split_pre {c : UInt8} {s : ByteArray} : ∀ k, k ≤ s.size → ∀ j, j ≤ k → spP c s j <+: spP c s k := by
  intro k
  induction k with
  | zero => intro _ j hj; obtain rfl : j = 0 := by omega
            exact List.prefix_refl _
  | succ k ih =>
    intro hk j hj
    by_cases e : j = k + 1
    · subst e; exact List.prefix_refl _
    · refine (ih (by omega) j (by omega)).trans ?_
      conv => rhs; unfold spP
      split
      · exact List.prefix_append _ _
      · exact List.prefix_refl _
theorem split_pre_all {c : UInt8} {s : ByteArray} {j : Nat} (hj : j ≤ s.size) : spP c s j <+: splitAll c s := (split_pre s.size (Nat.le_refl _) j hj).trans (List.prefix_append _ _)
theorem split_hit_pre {c : UInt8} {s : ByteArray} {k : Nat} (h : k < s.size) (e : s[k] = c) : spP c s k ++ [s.extract (spF c s k) k] <+: splitAll c s := by
  rw [← (sp_hit h e).2]; exact split_pre_all (by omega)
theorem split_hit_len {c : UInt8} {s : ByteArray} {k : Nat} (h : k < s.size) (e : s[k] = c) : (spP c s k).length < (splitAll c s).length := by
  have := (split_hit_pre h e).length_le; simp at this; omega
set_option maxRecDepth 100000 in
set_option maxHeartbeats 1000000 in
theorem parts1_in (n : Nat) (hn : 1 ≤ n) (l B : Nat) (s : ByteArray) (c : UInt8) (hs : s.size ≤ 1099511627776) (J Jx : List ByteArray → World → Prop)
    (hab : ∀ ys W m, J ys W → J ys (W.drewN m))
    (hY : ∀ pre x W, J pre W → pre.length < (splitAll c s).length → YieldAt Fence.wide (n - 1) Tryd.prog l #[.string x] W fun e W' =>
      (e = .returned (.bool true) ∧ J (pre ++ [x]) W' ∧ Kp2 B W W') ∨ (e = .returned (.bool false) ∧ Jx (pre ++ [x]) W'))
    (W : World) (h0 : W.cell? ⟨B, 0, none⟩ = some (.string s)) (h1 : W.cell? ⟨B + 1, 0, none⟩ = some (.int .u8 (c.toNat : Int))) (hJ0 : J [] W) :
    CallsIn Fence.wide n Tryd.prog 46 #[.func (.yield l) #[] #[], .pointer (some ⟨B, 0, none⟩), .pointer (some ⟨B + 1, 0, none⟩)] W fun e W' => (∃ v, e = .returned v) ∧
      ((∃ ys, ys = splitAll c s ∧ J ys W') ∨ (∃ pre, pre <+: splitAll c s ∧ Jx pre W')) := by
  refine callsIn_of_wp Tryd.func46 rfl trivial ?_ rfl
  simp only [Tryd.ntmps46, List.size_toArray, List.length_cons, List.length_nil, Nat.reduceAdd, Nat.reduceSub, Array.replicate_succ, Array.replicate_zero, List.push_toArray, List.append_toArray, List.nil_append, List.cons_append]
  gi_wp2
  gi_loopw [4, 8] (fun f i wr => ∃ k : Nat, k ≤ s.size ∧ i = .int .i64 k ∧ f = .int .i64 (spF c s k) ∧ J (spP c s k) wr ∧ wr.cell? ⟨B, 0, none⟩ = some (.string s) ∧ wr.cell? ⟨B + 1, 0, none⟩ = some (.int .u8 (c.toNat : Int)))
    (fun _ i _ => s.size - (intOf i).toNat)
  case atStart => exact ⟨0, Nat.zero_le _, rfl, rfl, hJ0, h0, h1⟩
  case round =>
    obtain ⟨k, hk, rfl, rfl, hJ, hc0, hc1⟩ := hrel
    have hF := spF_le c s k
    have hP := spP_len c s k
    by_cases hlt : k < s.size
    · by_cases hc : s[k] = c
      · have H := Lib.hid (sp_hit hlt hc)
        have hcb : ((s[k].toNat : Int) != (c.toNat : Int)) = false := by simp [hc]
        have HL := Lib.hid (split_hit_pre hlt hc)
        have hl := split_hit_len hlt hc
        clear hc
        gi_wp2
        gi_big_quiet_th (fail)
        obtain ⟨fn, tmps, assign, body, hy, hR⟩ := hY (spP c s k) (s.extract (spF c s k) k) (wr.drewN nq) (hab _ _ _ hJ) hl
        gi_wp2
        refine hR.mono ?_
        rintro e W3 (⟨rfl, hJ3, hk3⟩ | ⟨rfl, hJx3⟩)
        · have g0 := hk3.cell0
          have g1 := hk3.cell1
          rw [World.cell?_drewN] at g0 g1
          rw [hc0] at g0
          rw [hc1] at g1
          gi_wp2
          go_roundw
          case rel => exact ⟨k + 1, by omega, by go_num, by rw [H.out.1]; go_num, by rw [H.out.2]; exact hJ3, g0, g1⟩
          case measure => simp [intOf]; omega
        · gi_wp2
          refine bodyPost_ret (results_none rfl _ _ _) rfl ?_
          exact ⟨⟨_, rfl⟩, .inr ⟨_, HL.out, hJx3⟩⟩
      · have H := Lib.hid (sp_miss hlt hc)
        have hcb : ((s[k].toNat : Int) != (c.toNat : Int)) = true := by
          rw [bne_iff_ne]; intro h; exact hc (UInt8.toNat_inj.1 (by omega))
        clear hc
        gi_wp2
        gi_big_quiet_th (fail)
        gi_wp2
        go_roundw
        case rel => exact ⟨k + 1, by omega, by go_num, by rw [H.out.1], by rw [H.out.2]; exact hab _ _ _ hJ, hc0, hc1⟩
        case measure => simp [intOf]; omega
    · obtain rfl : k = s.size := by omega
      obtain ⟨fn, tmps, assign, body, hy, hR⟩ := hY (spP c s s.size) (s.extract (spF c s s.size) s.size) wr hJ (by simp [splitAll])
      gi_wp2
      refine hR.mono ?_
      rintro e W3 (⟨rfl, hJ3, hk3⟩ | ⟨rfl, hJx3⟩)
      · gi_wp2
        go_end0
        exact ⟨⟨_, rfl⟩, .inl ⟨_, rfl, hJ3⟩⟩
      · gi_wp2
        go_end0
        exact ⟨⟨_, rfl⟩, .inr ⟨_, List.prefix_refl _, hJx3⟩⟩
theorem parts_stops (n : Nat) (hn : 1 ≤ n) (B : Nat) (s : ByteArray) (c : UInt8) (hs : s.size ≤ 1099511627776) (w : World) (hB : B + 1 < w.heap.size)
    (h0 : w.cell? ⟨B, 0, none⟩ = some (.string s)) (h1 : w.cell? ⟨B + 1, 0, none⟩ = some (.int .u8 (c.toNat : Int))) :
    SeqStopsK Fence.wide n Tryd.prog 46 #[.pointer (some ⟨B, 0, none⟩), .pointer (some ⟨B + 1, 0, none⟩)] (fun x : ByteArray => #[Value.string x]) (Kp2 B) (fun ys => ys = splitAll c s) (fun pre => pre <+: splitAll c s) (splitAll c s).length w := fun l J Jx W hW hJ _ hY hJ0 =>
  parts1_in n hn l B s c hs J Jx (fun ys V m h => hJ ys V _ none h (grown_drewN V m none) (fun r e => by cases e)) hY W
    ((hW.cell (p := ⟨B, 0, none⟩) (by show B < _; omega)).trans h0) ((hW.cell (p := ⟨B + 1, 0, none⟩) hB).trans h1) hJ0
theorem kp2_t {B : Nat} {X Y Z : World} (h : Kp2 B X Y) (k : Kp2 B Y Z) : Kp2 B X Z := ⟨k.1.trans h.1, k.2.trans h.2⟩
theorem kp2_b {B : Nat} {w : World} (hB : B + 1 < w.heap.size) (W : World) (l : Nat) (o o' : Obj) (hl : w.heap.size ≤ l) (_ : W.heap[l]? = some o) (_ : o.isCells = false) (_ : o.isWalk = false) : Kp2 B W (W.putObj l o') :=
  ⟨World.putObj_heap_other (by omega), World.putObj_heap_other (by omega)⟩
set_option maxHeartbeats 1000000 in
theorem partsBetween_in (n : Nat) (s : ByteArray) (c : UInt8) (w : World) :
    CallsIn Fence.wide n Tryd.prog 36 #[.string s, .int .u8 (c.toNat : Int)] w fun e w' => e = .returned (.func (.func 46) #[] #[.pointer (some ⟨w.heap.size, 0, none⟩), .pointer (some ⟨w.heap.size + 1, 0, none⟩)]) ∧ w' = (w.alloc (.cells #[.string s] 9)).alloc (.cells #[.int .u8 (c.toNat : Int)] 5) := by
  refine callsIn_of_wp Tryd.func36 rfl trivial ?_ rfl
  simp only [Tryd.ntmps36, List.size_toArray, List.length_cons, List.length_nil, Nat.reduceAdd, Nat.reduceSub, Array.replicate_succ, Array.replicate_zero, List.push_toArray, List.append_toArray, List.nil_append, List.cons_append]
  gi_wp2
  go_ret
  exact ⟨rfl, rfl⟩
end Go.Proofs.YtmmjbdffpgohdaaDoor
