/- A slice of integers copied into a row of one's own. Condition: sizes. -/
import Derived.Test.YtoamhbobcpljpaaIntS
import Derived.Test.YtoamhbobcpljpaaGS
namespace Go.Proofs.Ytoamhbobcpljpaa
open Go.RowKit
set_option linter.unusedVariables false
theorem Try.infoIntT : (Try.prog.info? 3).map (fun i => (i.zero, i.size, i.bytes)) = some (some (.int .i64 0), 1, 8) := by kernel_rfl
theorem ints_set (l : List Int) (j : Nat) (xs : List Value) (hj : j < l.length) (hl : xs.length = l.length) :
    (intVs (l.take j) ++ xs.drop j).set j (.int .i64 (l.getD j 0)) = intVs (l.take (j + 1)) ++ xs.drop (j + 1) := by
  have h1 : (intVs (l.take j)).length = j := by simp [intVs]; omega
  rw [List.set_append_right _ _ (by omega), h1, Nat.sub_self, List.drop_eq_getElem_cons (by omega : j < xs.length), List.set_cons_zero]
  have e : l.take (j + 1) = l.take j ++ [l.getD j 0] := by rw [List.take_succ_eq_append_getElem hj]; simp [List.getD, hj]
  rw [e]
  simp [intVs]
set_option maxHeartbeats 1000000 in
theorem toIntS_any (v : Value) (l : List Int) (w : World) (hr : Rd w v (intVs l)) (hln : l.length ≤ 1048576) :
    Calls Try.prog 44 #[v] w fun e w' => ∃ v', e = .returned v' ∧ w'.ownsRow w.heap.size 3 1 v' l.length (intVs l) ∧ Below w.heap.size w w' := by
  obtain ⟨i0, hi, hz0, hz1, hz2⟩ := info_parts Try.infoIntT
  by_cases h0 : l = []
  · subst h0
    obtain ⟨a, ca, rfl⟩ := hr.iv0
    clear hr
    go_enter Try.func44, Try.ntmps44
    go_wp2_with (at_make; refine wpList_make_full _ rfl _ _ 28 rfl w.heap.size 3 i0 (.int .i64 0) 1 Try.underlying28 hi hz0 hz1 _ _ _ _ 0 rfl rfl (by simp) (by simp) (by omega) (by unfold maxLen; omega) (Nat.le_refl _) ?_; intro w0 hown0 hgrow0)
    refine wp_loop_rounds 1 ?_
    rw [rounds_succ]
    go_wp2
    go_ret
    exact ⟨_, rfl, by simpa [madeCells, intVs] using hown0, (Below.refl _ _).grown hgrow0 (Nat.le_refl _) (fun k h => by cases h)⟩
  · obtain ⟨a, oa, ca, rfl, hla, hm, hca⟩ := hr.iv h0
    have HA := Lib.hid hca
    clear hca hr h0
    go_enter Try.func44, Try.ntmps44
    go_wp2_with (at_make; refine wpList_make_full _ rfl _ _ 28 rfl w.heap.size 3 i0 (.int .i64 0) 1 Try.underlying28 hi hz0 hz1 _ _ _ _ l.length rfl rfl rfl rfl (by rw [hz2]; omega) (by unfold maxLen; omega) (Nat.le_refl _) ?_; intro w0 hown0 hgrow0)
    have hb0 := (Below.refl w.heap.size w).grown hgrow0 (Nat.le_refl _) (fun k h => by cases h)
    have hxl : (madeCells (Value.int .i64 0).cells (l.length * 1)).toList.length = l.length := by have := hown0.1; omega
    generalize (madeCells (Value.int .i64 0).cells (l.length * 1)).toList = xs at hown0 hxl
    clear hgrow0
    go_loopw [4] (fun i wr => ∃ j : Nat, j ≤ l.length ∧ i = .int .i64 j ∧ wr.ownsRow w.heap.size 3 1 (.slice (some ⟨w.heap.size, 0, none⟩) l.length l.length) l.length (intVs (l.take j) ++ xs.drop j) ∧ Below w.heap.size w wr) (fun i _ => l.length - (intOf i).toNat)
    case atStart => exact ⟨0, Nat.zero_le _, rfl, by simpa [intVs] using hown0, hb0⟩
    case round =>
      obtain ⟨j, hj, rfl, ho, hb⟩ := hrel
      by_cases hlt : j < l.length
      · have c0 : wr.cell? ⟨a, oa + j, none⟩ = some (.int .i64 (l.getD j 0)) := (hb.cell (p := ⟨a, oa + j, none⟩) hla).trans (HA.out j hlt)
        have HX := Lib.hid (ints_set l j xs hlt hxl)
        have hu0 : j < (intVs (l.take j) ++ xs.drop j).length := by simp [intVs]; omega
        generalize l.getD j 0 = X at *
        have k0 := (ho.cellAt j (by omega)).trans (List.getElem?_eq_getElem hu0)
        have f0 := ho.frozenAt j
        have hst := (ho.stored j (.int .i64 X)).1
        rw [HX.out] at hst
        go_wp2
        go_roundw
        case rel => exact ⟨j + 1, by omega, by go_num, by simpa using hst, by simpa using hb.setCell (p := ⟨w.heap.size, j, none⟩) (Nat.le_refl _) (.int .i64 X)⟩
        case measure => simp [intOf]; omega
      · obtain rfl : j = l.length := by omega
        go_wp2
        go_ret
        exact ⟨_, rfl, by rw [List.take_length, List.drop_of_length_le (by omega), List.append_nil] at ho; exact ho, hb⟩
end Go.Proofs.Ytoamhbobcpljpaa
