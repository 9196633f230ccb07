/- Slices of strings measured and copied. Condition: sizes. -/
import Derived.Test.YthnbbaefeojanaaJoinSpec
import Derived.Test.YthnbbaefeojanaaStrS
import Derived.Test.YthnbbaefeojanaaSplitW
namespace Go.Proofs.Ythnbbaefeojanaa
open Go.RowKit
set_option linter.unusedVariables false
theorem set_take (l : List ByteArray) (xs : List Value) (j : Nat) (hlt : j < l.length) (hxl : xs.length = l.length) :
    ((l.take j).map Value.string ++ xs.drop j).set j (.string l[j]) = (l.take (j + 1)).map Value.string ++ xs.drop (j + 1) := by
  have hj : ((l.take j).map Value.string).length = j := by simp; omega
  rw [List.set_append_right _ _ (by omega), hj, Nat.sub_self, List.drop_eq_getElem_cons (by omega : j < xs.length), List.set_cons_zero, List.take_succ_eq_append_getElem hlt]
  simp only [List.map_append, List.map_cons, List.map_nil, List.append_assoc, List.cons_append, List.nil_append]
set_option maxHeartbeats 400000 in
theorem szStringS_okN (v : Value) (l : List ByteArray) (left : Nat) (w : World) (hr : Rd w v (l.map Value.string)) (hl : left ≤ 1048576) (h : l.length + szs l ≤ left) :
    Calls Try.prog 21 #[v, .int .i64 (left : Int)] w fun e w' => e = .returned (.int .i64 ((left - (l.length + szs l) : Nat) : Int)) ∧ w' = w := by
  by_cases h0 : l = []
  · subst h0
    obtain ⟨a, ca, rfl⟩ := hr.empty
    clear hr
    simp only [List.length_nil, Nat.zero_add, show szs [] = 0 from rfl, Nat.sub_zero]
    go_enter Try.func21, Try.ntmps21
    go_wp2
    refine wp_loop_rounds 1 ?_
    rw [rounds_succ]
    go_wp2
    go_ret
    exact ⟨rfl, rfl⟩
  · obtain ⟨a, oa, ca, rfl, hla, hcap, hm, hca⟩ := hr.strs h0
    have HA := Lib.hid hca
    clear hca hr h0
    go_enter Try.func21, Try.ntmps21
    go_wp2
    go_loop [1, 5] (fun s i => ∃ k : Nat, k ≤ l.length ∧ i = .int .i64 k ∧ s = .int .i64 ((left - (l.length + szs (l.take k)) : Nat) : Int)) (fun _ i => l.length - (intOf i).toNat)
    case atStart => exact ⟨0, Nat.zero_le _, rfl, by simp [szs]; omega⟩
    case round =>
      obtain ⟨k, hk, rfl, rfl⟩ := hrel
      by_cases hlt : k < l.length
      · have c1 : w.cell? ⟨a, oa + k, none⟩ = some (.string l[k]) := HA.out k hlt
        have hs1 := szs_take l k hlt
        have hs2 := szs_take_le l (k + 1)
        have HS := Lib.hid hs1
        have hle : szs (l.take k) + l[k].size + l.length ≤ left := by omega
        clear hs1 hs2
        go_wp2
        go_round
        case rel => exact ⟨k + 1, by omega, by go_num, by rw [HS.out]; go_num⟩
        case measure => simp [intOf]; omega
      · obtain rfl : k = l.length := by omega
        go_wp2
        go_ret
        exact ⟨ret_int (by simp), rfl⟩
set_option maxHeartbeats 400000 in
theorem szStringS_bigN (v : Value) (l : List ByteArray) (left : Nat) (w : World) (hr : Rd w v (l.map Value.string)) (hl : left ≤ 1048576) (hln : l.length ≤ maxLen) (hz : ∀ x ∈ l, x.size ≤ maxLen) (h : left < l.length + szs l) :
    Calls Try.prog 21 #[v, .int .i64 (left : Int)] w fun e w' => e = .returned (.int .i64 (-1)) ∧ w' = w := by
  have h0 : l ≠ [] := by rintro rfl; simp [szs] at h
  obtain ⟨a, oa, ca, rfl, hla, hcap, hm, hca⟩ := hr.strs h0
  have HA := Lib.hid hca
  have HZ := Lib.hid hz
  clear hca hr h0 hz
  unfold maxLen at hln
  by_cases hbig : left < l.length
  · clear h
    go_enter Try.func21, Try.ntmps21
    go_wp2
    go_ret
    exact ⟨rfl, rfl⟩
  · go_enter Try.func21, Try.ntmps21
    go_wp2
    go_loop [1, 5] (fun s i => ∃ k : Nat, k ≤ l.length ∧ i = .int .i64 k ∧ s = .int .i64 ((left - (l.length + szs (l.take k)) : Nat) : Int) ∧ l.length + szs (l.take k) ≤ left) (fun _ i => l.length - (intOf i).toNat)
    case atStart => exact ⟨0, Nat.zero_le _, rfl, by simp [szs]; omega, by simp [szs]; omega⟩
    case round =>
      obtain ⟨k, hk, rfl, rfl, hle⟩ := hrel
      by_cases hlt : k < l.length
      · have c1 : w.cell? ⟨a, oa + k, none⟩ = some (.string l[k]) := HA.out k hlt
        have HS := Lib.hid (szs_take l k hlt)
        have hx : l[k].size ≤ 9223372036854775807 := by have := HZ.out l[k] (List.getElem_mem hlt); unfold maxLen at this; omega
        by_cases hover : left < l.length + szs (l.take k) + l[k].size
        · clear h
          go_wp2
          go_ret
          exact ⟨rfl, rfl⟩
        · go_wp2
          go_round
          case rel => exact ⟨k + 1, by omega, by go_num, by rw [HS.out]; go_num, by rw [HS.out]; omega⟩
          case measure => simp [intOf]; omega
      · exfalso
        obtain rfl : k = l.length := by omega
        rw [List.take_length] at hle
        omega
theorem szStringS_ok (v : Value) (l : List ByteArray) (left : Int) (w : World) (hr : Rd w v (l.map Value.string)) (hl : left ≤ 1048576) (h : ((l.length + szs l : Nat) : Int) ≤ left) :
    Calls Try.prog 21 #[v, .int .i64 left] w fun e w' => e = .returned (.int .i64 (left - ((l.length + szs l : Nat) : Int))) ∧ w' = w := by
  obtain ⟨n, rfl⟩ := Int.eq_ofNat_of_zero_le (by omega : 0 ≤ left)
  refine (szStringS_okN v l n w hr (by omega) (by omega)).mono ?_
  rintro e w' ⟨rfl, rfl⟩
  exact ⟨ret_int (by omega), rfl⟩
theorem szStringS_big (v : Value) (l : List ByteArray) (left : Int) (w : World) (hr : Rd w v (l.map Value.string)) (hl : left ≤ 1048576) (hl0 : 0 ≤ left) (hln : l.length ≤ maxLen) (hz : ∀ x ∈ l, x.size ≤ maxLen) (h : left < ((l.length + szs l : Nat) : Int)) :
    Calls Try.prog 21 #[v, .int .i64 left] w fun e w' => e = .returned (.int .i64 (-1)) ∧ w' = w := by
  obtain ⟨n, rfl⟩ := Int.eq_ofNat_of_zero_le hl0
  exact szStringS_bigN v l n w hr (by omega) hln hz (by omega)
set_option maxHeartbeats 400000 in
theorem toStringS_any (v : Value) (l : List ByteArray) (w : World) (hr : Rd w v (l.map Value.string)) (hln : l.length ≤ 1048576) :
    Calls Try.prog 22 #[v] w fun e w' => ∃ v', e = .returned v' ∧ w'.ownsRow w.heap.size 9 1 v' l.length (l.map Value.string) ∧ Below w.heap.size w w' := by
  obtain ⟨i0, hi, hz0, hz1, hz2⟩ := info_parts Try.infoStr
  by_cases h0 : l = []
  · subst h0
    obtain ⟨a, ca, rfl⟩ := hr.empty
    clear hr
    go_enter Try.func22, Try.ntmps22
    go_wp2_with (at_make; refine wpList_make_full _ rfl _ _ 26 rfl w.heap.size 9 i0 (.string ⟨#[]⟩) 1 Try.underlying26 hi hz0 hz1 _ _ _ _ 0 rfl rfl (by simp) (by simp) (by omega) (by unfold maxLen; omega) (Nat.le_refl _) ?_; intro w0 hown0 hgrow0)
    refine wp_loop_rounds 1 ?_
    rw [rounds_succ]
    go_wp2
    go_ret
    exact ⟨_, rfl, by simpa [madeCells] using hown0, (Below.refl _ _).grown hgrow0 (Nat.le_refl _) (fun k h => by cases h)⟩
  · obtain ⟨a, oa, ca, rfl, hla, hcap, hm, hca⟩ := hr.strs h0
    have HA := Lib.hid hca
    clear hca hr h0
    go_enter Try.func22, Try.ntmps22
    go_wp2_with (at_make; refine wpList_make_full _ rfl _ _ 26 rfl w.heap.size 9 i0 (.string ⟨#[]⟩) 1 Try.underlying26 hi hz0 hz1 _ _ _ _ l.length rfl rfl rfl rfl (by rw [hz2]; omega) (by unfold maxLen; omega) (Nat.le_refl _) ?_; intro w0 hown0 hgrow0)
    have hb0 := (Below.refl w.heap.size w).grown hgrow0 (Nat.le_refl _) (fun k h => by cases h)
    have hxl : (madeCells (Value.string ⟨#[]⟩).cells (l.length * 1)).toList.length = l.length := by have := hown0.1; omega
    generalize (madeCells (Value.string ⟨#[]⟩).cells (l.length * 1)).toList = xs at hown0 hxl
    clear hgrow0
    go_loopw [4] (fun i wr => ∃ j : Nat, j ≤ l.length ∧ i = .int .i64 j ∧ wr.ownsRow w.heap.size 9 1 (.slice (some ⟨w.heap.size, 0, none⟩) l.length l.length) l.length ((l.take j).map Value.string ++ xs.drop j) ∧ Below w.heap.size w wr) (fun i _ => l.length - (intOf i).toNat)
    case atStart => exact ⟨0, Nat.zero_le _, rfl, by simpa using hown0, hb0⟩
    case round =>
      obtain ⟨j, hj, rfl, ho, hb⟩ := hrel
      by_cases hlt : j < l.length
      · have c1 : wr.cell? ⟨a, oa + j, none⟩ = some (.string l[j]) := (hb.cell (p := ⟨a, oa + j, none⟩) hla).trans (HA.out j hlt)
        have hu0 : j < ((l.take j).map Value.string ++ xs.drop j).length := by simp; omega
        have hc1 := (ho.cellAt j (by omega)).trans (List.getElem?_eq_getElem hu0)
        have hf1 := ho.frozenAt j
        have hst := Lib.hid (ho.stored j (.string l[j])).1
        have HE : Hid (((l.take j).map Value.string ++ xs.drop j).set j (.string l[j]) = (l.take (j + 1)).map Value.string ++ xs.drop (j + 1)) := by
          exact set_take l xs j hlt hxl
        go_wp2
        go_roundw
        case rel => exact ⟨j + 1, by omega, by go_num, by rw [← HE.out]; exact hst.out, hb.setCell (Nat.le_refl _) _⟩
        case measure => simp [intOf]; omega
      · obtain rfl : j = l.length := by omega
        go_wp2
        go_ret
        exact ⟨_, rfl, by rw [List.take_length, List.drop_of_length_le (by omega), List.append_nil] at ho; exact ho, hb⟩
end Go.Proofs.Ythnbbaefeojanaa
