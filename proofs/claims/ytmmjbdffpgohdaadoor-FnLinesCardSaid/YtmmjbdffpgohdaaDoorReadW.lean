/- The walks of ParseInt. Condition: the library's table and errors are as laid. -/
import Derived.Test.YtmmjbdffpgohdaaDoorFmtW
import Derived.Test.YtmmjbdffpgohdaaDoorReadMath
import Derived.Test.YtmmjbdffpgohdaaDoorSplitMath
namespace Go.Proofs.YtmmjbdffpgohdaaDoor
open Go.RowKit
set_option linter.unusedVariables false
set_option maxHeartbeats 1000000 in
theorem l1Read_neg (s t : ByteArray) (r : Int) (b : Bool) (w : World) (hs : s.size ≤ 7) (h1 : 1 < s.size) (hm : s[0] = 45) (ht : s.extract 1 s.size = t)
    (hbad : ∀ (k : Nat) (h : k < t.size), ¬ (48 ≤ t[k].toNat ∧ t[k].toNat ≤ 57) → r = 0 ∧ b = false)
    (hgood : ∀ v : Nat, Lib.decFrom 0 t.data.toList = some v → num (-(v : Int)) = s → r = -(v : Int) ∧ b = true)
    (hwrong : ∀ v : Nat, Lib.decFrom 0 t.data.toList = some v → num (-(v : Int)) ≠ s → r = 0 ∧ b = false) :
    Calls Tryd.prog 32 #[.string s] w fun e w' => e = .returned (.tuple #[.int .i64 r, .bool b]) ∧ Below w.heap.size w w' := by
  have HT := Lib.hid ht
  have HZ : Hid (t.size = s.size - 1) := by show _ = _; rw [← ht]; simp [ByteArray.size_extract]
  have HBad := Lib.hid hbad
  have HGood := Lib.hid hgood
  have HWrong := Lib.hid hwrong
  clear ht hbad hgood hwrong
  go_enter Tryd.func32, Tryd.ntmps32
  go_wp2_with (go_at_call 33; refine (l1In_yes _ _ _ _ (by omega) (by omega)).mono ?_; rintro e w' ⟨rfl, rfl⟩)
  rw [HT.out]
  have htz : t.size ≤ 6 := by rw [HZ.out]; omega
  have hts : (t.size : Int) < (s.size : Int) := by rw [HZ.out]; omega
  clear hm
  go_loopw [5, 6] (fun n i wr => ∃ k v : Nat, k ≤ t.size ∧ i = .int .i64 k ∧ n = .int .i64 v ∧ v < 10 ^ k ∧ Hid (Lib.decFrom 0 (t.data.toList.take k) = some v) ∧ w = wr) (fun _ i _ => t.size - (intOf i).toNat)
  case atStart => exact ⟨0, 0, Nat.zero_le _, rfl, rfl, by simp, rfl, rfl⟩
  case round =>
    obtain ⟨k, v, hk, rfl, rfl, hv, HV, rfl⟩ := hrel
    have hpow : (10 : Nat) ^ k ≤ 1000000 := by
      have e : ∀ i : Fin 7, (10 : Nat) ^ i.val ≤ 1000000 := by decide
      exact e ⟨k, by omega⟩
    have hv6 : v < 1000000 := by omega
    by_cases hlt : k < t.size
    · by_cases hd : 48 ≤ t[k].toNat ∧ t[k].toNat ≤ 57
      · have hp : (10 : Nat) ^ (k + 1) = 10 ^ k * 10 := by rw [Nat.pow_succ]
        have hv2 : v * 10 + (t[k].toNat - 48) < 10 ^ (k + 1) := by omega
        have HV2 := Lib.hid (Lib.decFrom_take t.data.toList k 0 v t[k] (t[k].toNat - 48) HV.out (at_some t k hlt) (by rw [Lib.digitVal, if_pos hd]))
        have HP := Lib.hid hv2
        obtain ⟨hd1, hd2⟩ := hd
        have hc1 : ¬ ((t[k].toNat : Int) < 48) := by omega
        have hc2 : ¬ (57 < (t[k].toNat : Int)) := by omega
        have hq1 : decide ((t[k].toNat : Int) < 48) = false := by simpa using hc1
        have hq2 : decide (57 < (t[k].toNat : Int)) = false := by simpa using hc2
        clear hp hv2 hv hpow
        go_wp2
        go_roundw
        case rel => exact ⟨k + 1, v * 10 + (t[k].toNat - 48), by omega, by go_num, by go_num, HP.out, HV2.out, by trivial⟩
        case measure => simp [intOf]; omega
      · have HB := Lib.hid (HBad.out k hlt hd)
        clear hpow hv
        by_cases hlow : t[k].toNat < 48
        · have hq1 : ((t[k].toNat : Int) < 48) := by omega
          clear hd
          go_wp2
          go_ret2
          exact ⟨ret_ib HB.out.1.symm HB.out.2.symm, Below.refl _ _⟩
        · have hq1 : ¬ ((t[k].toNat : Int) < 48) := by omega
          have hq2 : (57 : Int) < (t[k].toNat : Int) := by omega
          clear hd
          go_wp2
          go_ret2
          exact ⟨ret_ib HB.out.1.symm HB.out.2.symm, Below.refl _ _⟩
    · obtain rfl : k = t.size := by omega
      have HF : Hid (Lib.decFrom 0 t.data.toList = some v) := by
        have h := HV.out
        rw [List.take_of_length_le (by simp)] at h
        exact h
      clear hpow hv
      by_cases hq : num (-(v : Int)) = s
      · have HG := Lib.hid (HGood.out v HF.out hq)
        have hqb := str_eq hq
        clear hq
        go_wp2_with (go_at_call 39; refine (l1Num_any (-(v : Int)) _ (by omega) (by omega)).mono ?_; rintro e w' ⟨rfl, m, rfl⟩)
        go_ret2
        exact ⟨ret_ib HG.out.1.symm HG.out.2.symm, below_drewN (Below.refl _ _) m⟩
      · have HG := Lib.hid (HWrong.out v HF.out hq)
        have hqb := str_ne hq
        clear hq
        go_wp2_with (go_at_call 39; refine (l1Num_any (-(v : Int)) _ (by omega) (by omega)).mono ?_; rintro e w' ⟨rfl, m, rfl⟩)
        go_ret2
        exact ⟨ret_ib HG.out.1.symm HG.out.2.symm, below_drewN (Below.refl _ _) m⟩
set_option maxHeartbeats 1000000 in
theorem l1Read_one (t : ByteArray) (r : Int) (b : Bool) (w : World) (hs : t.size = 1)
    (hbad : ∀ (k : Nat) (h : k < t.size), ¬ (48 ≤ t[k].toNat ∧ t[k].toNat ≤ 57) → r = 0 ∧ b = false)
    (hgood : ∀ v : Nat, Lib.decFrom 0 t.data.toList = some v → num (v : Int) = t → r = (v : Int) ∧ b = true)
    (hwrong : ∀ v : Nat, Lib.decFrom 0 t.data.toList = some v → num (v : Int) ≠ t → r = 0 ∧ b = false) :
    Calls Tryd.prog 32 #[.string t] w fun e w' => e = .returned (.tuple #[.int .i64 r, .bool b]) ∧ Below w.heap.size w w' := by
  have HBad := Lib.hid hbad
  have HGood := Lib.hid hgood
  have HWrong := Lib.hid hwrong
  clear hbad hgood hwrong
  have hg : ¬ (1 : Int) < (t.size : Int) := by omega
  have hsz : t.size ≤ 1 := by omega
  have hsz1 : 1 ≤ t.size := by omega
  clear hs
  go_enter Tryd.func32, Tryd.ntmps32
  go_wp2_with (go_at_call 33; refine (l1In_yes _ _ _ _ (by omega) (by omega)).mono ?_; rintro e w' ⟨rfl, rfl⟩)
  have htz : t.size ≤ 6 := by omega
  have hts : ¬ ((t.size : Int) < (t.size : Int)) := by omega
  go_loopw [5, 6] (fun n i wr => ∃ k v : Nat, k ≤ t.size ∧ i = .int .i64 k ∧ n = .int .i64 v ∧ v < 10 ^ k ∧ Hid (Lib.decFrom 0 (t.data.toList.take k) = some v) ∧ w = wr) (fun _ i _ => t.size - (intOf i).toNat)
  case atStart => exact ⟨0, 0, Nat.zero_le _, rfl, rfl, by simp, rfl, rfl⟩
  case round =>
    obtain ⟨k, v, hk, rfl, rfl, hv, HV, rfl⟩ := hrel
    have hpow : (10 : Nat) ^ k ≤ 1000000 := by
      have e : ∀ i : Fin 7, (10 : Nat) ^ i.val ≤ 1000000 := by decide
      exact e ⟨k, by omega⟩
    have hv6 : v < 1000000 := by omega
    by_cases hlt : k < t.size
    · by_cases hd : 48 ≤ t[k].toNat ∧ t[k].toNat ≤ 57
      · have hp : (10 : Nat) ^ (k + 1) = 10 ^ k * 10 := by rw [Nat.pow_succ]
        have hv2 : v * 10 + (t[k].toNat - 48) < 10 ^ (k + 1) := by omega
        have HV2 := Lib.hid (Lib.decFrom_take t.data.toList k 0 v t[k] (t[k].toNat - 48) HV.out (at_some t k hlt) (by rw [Lib.digitVal, if_pos hd]))
        have HP := Lib.hid hv2
        obtain ⟨hd1, hd2⟩ := hd
        have hc1 : ¬ ((t[k].toNat : Int) < 48) := by omega
        have hc2 : ¬ (57 < (t[k].toNat : Int)) := by omega
        have hq1 : decide ((t[k].toNat : Int) < 48) = false := by simpa using hc1
        have hq2 : decide (57 < (t[k].toNat : Int)) = false := by simpa using hc2
        clear hp hv2 hv hpow
        go_wp2
        go_roundw
        case rel => exact ⟨k + 1, v * 10 + (t[k].toNat - 48), by omega, by go_num, by go_num, HP.out, HV2.out, by trivial⟩
        case measure => simp [intOf]; omega
      · have HB := Lib.hid (HBad.out k hlt hd)
        clear hpow hv
        by_cases hlow : t[k].toNat < 48
        · have hq1 : ((t[k].toNat : Int) < 48) := by omega
          clear hd
          go_wp2
          go_ret2
          exact ⟨ret_ib HB.out.1.symm HB.out.2.symm, Below.refl _ _⟩
        · have hq1 : ¬ ((t[k].toNat : Int) < 48) := by omega
          have hq2 : (57 : Int) < (t[k].toNat : Int) := by omega
          clear hd
          go_wp2
          go_ret2
          exact ⟨ret_ib HB.out.1.symm HB.out.2.symm, Below.refl _ _⟩
    · obtain rfl : k = t.size := by omega
      have HF : Hid (Lib.decFrom 0 t.data.toList = some v) := by
        have h := HV.out
        rw [List.take_of_length_le (by simp)] at h
        exact h
      clear hpow hv
      by_cases hq : num (v : Int) = t
      · have HG := Lib.hid (HGood.out v HF.out hq)
        have hqb := str_eq hq
        clear hq
        go_wp2_with (go_at_call 39; refine (l1Num_any (v : Int) _ (by omega) (by omega)).mono ?_; rintro e w' ⟨rfl, m, rfl⟩)
        go_ret2
        exact ⟨ret_ib HG.out.1.symm HG.out.2.symm, below_drewN (Below.refl _ _) m⟩
      · have HG := Lib.hid (HWrong.out v HF.out hq)
        have hqb := str_ne hq
        clear hq
        go_wp2_with (go_at_call 39; refine (l1Num_any (v : Int) _ (by omega) (by omega)).mono ?_; rintro e w' ⟨rfl, m, rfl⟩)
        go_ret2
        exact ⟨ret_ib HG.out.1.symm HG.out.2.symm, below_drewN (Below.refl _ _) m⟩
set_option maxHeartbeats 1000000 in
theorem l1Read_pos (t : ByteArray) (r : Int) (b : Bool) (w : World) (hs : t.size ≤ 6) (h1 : 1 < t.size) (hm : t[0] ≠ 45)
    (hbad : ∀ (k : Nat) (h : k < t.size), ¬ (48 ≤ t[k].toNat ∧ t[k].toNat ≤ 57) → r = 0 ∧ b = false)
    (hgood : ∀ v : Nat, Lib.decFrom 0 t.data.toList = some v → num (v : Int) = t → r = (v : Int) ∧ b = true)
    (hwrong : ∀ v : Nat, Lib.decFrom 0 t.data.toList = some v → num (v : Int) ≠ t → r = 0 ∧ b = false) :
    Calls Tryd.prog 32 #[.string t] w fun e w' => e = .returned (.tuple #[.int .i64 r, .bool b]) ∧ Below w.heap.size w w' := by
  have HBad := Lib.hid hbad
  have HGood := Lib.hid hgood
  have HWrong := Lib.hid hwrong
  clear hbad hgood hwrong
  have hmb : ((t[0].toNat : Int) == 45) = false := by
    rw [beq_eq_false_iff_ne]; intro h
    exact hm (UInt8.toNat_inj.1 (by have : (45 : UInt8).toNat = 45 := rfl; omega))
  clear hm
  go_enter Tryd.func32, Tryd.ntmps32
  go_wp2_with (go_at_call 33; refine (l1In_yes _ _ _ _ (by omega) (by omega)).mono ?_; rintro e w' ⟨rfl, rfl⟩)
  have htz : t.size ≤ 6 := by omega
  have hts : ¬ ((t.size : Int) < (t.size : Int)) := by omega
  go_loopw [5, 6] (fun n i wr => ∃ k v : Nat, k ≤ t.size ∧ i = .int .i64 k ∧ n = .int .i64 v ∧ v < 10 ^ k ∧ Hid (Lib.decFrom 0 (t.data.toList.take k) = some v) ∧ w = wr) (fun _ i _ => t.size - (intOf i).toNat)
  case atStart => exact ⟨0, 0, Nat.zero_le _, rfl, rfl, by simp, rfl, rfl⟩
  case round =>
    obtain ⟨k, v, hk, rfl, rfl, hv, HV, rfl⟩ := hrel
    have hpow : (10 : Nat) ^ k ≤ 1000000 := by
      have e : ∀ i : Fin 7, (10 : Nat) ^ i.val ≤ 1000000 := by decide
      exact e ⟨k, by omega⟩
    have hv6 : v < 1000000 := by omega
    by_cases hlt : k < t.size
    · by_cases hd : 48 ≤ t[k].toNat ∧ t[k].toNat ≤ 57
      · have hp : (10 : Nat) ^ (k + 1) = 10 ^ k * 10 := by rw [Nat.pow_succ]
        have hv2 : v * 10 + (t[k].toNat - 48) < 10 ^ (k + 1) := by omega
        have HV2 := Lib.hid (Lib.decFrom_take t.data.toList k 0 v t[k] (t[k].toNat - 48) HV.out (at_some t k hlt) (by rw [Lib.digitVal, if_pos hd]))
        have HP := Lib.hid hv2
        obtain ⟨hd1, hd2⟩ := hd
        have hc1 : ¬ ((t[k].toNat : Int) < 48) := by omega
        have hc2 : ¬ (57 < (t[k].toNat : Int)) := by omega
        have hq1 : decide ((t[k].toNat : Int) < 48) = false := by simpa using hc1
        have hq2 : decide (57 < (t[k].toNat : Int)) = false := by simpa using hc2
        clear hp hv2 hv hpow
        go_wp2
        go_roundw
        case rel => exact ⟨k + 1, v * 10 + (t[k].toNat - 48), by omega, by go_num, by go_num, HP.out, HV2.out, by trivial⟩
        case measure => simp [intOf]; omega
      · have HB := Lib.hid (HBad.out k hlt hd)
        clear hpow hv
        by_cases hlow : t[k].toNat < 48
        · have hq1 : ((t[k].toNat : Int) < 48) := by omega
          clear hd
          go_wp2
          go_ret2
          exact ⟨ret_ib HB.out.1.symm HB.out.2.symm, Below.refl _ _⟩
        · have hq1 : ¬ ((t[k].toNat : Int) < 48) := by omega
          have hq2 : (57 : Int) < (t[k].toNat : Int) := by omega
          clear hd
          go_wp2
          go_ret2
          exact ⟨ret_ib HB.out.1.symm HB.out.2.symm, Below.refl _ _⟩
    · obtain rfl : k = t.size := by omega
      have HF : Hid (Lib.decFrom 0 t.data.toList = some v) := by
        have h := HV.out
        rw [List.take_of_length_le (by simp)] at h
        exact h
      clear hpow hv
      by_cases hq : num (v : Int) = t
      · have HG := Lib.hid (HGood.out v HF.out hq)
        have hqb := str_eq hq
        clear hq
        go_wp2_with (go_at_call 39; refine (l1Num_any (v : Int) _ (by omega) (by omega)).mono ?_; rintro e w' ⟨rfl, m, rfl⟩)
        go_ret2
        exact ⟨ret_ib HG.out.1.symm HG.out.2.symm, below_drewN (Below.refl _ _) m⟩
      · have HG := Lib.hid (HWrong.out v HF.out hq)
        have hqb := str_ne hq
        clear hq
        go_wp2_with (go_at_call 39; refine (l1Num_any (v : Int) _ (by omega) (by omega)).mono ?_; rintro e w' ⟨rfl, m, rfl⟩)
        go_ret2
        exact ⟨ret_ib HG.out.1.symm HG.out.2.symm, below_drewN (Below.refl _ _) m⟩
set_option maxHeartbeats 1000000 in
theorem l1Read_far (s : ByteArray) (w : World) (hs : s.size ≤ maxLen) (h : s.size = 0 ∨ 8 ≤ s.size ∨ (s.size = 7 ∧ ∃ h : 0 < s.size, s[0] ≠ 45)) :
    Calls Tryd.prog 32 #[.string s] w fun e w' => e = .returned (.tuple #[.int .i64 0, .bool false]) ∧ Below w.heap.size w w' := by
  unfold maxLen at hs
  by_cases h1 : 1 < s.size
  · by_cases hm : s[0] = 45
    · have h8 : 8 ≤ s.size := by
        rcases h with h | h | ⟨_, _, h⟩
        · omega
        · exact h
        · exact absurd hm h
      clear h
      go_enter Tryd.func32, Tryd.ntmps32
      go_wp2_with (go_at_call 33; refine (l1In_no _ _ _ _ (by omega)).mono ?_; rintro e w' ⟨rfl, rfl⟩)
      go_ret2
      exact ⟨rfl, Below.refl _ _⟩
    · have hmb : ((s[0].toNat : Int) == 45) = false := by
        rw [beq_eq_false_iff_ne]; intro h
        exact hm (UInt8.toNat_inj.1 (by have : (45 : UInt8).toNat = 45 := rfl; omega))
      have h7 : 7 ≤ s.size := by
        rcases h with h | h | ⟨h, _⟩ <;> omega
      clear h hm
      go_enter Tryd.func32, Tryd.ntmps32
      go_wp2_with (go_at_call 33; refine (l1In_no _ _ _ _ (by omega)).mono ?_; rintro e w' ⟨rfl, rfl⟩)
      go_ret2
      exact ⟨rfl, Below.refl _ _⟩
  · have h0 : s.size ≤ 0 := by
      rcases h with h | h | ⟨h, _⟩ <;> omega
    have hg : ¬ (1 : Int) < (s.size : Int) := by omega
    clear h
    go_enter Tryd.func32, Tryd.ntmps32
    go_wp2_with (go_at_call 33; refine (l1In_no _ _ _ _ (by omega)).mono ?_; rintro e w' ⟨rfl, rfl⟩)
    go_ret2
    exact ⟨rfl, Below.refl _ _⟩
end Go.Proofs.YtmmjbdffpgohdaaDoor
