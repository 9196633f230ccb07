/- The walks of AppendChecksum and VerifyChecksum. Condition: the library's variables are as laid; sizes. -/
import Derived.Test.YthnbbaefeojanaaDoorFmtW
import Derived.Test.YthnbbaefeojanaaDoorCk
import Derived.Test.YthnbbaefeojanaaDoorSealMath
import Derived.Test.YthnbbaefeojanaaDoorStandsW
import Derived.Test.YthnbbaefeojanaaDoorSplitW
namespace Go.Proofs.YthnbbaefeojanaaDoor
open Go.RowKit
set_option linter.unusedVariables false
/-- The library's variable on long searches holds some number. -/
def MlP (w : World) : Prop := ∃ m : Int, w.cell? ⟨2, 0, none⟩ = some (.int .i64 m)
theorem MlP.below {w w' : World} (h : MlP w) (hb : Below w.heap.size w w') : MlP w' := by
  obtain ⟨m, hm⟩ := h
  have hlt : 2 < w.heap.size := by
    unfold World.cell? at hm
    cases hx : w.heap[2]? with
    | none => simp [hx] at hm
    | some o => exact (Array.getElem?_eq_some_iff.1 hx).1
  exact ⟨m, (hb.cell (p := ⟨2, 0, none⟩) hlt).trans hm⟩
set_option maxHeartbeats 400000 in
theorem l1Seal_any (s : ByteArray) (w : World) (hs : s.size ≤ 1048576) :
    Calls Tryd.prog 34 #[.string s] w fun e w' => e = .returned (.string (sealB s)) ∧ ∃ m, w' = w.drewN m := by
  have hc := ck_bd s.data.toList
  have hn := ck_num s
  go_enter Tryd.func34, Tryd.ntmps34
  go_wp2_with (first
    | (go_at_call 42; refine (l1Sum_any s _ (by unfold maxLen; omega)).mono ?_; rintro e w' ⟨rfl, rfl⟩)
    | (go_at_call 25; refine (l1Num_any (ck s.data.toList) _ (by omega) (by omega)).mono ?_; rintro e w' ⟨rfl, m, rfl⟩))
  go_ret
  exact ⟨rfl, m, rfl⟩
set_option maxHeartbeats 1000000 in
theorem specAppend_yes (s : ByteArray) (w : World) (h : Sok s) :
    Calls Tryd.prog 17 #[.string s] w fun e w' => e = .returned (.tuple #[.string (sealB s), .bool true]) ∧ ∃ m, w' = w.drewN m := by
  obtain ⟨h1, h2, h3⟩ := h
  have h1' : decide ((4000 : Int) < (s.size : Int)) = false := by simp; omega
  have h3' : decide ((4000 : Int) < ((sealB s).size : Int)) = false := by simp; omega
  have H2 := Lib.hid h2
  clear h2
  go_enter Tryd.func17, Tryd.ntmps17
  go_wp2_with fail
  refine (l1Stands_no s 35 _ (by unfold maxLen; omega) H2.out).mono ?_
  rintro e w1 ⟨rfl, rfl⟩
  go_wp2_with fail
  refine (l1Seal_any s _ (by omega)).mono ?_
  rintro e w1 ⟨rfl, m1, rfl⟩
  go_wp2_with fail
  refine (l1Seal_any s _ (by omega)).mono ?_
  rintro e w1 ⟨rfl, m2, rfl⟩
  go_wp2_with fail
  go_ret2
  exact ⟨rfl, m1 + m2, rfl⟩
set_option maxHeartbeats 1000000 in
theorem specAppend_no (s : ByteArray) (w : World) (hs : s.size ≤ 1048576) (h : ¬ Sok s) :
    Calls Tryd.prog 17 #[.string s] w fun e w' => e = .returned (.tuple #[.string ⟨#[]⟩, .bool false]) ∧ ∃ m, w' = w.drewN m := by
  by_cases h1 : (4000 : Int) < (s.size : Int)
  · clear h
    go_enter Tryd.func17, Tryd.ntmps17
    go_wp2_with fail
    go_ret2
    exact ⟨rfl, 0, rfl⟩
  · have h1' : decide ((4000 : Int) < (s.size : Int)) = false := by simp; omega
    by_cases h2 : (35 : UInt8) ∈ s.data.toList
    · have H2 := Lib.hid h2
      clear h2 h
      go_enter Tryd.func17, Tryd.ntmps17
      go_wp2_with fail
      refine (l1Stands_yes s 35 _ (by unfold maxLen; omega) H2.out).mono ?_
      rintro e w1 ⟨rfl, rfl⟩
      go_wp2_with fail
      go_ret2
      exact ⟨rfl, 0, rfl⟩
    · have H2 := Lib.hid h2
      have h3 : (4000 : Int) < ((sealB s).size : Int) := by
        by_cases h3 : (sealB s).size ≤ 4000
        · exact absurd ⟨by omega, h2, h3⟩ h
        · omega
      clear h2 h
      go_enter Tryd.func17, Tryd.ntmps17
      go_wp2_with fail
      refine (l1Stands_no s 35 _ (by unfold maxLen; omega) H2.out).mono ?_
      rintro e w1 ⟨rfl, rfl⟩
      go_wp2_with fail
      refine (l1Seal_any s _ (by omega)).mono ?_
      rintro e w1 ⟨rfl, m1, rfl⟩
      go_wp2_with fail
      go_ret2
      exact ⟨rfl, m1, rfl⟩
theorem has_mark (s : ByteArray) : decide (0 ≤ Lib.indexByte s.data.toList 35) = decide ((35 : UInt8) ∈ s.data.toList) := by
  have h : ∀ l : List UInt8, (0 ≤ Lib.indexByte l 35) ↔ (35 : UInt8) ∈ l := by
    intro l
    induction l with
    | nil => simp [Lib.indexByte]
    | cons b l ih =>
      have hg := Lib.indexByte_ge l 35
      by_cases hb : b = 35
      · subst hb; simp [Lib.indexByte]
      · have e : (b == 35) = false := by simpa using hb
        simp only [Lib.indexByte, e, List.mem_cons]
        by_cases hm : Lib.indexByte l 35 = -1
        · simp [hm]
          have : ¬ (35 : UInt8) ∈ l := fun h => by have := ih.2 h; omega
          exact ⟨fun e => hb e.symm, this⟩
        · have hm' : (Lib.indexByte l 35 == -1) = false := by simpa using hm
          have h0 : 0 ≤ Lib.indexByte l 35 := by omega
          simp [hm']
          constructor
          · intro _; exact .inr (ih.1 h0)
          · intro _; omega
  simp [h]
set_option maxHeartbeats 1000000 in
theorem Append_yes (s : ByteArray) (w : World) (h : Sok s) (ht : TabP w) :
    Calls Tryd.prog 16 #[.string s] w fun e w' => e = .returned (.tuple #[.string (sealB s), .bool true]) ∧ Below w.heap.size w w' := by
  obtain ⟨h1, h2, h3⟩ := h
  have hc := ck_bd s.data.toList
  have hn := ck_num s
  have h3' : (s.size : Int) + 1 + ((num (ck s.data.toList)).size : Int) ≤ 4000 := by rw [seal_size] at h3; omega
  have HM := Lib.hid (has_mark s)
  have H2 := Lib.hid (show decide (0 ≤ Lib.indexByte s.data.toList 35) = false from by rw [has_mark]; simpa using h2)
  have HT := Lib.hid ht
  clear h2 ht h3
  go_enter Tryd.func16, Tryd.ntmps16
  go_wp2_with fail
  refine (Checksum_yes s _ h1).mono ?_
  rintro e w1 ⟨rfl, rfl⟩
  go_wp2_with fail
  refine (Tryd.strings_Contains_one s 35 _).mono ?_
  rintro e w1 ⟨rfl, rfl⟩
  rw [H2.out]
  go_wp2_with fail
  refine (FormatInt_yes (ck s.data.toList) _ (by omega) (by omega) HT.out).mono ?_
  rintro e w1 ⟨rfl, hb⟩
  go_wp2_with fail
  go_ret2
  exact ⟨rfl, hb⟩
set_option maxHeartbeats 1000000 in
theorem Append_no (s : ByteArray) (w : World) (hs : s.size ≤ 1048576) (h : ¬ Sok s) (ht : TabP w) :
    Calls Tryd.prog 16 #[.string s] w fun e w' => e = .returned (.tuple #[.string ⟨#[]⟩, .bool false]) ∧ Below w.heap.size w w' := by
  have HT := Lib.hid ht
  clear ht
  by_cases h1 : s.size ≤ 4000
  · by_cases h2 : (35 : UInt8) ∈ s.data.toList
    · have H2 := Lib.hid (show decide (0 ≤ Lib.indexByte s.data.toList 35) = true from by rw [has_mark]; simpa using h2)
      clear h2 h
      go_enter Tryd.func16, Tryd.ntmps16
      go_wp2_with fail
      refine (Checksum_yes s _ h1).mono ?_
      rintro e w1 ⟨rfl, rfl⟩
      go_wp2_with fail
      refine (Tryd.strings_Contains_one s 35 _).mono ?_
      rintro e w1 ⟨rfl, rfl⟩
      rw [H2.out]
      go_wp2_with fail
      go_ret2
      exact ⟨rfl, Below.refl _ _⟩
    · have hc := ck_bd s.data.toList
      have hn := ck_num s
      have H2 := Lib.hid (show decide (0 ≤ Lib.indexByte s.data.toList 35) = false from by rw [has_mark]; simpa using h2)
      have h3 : 4000 < (s.size : Int) + 1 + ((num (ck s.data.toList)).size : Int) := by
        by_cases h3 : (sealB s).size ≤ 4000
        · exact absurd ⟨by omega, h2, h3⟩ h
        · rw [seal_size] at h3; omega
      clear h2 h
      go_enter Tryd.func16, Tryd.ntmps16
      go_wp2_with fail
      refine (Checksum_yes s _ h1).mono ?_
      rintro e w1 ⟨rfl, rfl⟩
      go_wp2_with fail
      refine (Tryd.strings_Contains_one s 35 _).mono ?_
      rintro e w1 ⟨rfl, rfl⟩
      rw [H2.out]
      go_wp2_with fail
      refine (FormatInt_yes (ck s.data.toList) _ (by omega) (by omega) HT.out).mono ?_
      rintro e w1 ⟨rfl, hb⟩
      go_wp2_with fail
      go_ret2
      exact ⟨rfl, hb⟩
  · clear h
    go_enter Tryd.func16, Tryd.ntmps16
    go_wp2_with fail
    refine (Checksum_no s _ (by unfold maxLen; omega) (by omega)).mono ?_
    rintro e w1 ⟨rfl, rfl⟩
    go_wp2_with fail
    go_ret2
    exact ⟨rfl, Below.refl _ _⟩
theorem first_cell (s : ByteArray) (v : Value) (B : Nat) (w : World) (h : w.ownsRow B 9 1 v (splitAll 35 s).length ((splitAll 35 s).map Value.string)) :
    ∃ g n cap, v = .slice (some ⟨g, 0, none⟩) n cap ∧ 0 < n ∧ n ≤ 9223372036854775807 ∧ w.cell? ⟨g, 0, none⟩ = some (.string (pre s)) := by
  have hl := splitAll_len 35 s
  rcases own_cases h with ⟨h0, _⟩ | ⟨g, cap, rfl, hg, hgs, hpos, hm, _⟩
  · omega
  · refine ⟨g, _, cap, rfl, hpos, by unfold maxLen at hm; omega, ?_⟩
    rw [h.cellAt 0 (by omega), List.getElem?_map, split_first]
    rfl
set_option maxHeartbeats 1000000 in
theorem specVerify_any (s : ByteArray) (w : World) (hs : s.size ≤ 4000) (r : ByteArray) (b : Bool)
    (hyes : sealB (pre s) = s → r = pre s ∧ b = true) (hno : sealB (pre s) ≠ s → r = ⟨#[]⟩ ∧ b = false) :
    Calls Tryd.prog 20 #[.string s] w fun e w' => e = .returned (.tuple #[.string r, .bool b]) ∧ Below w.heap.size w w' := by
  have hf := fj_le s
  have hp := pre_size s
  have hps : (pre s).size ≤ 4000 := by omega
  clear hf hp
  by_cases hq : sealB (pre s) = s
  · have HR := Lib.hid (hyes hq)
    have hb := str_eq hq
    clear hyes hno hq
    go_enter Tryd.func20, Tryd.ntmps20
    go_wp2_with fail
    refine (l1Split_any s 35 _ (by omega)).mono ?_
    rintro e w1 ⟨v, rfl, ho, hbel⟩
    obtain ⟨g, n, cap, rfl, hn, hn2, hc⟩ := first_cell s v _ _ ho
    clear ho
    go_wp2_with fail
    refine (l1Seal_any (pre s) _ (by omega)).mono ?_
    rintro e w2 ⟨rfl, m, rfl⟩
    go_wp2_with fail
    go_ret2
    exact ⟨ret_sb HR.out.1.symm HR.out.2.symm, below_drewN hbel m⟩
  · have HR := Lib.hid (hno hq)
    have hb := str_ne hq
    clear hyes hno hq
    go_enter Tryd.func20, Tryd.ntmps20
    go_wp2_with fail
    refine (l1Split_any s 35 _ (by omega)).mono ?_
    rintro e w1 ⟨v, rfl, ho, hbel⟩
    obtain ⟨g, n, cap, rfl, hn, hn2, hc⟩ := first_cell s v _ _ ho
    clear ho
    go_wp2_with fail
    refine (l1Seal_any (pre s) _ (by omega)).mono ?_
    rintro e w2 ⟨rfl, m, rfl⟩
    go_wp2_with fail
    go_ret2
    exact ⟨ret_sb HR.out.1.symm HR.out.2.symm, below_drewN hbel m⟩
set_option maxHeartbeats 400000 in
theorem specVerify_far (s : ByteArray) (w : World) (hs : s.size ≤ maxLen) (h : 4000 < s.size) :
    Calls Tryd.prog 20 #[.string s] w fun e w' => e = .returned (.tuple #[.string ⟨#[]⟩, .bool false]) ∧ Below w.heap.size w w' := by
  unfold maxLen at hs
  go_enter Tryd.func20, Tryd.ntmps20
  go_wp2_with fail
  go_ret2
  exact ⟨rfl, Below.refl _ _⟩
set_option maxHeartbeats 1000000 in
/-- VerifyChecksum, whichever way AppendChecksum answers at what stands before the mark. -/
theorem Verify_core (s : ByteArray) (w : World) (hs : s.size ≤ 1048576) (hm : MlP w) (x : ByteArray) (p : Bool) (r : ByteArray) (b : Bool)
    (hA : ∀ w', Below w.heap.size w w' → Calls Tryd.prog 16 #[.string (pre s)] w' fun e w2 => e = .returned (.tuple #[.string x, .bool p]) ∧ Below w'.heap.size w' w2)
    (h : (p = true ∧ x = s ∧ r = pre s ∧ b = true) ∨ (p = false ∧ r = ⟨#[]⟩ ∧ b = false) ∨ (p = true ∧ x ≠ s ∧ r = ⟨#[]⟩ ∧ b = false)) :
    Calls Tryd.prog 18 #[.string s] w fun e w' => e = .returned (.tuple #[.string r, .bool b]) ∧ Below w.heap.size w w' := by
  obtain ⟨m, hm⟩ := hm
  have HC := Lib.hid (Tryd.strings_Cut s ⟨#[35]⟩ m w (by omega) hm)
  have HP := Lib.hid (cut_pre s)
  have HA := Lib.hid hA
  clear hm hA
  rcases h with ⟨rfl, hx, hr, rfl⟩ | ⟨rfl, hr, rfl⟩ | ⟨rfl, hx, hr, rfl⟩
  · have hb := str_eq hx
    have HR := Lib.hid hr
    clear hx hr
    go_enter Tryd.func18, Tryd.ntmps18
    go_wp2_with fail
    refine HC.out.mono ?_
    rintro e w1 ⟨rfl, n, rfl⟩
    rw [HP.out]
    go_wp2_with fail
    refine (HA.out _ (below_drewN (Below.refl _ _) n)).mono ?_
    rintro e w2 ⟨rfl, hbel⟩
    go_wp2_with fail
    go_ret2
    exact ⟨ret_sb HR.out.symm rfl, (below_drewN (Below.refl _ _) n).trans hbel⟩
  · have HR := Lib.hid hr
    clear hr
    go_enter Tryd.func18, Tryd.ntmps18
    go_wp2_with fail
    refine HC.out.mono ?_
    rintro e w1 ⟨rfl, n, rfl⟩
    rw [HP.out]
    go_wp2_with fail
    refine (HA.out _ (below_drewN (Below.refl _ _) n)).mono ?_
    rintro e w2 ⟨rfl, hbel⟩
    go_wp2_with fail
    go_ret2
    exact ⟨ret_sb HR.out.symm rfl, (below_drewN (Below.refl _ _) n).trans hbel⟩
  · have hb := str_ne hx
    have HR := Lib.hid hr
    clear hx hr
    go_enter Tryd.func18, Tryd.ntmps18
    go_wp2_with fail
    refine HC.out.mono ?_
    rintro e w1 ⟨rfl, n, rfl⟩
    rw [HP.out]
    go_wp2_with fail
    refine (HA.out _ (below_drewN (Below.refl _ _) n)).mono ?_
    rintro e w2 ⟨rfl, hbel⟩
    go_wp2_with fail
    go_ret2
    exact ⟨ret_sb HR.out.symm rfl, (below_drewN (Below.refl _ _) n).trans hbel⟩
theorem Verify_yes (s : ByteArray) (w : World) (h : Vok s) (ht : TabP w) (hm : MlP w) :
    Calls Tryd.prog 18 #[.string s] w fun e w' => e = .returned (.tuple #[.string (pre s), .bool true]) ∧ Below w.heap.size w w' :=
  Verify_core s w (by have := h.1; omega) hm s true _ _ (fun w' hb => by
    have h2 := Append_yes (pre s) w' (sok_of_vok h) (ht.below hb)
    rw [h.2] at h2
    exact h2) (.inl ⟨rfl, rfl, rfl, rfl⟩)
theorem Verify_no (s : ByteArray) (w : World) (hs : s.size ≤ 1048576) (h : ¬ Vok s) (ht : TabP w) (hm : MlP w) :
    Calls Tryd.prog 18 #[.string s] w fun e w' => e = .returned (.tuple #[.string ⟨#[]⟩, .bool false]) ∧ Below w.heap.size w w' := by
  have hp : (pre s).size ≤ 1048576 := by rw [pre_size]; have := fj_le s; omega
  by_cases hk : Sok (pre s)
  · exact Verify_core s w hs hm (sealB (pre s)) true _ _ (fun w' hb => Append_yes (pre s) w' hk (ht.below hb))
      (.inr (.inr ⟨rfl, fun e => h ⟨by rw [← e]; exact hk.2.2, e⟩, rfl, rfl⟩))
  · exact Verify_core s w hs hm ⟨#[]⟩ false _ _ (fun w' hb => Append_no (pre s) w' hp hk (ht.below hb)) (.inr (.inl ⟨rfl, rfl, rfl⟩))
end Go.Proofs.YthnbbaefeojanaaDoor
