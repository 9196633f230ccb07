/- The law FnSplitJoin's walk. Condition: sizes. -/
import Derived.Test.YthnbbaefeojanaaDrawJoin
import Derived.Test.YthnbbaefeojanaaSplitImpl
import Derived.Test.YthnbbaefeojanaaJoinStringsW
import Derived.Test.YthnbbaefeojanaaSplitJoinMath
import Derived.Test.YthnbbaefeojanaaLessW
namespace Go.Proofs.Ythnbbaefeojanaa
open Go.RowKit
set_option linter.unusedVariables false
set_option maxHeartbeats 400000 in
theorem vBig_yes (a : Option Addr) (len cap : Nat) (w : World) (h : 65536 < len) (hm : len ≤ 9223372036854775807) :
    Calls Try.prog 8 #[.slice a len cap] w fun e w' => e = .returned (.bool true) ∧ w = w' := by
  have h1 : (65536 : Int) < (len : Int) := by omega
  go_enter Try.func8, Try.ntmps8
  go_wp2
  go_ret
  exact ⟨rfl, rfl⟩
set_option maxHeartbeats 400000 in
theorem vBig_no (a : Option Addr) (len cap : Nat) (w : World) (h : len ≤ 65536) :
    Calls Try.prog 8 #[.slice a len cap] w fun e w' => e = .returned (.bool false) ∧ w = w' := by
  have h1 : decide ((65536 : Int) < (len : Int)) = false := by simp; omega
  go_enter Try.func8, Try.ntmps8
  go_wp2
  go_ret
  exact ⟨rfl, rfl⟩
theorem ByteRow.below {w w' : World} {a : Option Addr} {len : Nat} (h : ByteRow w a len) (hb : Below w.heap.size w w') : ByteRow w' a len :=
  ⟨h.1, fun i hi => by
    obtain ⟨c, o, x, h1, h2, h3, h4⟩ := h.2 i hi
    exact ⟨c, o, x, h1, Nat.lt_of_lt_of_le h2 hb.size, h3, (hb.cell (p := ⟨c, o + i, none⟩) h2).trans h4⟩⟩
theorem szs_small {l : List ByteArray} {m : Nat} (h : ∀ x ∈ l, x.size ≤ m) : szs l ≤ l.length * m := by
  induction l with
  | nil => simp [szs]
  | cons x l ih =>
    have h1 := h x (by simp)
    have h2 := ih (fun y hy => h y (by simp [hy]))
    have e : szs (x :: l) = x.size + szs l := by simp [szs]
    rw [e, List.length_cons, Nat.add_mul]
    omega
theorem sep_cases {t : ByteArray} (h : t ∈ sepL) : (t.size ≠ 1 ∧ t.size ≤ 2) ∨ ∃ c : UInt8, t = ⟨#[c]⟩ := by
  simp only [sepL, List.mem_cons, List.not_mem_nil, or_false] at h
  rcases h with rfl | rfl | rfl | rfl | rfl
  · exact .inr ⟨_, rfl⟩
  · exact .inr ⟨_, rfl⟩
  · exact .inr ⟨_, rfl⟩
  · exact .inl ⟨by decide, by decide⟩
  · exact .inl ⟨by decide, by decide⟩
theorem mark_size : ∀ m ∈ markL, m.size ≤ 2 := by decide
set_option maxHeartbeats 2000000 in
theorem splitJoin_core (a : Option Addr) (len cap : Nat) (w : World) (h : ByteRow w a len) (hlen : len ≤ 65536) :
    Calls Try.prog 3 #[.slice a len cap] w fun e w' => e = .returned (.bool true) ∧ Below w.heap.size w w' := by
  have HR := Lib.hid h
  clear h
  go_enter Try.func3, Try.ntmps3
  go_wp2_with fail
  refine (vBig_no a len cap _ hlen).mono ?_
  rintro e w0 ⟨rfl, rfl⟩
  go_wp2_with fail
  refine (DrawSplitString_any a len cap _ HR.out).mono ?_
  rintro e w1 ⟨s, t, hs, ht, rfl, hb1⟩
  have hsz := any1_size s hs
  have HR1 := Lib.hid (HR.out.below hb1)
  have HB1 := Lib.hid hb1
  clear hs hb1
  rcases sep_cases ht with ⟨ht1, ht2⟩ | ⟨c, rfl⟩
  · have hlenb : ((t.size : Int) != 1) = true := by simp; omega
    have HT1 := Lib.hid ht1
    clear ht ht1
    go_wp2_with fail
    refine (SplitString_no s t _ (by unfold maxLen; omega) (by unfold maxLen; omega) (.inr HT1.out)).mono ?_
    rintro e w2 ⟨v1, rfl, o1, hb2⟩
    have HX2 : Hid (Rd w2 v1 (([] : List ByteArray).map Value.string)) := Rd.of_own o1
    obtain ⟨av, cv, rfl⟩ := HX2.out.empty
    have HB2 := Lib.hid (HB1.out.trans (hb2.mono HB1.out.size))
    have HR2 := Lib.hid (HR1.out.below hb2)
    clear o1 hb2
    go_wp2_with fail
    refine (DrawJoinStrings_any a len cap _ HR2.out).mono ?_
    rintro e w3 ⟨v2, l, m, rfl, o3, hl4, hl5, hm, hb3⟩
    have hms := mark_size m hm
    have hsl := szs_small hl5
    have hsl2 : szs l ≤ 1048576 := by
      have : l.length * 4010 ≤ 4 * 4010 := Nat.mul_le_mul_right _ hl4
      omega
    obtain ⟨r, p, hJS, hJI⟩ := join_both l m (by unfold maxLen; omega) (by omega) hsl2
    have HX3 := Lib.hid (HX2.out.below hb3 rfl)
    have R3 := Lib.hid (Rd.of_own o3)
    have HB3 := Lib.hid (HB2.out.trans (hb3.mono HB2.out.size))
    have HR3 := Lib.hid (HR2.out.below hb3)
    have HJS := Lib.hid hJS
    have HJI := Lib.hid hJI
    clear o3 hl5 hm hb3 hsl hJS hJI
    go_wp2_with fail
    refine (HJI.out _ _ R3.out).mono ?_
    rintro e w4 ⟨rfl, hb4⟩
    have HX4 := Lib.hid (HX3.out.below hb4 rfl)
    have R4 := Lib.hid (R3.out.below hb4 rfl)
    have HB4 := Lib.hid (HB3.out.trans (hb4.mono HB3.out.size))
    have HR4 := Lib.hid (HR3.out.below hb4)
    clear hb4
    go_wp2_with fail
    refine (HJS.out _ _ R4.out).mono ?_
    rintro e w5 ⟨rfl, hb5⟩
    have HX5 := Lib.hid (HX4.out.below hb5 rfl)
    have HB5 := Lib.hid (HB4.out.trans (hb5.mono HB4.out.size))
    have HR5 := Lib.hid (HR4.out.below hb5)
    clear hb5
    go_wp2_with fail
    refine (DrawLessString_any a len cap _ HR5.out).mono ?_
    rintro e w6 ⟨x, y, _, _, rfl, hb6⟩
    have HX6 := Lib.hid (HX5.out.below hb6 rfl)
    have HB6 := Lib.hid (HB5.out.trans (hb6.mono HB5.out.size))
    clear hb6
    cases hxy : lessB x y with
    | false =>
      have HXY := Lib.hid hxy
      clear hxy
      go_wp2_with fail
      refine (LessString_any x y _).mono ?_
      rintro e w7 ⟨rfl, rfl⟩
      rw [HXY.out]
      go_wp2_with fail
      refine (specLessString_any x y _).mono ?_
      rintro e w7 ⟨rfl, rfl⟩
      rw [HXY.out]
      go_wp2_with fail
      refine (LessString_any x y _).mono ?_
      rintro e w7 ⟨rfl, rfl⟩
      rw [HXY.out]
      go_wp2_with fail
      go_ret
      exact ⟨rfl, HB6.out⟩
    | true =>
      have HXY := Lib.hid hxy
      have HYX := Lib.hid (lessB_asym hxy)
      clear hxy
      go_wp2_with fail
      refine (LessString_any x y _).mono ?_
      rintro e w7 ⟨rfl, rfl⟩
      rw [HXY.out]
      go_wp2_with fail
      refine (specLessString_any x y _).mono ?_
      rintro e w7 ⟨rfl, rfl⟩
      rw [HXY.out]
      go_wp2_with fail
      refine (LessString_any x y _).mono ?_
      rintro e w7 ⟨rfl, rfl⟩
      rw [HXY.out]
      go_wp2_with fail
      refine (LessString_any y x _).mono ?_
      rintro e w7 ⟨rfl, rfl⟩
      rw [HYX.out]
      go_wp2_with fail
      go_ret
      exact ⟨rfl, HB6.out⟩
  · have hc1 : (0 : Nat) < (⟨#[c]⟩ : ByteArray).size := by show 0 < 1; omega
    clear ht
    go_wp2_with fail
    refine (SplitString_yes s ⟨#[c]⟩ c _ (by omega) hc1 rfl rfl).mono ?_
    rintro e w2 ⟨v1, rfl, o1, hb2⟩
    have HX2 := Lib.hid (Rd.of_own o1)
    have HB2 := Lib.hid (HB1.out.trans (hb2.mono HB1.out.size))
    have HR2 := Lib.hid (HR1.out.below hb2)
    clear o1 hb2
    go_wp2_with fail
    refine (DrawJoinStrings_any a len cap _ HR2.out).mono ?_
    rintro e w3 ⟨v2, l, m, rfl, o3, hl4, hl5, hm, hb3⟩
    have hms := mark_size m hm
    have hsl := szs_small hl5
    have hsl2 : szs l ≤ 1048576 := by
      have : l.length * 4010 ≤ 4 * 4010 := Nat.mul_le_mul_right _ hl4
      omega
    obtain ⟨r, p, hJS, hJI⟩ := join_both l m (by unfold maxLen; omega) (by omega) hsl2
    have HX3 := Lib.hid (HX2.out.below hb3 rfl)
    have R3 := Lib.hid (Rd.of_own o3)
    have HB3 := Lib.hid (HB2.out.trans (hb3.mono HB2.out.size))
    have HR3 := Lib.hid (HR2.out.below hb3)
    have HJS := Lib.hid hJS
    have HJI := Lib.hid hJI
    clear o3 hl5 hm hb3 hsl hJS hJI
    go_wp2_with fail
    refine (HJI.out _ _ R3.out).mono ?_
    rintro e w4 ⟨rfl, hb4⟩
    have HX4 := Lib.hid (HX3.out.below hb4 rfl)
    have R4 := Lib.hid (R3.out.below hb4 rfl)
    have HB4 := Lib.hid (HB3.out.trans (hb4.mono HB3.out.size))
    have HR4 := Lib.hid (HR3.out.below hb4)
    clear hb4
    go_wp2_with fail
    refine (HJS.out _ _ R4.out).mono ?_
    rintro e w5 ⟨rfl, hb5⟩
    have HX5 := Lib.hid (HX4.out.below hb5 rfl)
    have HB5 := Lib.hid (HB4.out.trans (hb5.mono HB4.out.size))
    have HR5 := Lib.hid (HR4.out.below hb5)
    clear hb5
    go_wp2_with fail
    refine (DrawLessString_any a len cap _ HR5.out).mono ?_
    rintro e w6 ⟨x, y, _, _, rfl, hb6⟩
    have HX6 := Lib.hid (HX5.out.below hb6 rfl)
    have HB6 := Lib.hid (HB5.out.trans (hb6.mono HB5.out.size))
    clear hb6
    cases hxy : lessB x y with
    | false =>
      have HXY := Lib.hid hxy
      clear hxy
      go_wp2_with fail
      refine (LessString_any x y _).mono ?_
      rintro e w7 ⟨rfl, rfl⟩
      rw [HXY.out]
      go_wp2_with fail
      refine (specLessString_any x y _).mono ?_
      rintro e w7 ⟨rfl, rfl⟩
      rw [HXY.out]
      go_wp2_with fail
      refine (LessString_any x y _).mono ?_
      rintro e w7 ⟨rfl, rfl⟩
      rw [HXY.out]
      go_wp2_with fail
      refine (JoinStrings_yes v1 (splitAll c s) ⟨#[c]⟩ c _ HX6.out (fun e => by have := (splitAll_len c s).1; rw [e] at this; simp at this) hc1 rfl rfl (split_jok c s (by omega))).mono ?_
      rintro e w8 ⟨rfl, hb8⟩
      rw [split_join]
      go_wp2_with fail
      go_ret
      exact ⟨rfl, HB6.out.trans (hb8.mono HB6.out.size)⟩
    | true =>
      have HXY := Lib.hid hxy
      have HYX := Lib.hid (lessB_asym hxy)
      clear hxy
      go_wp2_with fail
      refine (LessString_any x y _).mono ?_
      rintro e w7 ⟨rfl, rfl⟩
      rw [HXY.out]
      go_wp2_with fail
      refine (specLessString_any x y _).mono ?_
      rintro e w7 ⟨rfl, rfl⟩
      rw [HXY.out]
      go_wp2_with fail
      refine (LessString_any x y _).mono ?_
      rintro e w7 ⟨rfl, rfl⟩
      rw [HXY.out]
      go_wp2_with fail
      refine (LessString_any y x _).mono ?_
      rintro e w7 ⟨rfl, rfl⟩
      rw [HYX.out]
      go_wp2_with fail
      refine (JoinStrings_yes v1 (splitAll c s) ⟨#[c]⟩ c _ HX6.out (fun e => by have := (splitAll_len c s).1; rw [e] at this; simp at this) hc1 rfl rfl (split_jok c s (by omega))).mono ?_
      rintro e w8 ⟨rfl, hb8⟩
      rw [split_join]
      go_wp2_with fail
      go_ret
      exact ⟨rfl, HB6.out.trans (hb8.mono HB6.out.size)⟩
theorem FnSplitJoin_walk (a : Option Addr) (len cap : Nat) (w : World) (h : ByteRow w a len) :
    Calls Try.prog 3 #[.slice a len cap] w fun e w' => e = .returned (.bool true) ∧ Below w.heap.size w w' := by
  by_cases hlen : len ≤ 65536
  · exact splitJoin_core a len cap w h hlen
  · have hm := h.1
    have hl : 65536 < len := by omega
    clear h hlen
    go_enter Try.func3, Try.ntmps3
    go_wp2_with fail
    refine (vBig_yes a len cap _ hl hm).mono ?_
    rintro e w0 ⟨rfl, rfl⟩
    go_wp2_with fail
    go_ret
    exact ⟨rfl, Below.refl _ _⟩
end Go.Proofs.Ythnbbaefeojanaa
