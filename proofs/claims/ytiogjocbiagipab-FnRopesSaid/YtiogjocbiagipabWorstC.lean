/- WorstWindow: the program's and the specification's answer as one function. Condition: sizes. -/
import Derived.Test.YtiogjocbiagipabBrokenC
namespace Go.Proofs.Ytiogjocbiagipab
open Go.RowKit
set_option linter.unusedVariables false
noncomputable def wwOk (k : RK) (l : List Dmg) (len : Int) : Bool := good k l && inR len 1 3000 && !(l.length == 0)
noncomputable def wwA (k : RK) (l : List Dmg) (len : Int) : Int := if wwOk k l len then (mst l len (-1) l.length).1 else 0
noncomputable def wwM (k : RK) (l : List Dmg) (len : Int) : Int := if wwOk k l len then (mst l len (-1) l.length).2 else 0
theorem ww_no {k : RK} {l : List Dmg} {len : Int} (h : good k l = false ∨ inR len 1 3000 = false ∨ l.length = 0) : (wwA k l len = 0 ∧ wwM k l len = 0) ∧ wwOk k l len = false := by
  have : wwOk k l len = false := by unfold wwOk; rcases h with h | h | h <;> simp [h]
  exact ⟨⟨by simp [wwA, this], by simp [wwM, this]⟩, this⟩
theorem ww_yes {k : RK} {l : List Dmg} {len : Int} (h1 : good k l = true) (h2 : inR len 1 3000 = true) (h3 : l.length ≠ 0) : (wwA k l len = (mst l len (-1) l.length).1 ∧ wwM k l len = (mst l len (-1) l.length).2) ∧ wwOk k l len = true := by
  have : wwOk k l len = true := by unfold wwOk; rw [h1, h2]; simpa using h3
  exact ⟨⟨by simp [wwA, this], by simp [wwM, this]⟩, this⟩
theorem ret_t {a b c d : Int} {p q : Bool} (h : a = b) (g : c = d) (f : p = q) : Ending.returned (.tuple #[.int .i64 a, .int .i64 c, .bool p]) = .returned (.tuple #[.int .i64 b, .int .i64 d, .bool q]) := by rw [h, g, f]
set_option maxRecDepth 100000 in
set_option maxHeartbeats 4000000 in
theorem specWorstWindow_c (k : RK) (v : Value) (l : List Dmg) (len : Int) (w : World) (hr : Rs w v l.length (dmgs l)) (hn : l.length ≤ 1048576) (hl0 : (Lit.int .i64 len).wf = true) :
    Calls Try.prog 15 #[.agg #[.int .i64 k.i, .int .i64 k.s, .int .i64 k.w, .int .i64 k.g, .int .i64 k.p], v, .int .i64 len] w fun e w' => e = .returned (.tuple #[.int .i64 (wwA k l len), .int .i64 (wwM k l len), .bool (wwOk k l len)]) ∧ Below w.heap.size w w' := by
  have HR := Lib.hid hr
  clear hr
  go_enter Try.func15, Try.ntmps15
  go_wp2_with fail
  have HBX := Lib.hid (box_RK w k 25 _ rfl)
  have HT : Hid (Below w.heap.size w (w.alloc (.cells #[.int .i64 k.i, .int .i64 k.s, .int .i64 k.w, .int .i64 k.g, .int .i64 k.p] 25))) := Lib.hid ((Below.refl _ _).alloc (Nat.le_refl _) _)
  have hs0 : (w.alloc (.cells #[.int .i64 k.i, .int .i64 k.s, .int .i64 k.w, .int .i64 k.g, .int .i64 k.p] 25)).heap.size = w.heap.size + 1 := by simp
  generalize w.alloc (.cells #[.int .i64 k.i, .int .i64 k.s, .int .i64 k.w, .int .i64 k.g, .int .i64 k.p] 25) = W0 at *
  refine (l3Good_c k _ l _ (HR.out.below HT.out rfl) hn).mono ?_
  rintro e w1 ⟨rfl, b1⟩
  have HB1 : Hid (Below (w.heap.size + 1) W0 w1) := Lib.hid (by rw [← hs0]; exact b1)
  have HT1 : Hid (Below w.heap.size w w1) := Lib.hid (HT.out.trans (b1.mono (by omega)))
  clear b1
  cases hg : good k l with
  | false =>
    have HN := Lib.hid (ww_no (k := k) (l := l) (len := len) (.inl hg))
    go_wp2
    go_ret3
    exact ⟨ret_t HN.out.1.1.symm HN.out.1.2.symm HN.out.2.symm, HT1.out⟩
  | true =>
    obtain ⟨ao, ca, rfl⟩ := HR.out.shape
    go_wp2_with fail
    refine (l3Length_c len _).mono ?_
    rintro e w2 ⟨rfl, rfl⟩
    cases hl : inR len 1 3000 with
    | false =>
      have HN := Lib.hid (ww_no (k := k) (l := l) (len := len) (.inr (.inl hl)))
      go_wp2
      go_ret3
      exact ⟨ret_t HN.out.1.1.symm HN.out.1.2.symm HN.out.2.symm, HT1.out⟩
    | true =>
      by_cases hz : l.length = 0
      · have hz' : ((l.length : Int) == 0) = true := by rw [beq_iff_eq]; omega
        have HN := Lib.hid (ww_no (k := k) (l := l) (len := len) (.inr (.inr hz)))
        go_wp2
        go_ret3
        exact ⟨ret_t HN.out.1.1.symm HN.out.1.2.symm HN.out.2.symm, HT1.out⟩
      · skip
        have HY := Lib.hid (ww_yes hg hl hz)
        have HG := Lib.hid (good_yes hg).srt
        rw [inR_iff] at hl
        have hz' : ((l.length : Int) == 0) = false := by rw [beq_eq_false_iff_ne]; omega
        clear hg
        go_wp2_with fail
        refine (l3Most_c _ l len (-1) _ (HR.out.below HT1.out rfl) HG.out (by omega)).mono ?_
        rintro e w3 ⟨rfl, b3⟩
        go_wp2
        go_ret3
        exact ⟨ret_t HY.out.1.1.symm HY.out.1.2.symm HY.out.2.symm, HT1.out.trans (b3.mono HT1.out.size)⟩
set_option maxRecDepth 100000 in
set_option maxHeartbeats 4000000 in
theorem implWorstWindow_c (k : RK) (v : Value) (l : List Dmg) (len : Int) (w : World) (hr : Rs w v l.length (dmgs l)) (hn : l.length ≤ 1048576) (hl0 : (Lit.int .i64 len).wf = true) :
    Calls Try.prog 14 #[.agg #[.int .i64 k.i, .int .i64 k.s, .int .i64 k.w, .int .i64 k.g, .int .i64 k.p], v, .int .i64 len] w fun e w' => e = .returned (.tuple #[.int .i64 (wwA k l len), .int .i64 (wwM k l len), .bool (wwOk k l len)]) ∧ Below w.heap.size w w' := by
  have HR := Lib.hid hr
  clear hr
  go_enter Try.func14, Try.ntmps14
  go_wp2_with fail
  have HBX := Lib.hid (box_RK w k 25 _ rfl)
  have HT : Hid (Below w.heap.size w (w.alloc (.cells #[.int .i64 k.i, .int .i64 k.s, .int .i64 k.w, .int .i64 k.g, .int .i64 k.p] 25))) := Lib.hid ((Below.refl _ _).alloc (Nat.le_refl _) _)
  have hs0 : (w.alloc (.cells #[.int .i64 k.i, .int .i64 k.s, .int .i64 k.w, .int .i64 k.g, .int .i64 k.p] 25)).heap.size = w.heap.size + 1 := by simp
  generalize w.alloc (.cells #[.int .i64 k.i, .int .i64 k.s, .int .i64 k.w, .int .i64 k.g, .int .i64 k.p] 25) = W0 at *
  refine (implAreDamages_c k _ l _ (HR.out.below HT.out rfl) hn).mono ?_
  rintro e w1 ⟨rfl, b1⟩
  have HB1 : Hid (Below (w.heap.size + 1) W0 w1) := Lib.hid (by rw [← hs0]; exact b1)
  have HT1 : Hid (Below w.heap.size w w1) := Lib.hid (HT.out.trans (b1.mono (by omega)))
  clear b1
  cases hg : good k l with
  | false =>
    have HN := Lib.hid (ww_no (k := k) (l := l) (len := len) (.inl hg))
    go_wp2
    go_ret3
    exact ⟨ret_t HN.out.1.1.symm HN.out.1.2.symm HN.out.2.symm, HT1.out⟩
  | true =>
    obtain ⟨ao, ca, rfl⟩ := HR.out.shape
    by_cases hz : l.length = 0
    · have hz' : ((l.length : Int) == 0) = true := by rw [beq_iff_eq]; omega
      have HN := Lib.hid (ww_no (k := k) (l := l) (len := len) (.inr (.inr hz)))
      go_wp2
      go_ret3
      exact ⟨ret_t HN.out.1.1.symm HN.out.1.2.symm HN.out.2.symm, HT1.out⟩
    · skip
      have hz' : ((l.length : Int) == 0) = false := by rw [beq_eq_false_iff_ne]; omega
      go_wp2_with fail
      refine (within_c len 1 3000 _).mono ?_
      rintro e w2 ⟨rfl, rfl⟩
      cases hl : inR len 1 3000 with
      | false =>
        have HN := Lib.hid (ww_no (k := k) (l := l) (len := len) (.inr (.inl hl)))
        go_wp2
        go_ret3
        exact ⟨ret_t HN.out.1.1.symm HN.out.1.2.symm HN.out.2.symm, HT1.out⟩
      | true =>
        have HY := Lib.hid (ww_yes hg hl hz)
        have HG := Lib.hid (good_yes hg).srt
        rw [inR_iff] at hl
        clear hg
        go_wp2_with fail
        refine (mostBroken_c _ l len _ (HR.out.below HT1.out rfl) HG.out (by omega)).mono ?_
        rintro e w3 ⟨rfl, b3⟩
        go_wp2
        go_ret3
        exact ⟨ret_t HY.out.1.1.symm HY.out.1.2.symm HY.out.2.symm, HT1.out.trans (b3.mono HT1.out.size)⟩
end Go.Proofs.Ytiogjocbiagipab
