/- slices.Reverse at a slice of supports. Condition: sizes. -/
import Derived.Test.YtmmjbdffpgohdaaDoorSupMark
import Derived.RegionTactic
import Derived.ChangeAlike
import Derived.BigRegion
import Derived.IntWalk
namespace Go.Proofs.YtmmjbdffpgohdaaDoor
open Go.RowKit
set_option linter.unusedVariables false
theorem sups_set : ∀ (l : List Sup) (i : Nat) (x : Sup), i < l.length → sups (l.set i x) = (((sups l).set (i * 3) (.int .i64 x.a)).set (i * 3 + 1) (.int .i64 x.h)).set (i * 3 + 2) (.bool x.s)
  | [], i, x, h => by simp at h
  | y :: r, 0, x, _ => by simp [flat, Sup.enc]
  | y :: r, i + 1, x, h => by
    have ih := sups_set r i x (by simpa using h)
    have e0 : sups (y :: r) = y.enc ++ sups r := by simp [flat]
    have e1 : sups ((y :: r).set (i + 1) x) = y.enc ++ sups (r.set i x) := by simp [flat]
    rw [e1, ih, e0]
    have hl : y.enc.length = 3 := rfl
    rw [List.set_append_right _ _ (by omega), List.set_append_right _ _ (by omega), List.set_append_right _ _ (by omega), hl]
    rw [show (i + 1) * 3 - 3 = i * 3 by omega, show (i + 1) * 3 + 1 - 3 = i * 3 + 1 by omega, show (i + 1) * 3 + 2 - 3 = i * 3 + 2 by omega]
theorem nth_set {l : List Sup} {i j : Nat} {x : Sup} (hi : i < l.length) (hj : j < l.length) : nth (l.set i x) j = if i = j then x else nth l j := by
  unfold nth
  rw [List.getD_eq_getElem?_getD, List.getElem?_set]
  by_cases h : i = j
  · subst h; simp [hi]
  · simp [h, List.getD_eq_getElem?_getD]
theorem ext_nth {l r : List Sup} (hl : l.length = r.length) (h : ∀ i, i < l.length → nth l i = nth r i) : l = r := by
  apply List.ext_getElem hl
  intro i h1 h2
  have := h i h1
  simpa [nth, List.getD, h1, h2] using this
theorem nth_reverse {l : List Sup} {i : Nat} (hi : i < l.length) : nth l.reverse i = nth l (l.length - 1 - i) := by
  unfold nth
  rw [List.getD_eq_getElem?_getD, List.getD_eq_getElem?_getD, List.getElem?_reverse hi]
/-- Turned from both ends, k elements each. -/
def RevTo (l lk : List Sup) (k : Nat) : Prop := lk.length = l.length ∧ ∀ i, i < l.length → nth lk i = if i < k ∨ l.length - k ≤ i then nth l (l.length - 1 - i) else nth l i
theorem revTo_zero (l : List Sup) : RevTo l l 0 := ⟨rfl, fun i hi => by rw [if_neg (by omega)]⟩
theorem revTo_step {l lk : List Sup} {k j : Nat} (h : RevTo l lk k) (hj : j = l.length - 1 - k) (hk : k < j) : RevTo l ((lk.set k (nth lk j)).set j (nth lk k)) (k + 1) := by
  obtain ⟨hl, hx⟩ := h
  refine ⟨by simp [hl], fun i hi => ?_⟩
  rw [nth_set (by simp; omega) (by simp; omega), nth_set (by omega) (by omega)]
  by_cases h1 : j = i
  · rw [if_pos h1, if_pos (by omega), hx k (by omega), if_neg (by omega)]
    congr 1; omega
  · rw [if_neg h1]
    by_cases h2 : k = i
    · rw [if_pos h2, if_pos (by omega), hx j (by omega), if_neg (by omega)]
      congr 1; omega
    · rw [if_neg h2, hx i hi]
      by_cases h3 : i < k ∨ l.length - k ≤ i
      · rw [if_pos h3, if_pos (by omega)]
      · rw [if_neg h3, if_neg (by omega)]
theorem revTo_done {l lk : List Sup} {k : Nat} (h : RevTo l lk k) (hk : l.length ≤ 2 * k + 1) : lk = l.reverse := by
  obtain ⟨hl, hx⟩ := h
  apply ext_nth (by simp [hl])
  intro i hi
  rw [hl] at hi
  rw [hx i hi, nth_reverse hi]
  by_cases h3 : i < k ∨ l.length - k ≤ i
  · rw [if_pos h3]
  · rw [if_neg h3]
    congr 1; omega
theorem six_sets {w wr : World} {B g cap n : Nat} {e : TypeId} {xs : List Value} (ho : wr.ownsRow B e 3 (.slice (some ⟨g, 0, none⟩) n cap) n xs) (hb : Below B w wr) (hg : B ≤ g) (p0 p1 p2 p3 p4 p5 : Nat) (u0 u1 u2 u3 u4 u5 : Value) :
    ((((((wr.setCell ⟨g, p0, none⟩ u0).setCell ⟨g, p1, none⟩ u1).setCell ⟨g, p2, none⟩ u2).setCell ⟨g, p3, none⟩ u3).setCell ⟨g, p4, none⟩ u4).setCell ⟨g, p5, none⟩ u5).ownsRow B e 3 (.slice (some ⟨g, 0, none⟩) n cap) n ((((((xs.set p0 u0).set p1 u1).set p2 u2).set p3 u3).set p4 u4).set p5 u5) ∧
    Below B w ((((((wr.setCell ⟨g, p0, none⟩ u0).setCell ⟨g, p1, none⟩ u1).setCell ⟨g, p2, none⟩ u2).setCell ⟨g, p3, none⟩ u3).setCell ⟨g, p4, none⟩ u4).setCell ⟨g, p5, none⟩ u5) := by
  have q1 := (ho.stored p0 u0).1
  have q2 := (q1.stored p1 u1).1
  have q3 := (q2.stored p2 u2).1
  have q4 := (q3.stored p3 u3).1
  have q5 := (q4.stored p4 u4).1
  have q6 := (q5.stored p5 u5).1
  refine ⟨q6, ?_⟩
  have b1 : Below B w _ := Below.setCell (p := ⟨g, p0, none⟩) hb hg u0
  have b2 : Below B w _ := Below.setCell (p := ⟨g, p1, none⟩) b1 hg u1
  have b3 : Below B w _ := Below.setCell (p := ⟨g, p2, none⟩) b2 hg u2
  have b4 : Below B w _ := Below.setCell (p := ⟨g, p3, none⟩) b3 hg u3
  have b5 : Below B w _ := Below.setCell (p := ⟨g, p4, none⟩) b4 hg u4
  exact Below.setCell (p := ⟨g, p5, none⟩) b5 hg u5
set_option maxRecDepth 100000 in
set_option maxHeartbeats 2000000 in
theorem reverse_c (B g cap : Nat) (l : List Sup) (w : World) (hn : l.length ≤ 1048576) (hg : B ≤ g) (hown : w.ownsRow B 33 3 (.slice (some ⟨g, 0, none⟩) l.length cap) l.length (sups l)) :
    Calls Tryd.prog 19 #[.slice (some ⟨g, 0, none⟩) l.length cap] w fun e w' => e = .returned (.tuple #[]) ∧ w'.ownsRow B 33 3 (.slice (some ⟨g, 0, none⟩) l.length cap) l.length (sups l.reverse) ∧ Below B w w' := by
  go_enter Tryd.func19, Tryd.ntmps19
  go_wp2
  go_loopw [2, 3] (fun i j wr => ∃ (k : Nat) (lk : List Sup), k ≤ l.length ∧ i = .int .i64 k ∧ j = .int .i64 ((l.length : Int) - 1 - (k : Int)) ∧ Hid (RevTo l lk k) ∧ wr.ownsRow B 33 3 (.slice (some ⟨g, 0, none⟩) l.length cap) l.length (sups lk) ∧ Below B w wr) (fun i _ _ => l.length - (intOf i).toNat)
  case atStart => exact ⟨0, l, Nat.zero_le _, rfl, by go_num, Lib.hid (revTo_zero l), hown, Below.refl _ _⟩
  case round =>
    obtain ⟨k, lk, hk, rfl, rfl, HT, ho, hb⟩ := hrel
    by_cases hlt : 2 * k + 1 < l.length
    · obtain ⟨j, hj⟩ : ∃ j, j = l.length - 1 - k := ⟨_, rfl⟩
      have hkj : k < j := by omega
      have hjl : j < l.length := by omega
      have HS := Lib.hid (revTo_step HT.out hj hkj)
      have hje : (l.length : Int) - 1 - (k : Int) = (j : Int) := by omega
      rw [hje]
      have HJ := Lib.hid (And.intro hj hje)
      have hlk : lk.length = l.length := HT.out.1
      clear hj hje
      obtain ⟨e0, e1, e2⟩ := sups_at lk k (by omega)
      obtain ⟨f0, f1, f2⟩ := sups_at lk j (by omega)
      have c0 := (ho.cellAt (k * 3) (by omega)).trans e0
      have c1 := (ho.cellAt (k * 3 + 1) (by omega)).trans e1
      have c2 := (ho.cellAt (k * 3 + 2) (by omega)).trans e2
      have d0 := (ho.cellAt (j * 3) (by omega)).trans f0
      have d1 := (ho.cellAt (j * 3 + 1) (by omega)).trans f1
      have d2 := (ho.cellAt (j * 3 + 2) (by omega)).trans f2
      have z0 := ho.frozenAt (k * 3)
      have z1 := ho.frozenAt (k * 3 + 1)
      have z2 := ho.frozenAt (k * 3 + 2)
      have y0 := ho.frozenAt (j * 3)
      have y1 := ho.frozenAt (j * 3 + 1)
      have y2 := ho.frozenAt (j * 3 + 2)
      clear e0 e1 e2 f0 f1 f2
      have HN := Lib.hid (And.intro (sups_set lk k (nth lk j) (by omega)) (sups_set (lk.set k (nth lk j)) j (nth lk k) (by simp; omega)))
      generalize nth lk k = X at *
      generalize nth lk j = Y at *
      have hk1 : k < l.length := by omega
      have hkz : (k : Int) < (j : Int) := by omega
      have hgs := (ho.lt g rfl).2
      go_wp2_with fail
      go_region
      go_wp2
      have q7 := six_sets ho hb hg (k * 3) (k * 3 + 1) (k * 3 + 2) (j * 3) (j * 3 + 1) (j * 3 + 2) (.int .i64 Y.a) (.int .i64 Y.h) (.bool Y.s) (.int .i64 X.a) (.int .i64 X.h) (.bool X.s)
      rw [← HN.out.1, ← HN.out.2] at q7
      have Q7 := Lib.hid q7
      clear q7
      go_roundw
      case rel =>
        refine ⟨k + 1, (lk.set k Y).set j X, by omega, by go_num, ?_, HS, Q7.out.1.drew, Q7.out.2.drew⟩
        have := HJ.out.2
        go_num
      case measure => simp [intOf]; omega
    · have hnl : ¬ (k : Int) < (l.length : Int) - 1 - (k : Int) := by omega
      have HE := Lib.hid (revTo_done HT.out (by omega))
      go_wp2
      go_end0
      refine ⟨rfl, ?_, hb⟩
      rw [← HE.out]
      exact ho
end Go.Proofs.YtmmjbdffpgohdaaDoor
