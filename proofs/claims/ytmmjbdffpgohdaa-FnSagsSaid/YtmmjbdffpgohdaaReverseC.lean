/- ReverseLine: the program's and the specification's answer as one function of the line. Condition: sizes. -/
import Derived.Test.YtmmjbdffpgohdaaSpanW
import Derived.Test.YtmmjbdffpgohdaaReverseW
import Derived.Test.YtmmjbdffpgohdaaCopyAll
import Derived.Deep.RegionHeld3
import Derived.Deep.AppendLies
import Derived.WalkSpells
import Derived.StillTactics
import Derived.Deep.DeepCutAuto
namespace Go.Proofs.Ytmmjbdffpgohdaa
open Go.RowKit
set_option linter.unusedVariables false
/-- A support as it is seen from the other end. -/
def turn (e : Int) (x : Sup) : Sup := ⟨e - x.a, x.h, x.s⟩
def revK (l : List Sup) : List Sup := l.reverse.map (turn (nth l (l.length - 1)).a)
noncomputable def rev (l : List Sup) : List Sup := if isL l then revK l else []
theorem revK_len (l : List Sup) : (revK l).length = l.length := by simp [revK]
theorem rev_yes {l : List Sup} (h : isL l = true) : rev l = revK l := by simp [rev, h]
theorem rev_no {l : List Sup} (h : isL l = false) : rev l = [] := by simp [rev, h]
theorem rev_len (l : List Sup) : (rev l).length ≤ 8 := by
  cases h : isL l with
  | false => rw [rev_no h]; simp
  | true => rw [rev_yes h, revK_len]; exact (isL_yes h).eight
theorem nth_map {l : List Sup} {f : Sup → Sup} {i : Nat} (h : i < l.length) : nth (l.map f) i = f (nth l i) := by
  simp [nth, List.getD, h]
theorem revK_nth {l : List Sup} {i : Nat} (h : i < l.length) : nth (revK l) i = turn (nth l (l.length - 1)).a (nth l (l.length - 1 - i)) := by
  unfold revK
  rw [nth_map (by simpa using h), nth_reverse h]
theorem sups_set_a : ∀ (l : List Sup) (i : Nat) (x : Int), i < l.length → sups (l.set i ⟨x, (nth l i).h, (nth l i).s⟩) = (sups l).set (i * 3) (.int .i64 x)
  | [], i, x, h => by simp at h
  | y :: r, 0, x, _ => by simp [flat, Sup.enc, nth]
  | y :: r, i + 1, x, h => by
    have ih := sups_set_a r i x (by simpa using h)
    have e0 : sups (y :: r) = y.enc ++ sups r := by simp [flat]
    have hn : nth (y :: r) (i + 1) = nth r i := by simp [nth]
    have e1 : sups ((y :: r).set (i + 1) ⟨x, (nth r i).h, (nth r i).s⟩) = y.enc ++ sups (r.set i ⟨x, (nth r i).h, (nth r i).s⟩) := by simp [flat]
    rw [hn, e1, ih, e0]
    have hl : y.enc.length = 3 := rfl
    rw [List.set_append_right _ _ (by omega), hl]
    rw [show (i + 1) * 3 - 3 = i * 3 by omega]
/-- The first k are turned. -/
def TurnTo (l lk : List Sup) (k : Nat) : Prop := lk.length = l.length ∧ ∀ i, i < l.length → nth lk i = if i < k then nth (revK l) i else nth l.reverse i
theorem turnTo_zero (l : List Sup) : TurnTo l l.reverse 0 := ⟨by simp, fun i hi => by rw [if_neg (by omega)]⟩
theorem turnTo_step {l lk : List Sup} {k : Nat} (h : TurnTo l lk k) (hk : k < l.length) : TurnTo l (lk.set k ⟨(nth l (l.length - 1)).a - (nth lk k).a, (nth lk k).h, (nth lk k).s⟩) (k + 1) := by
  obtain ⟨hl, hx⟩ := h
  refine ⟨by simp [hl], fun i hi => ?_⟩
  rw [nth_set (by omega) (by omega)]
  by_cases h1 : k = i
  · subst h1
    rw [if_pos rfl, if_pos (by omega), revK_nth hk, hx k hk, if_neg (by omega), nth_reverse hk]
    rfl
  · rw [if_neg h1, hx i hi]
    by_cases h3 : i < k
    · rw [if_pos h3, if_pos (by omega)]
    · rw [if_neg h3, if_neg (by omega)]
theorem turnTo_done {l lk : List Sup} (h : TurnTo l lk l.length) : lk = revK l := by
  obtain ⟨hl, hx⟩ := h
  apply ext_nth (by rw [hl, revK_len])
  intro i hi
  rw [hl] at hi
  rw [hx i hi, if_pos hi]
theorem sups_one_cell (l : List Sup) : ∀ v ∈ sups l, v.oneCell' = true := by
  intro v hv
  obtain ⟨x, _, hx⟩ := List.mem_flatMap.1 hv
  simp [Sup.enc] at hx
  rcases hx with rfl | rfl | rfl <;> rfl
theorem addr_add (b off i : Nat) : (⟨b, off, none⟩ : Addr).add i = ⟨b, off + i, none⟩ := by
  unfold Addr.add; split
  · rename_i hz; rw [hz]; rfl
  · rfl
end Go.Proofs.Ytmmjbdffpgohdaa
