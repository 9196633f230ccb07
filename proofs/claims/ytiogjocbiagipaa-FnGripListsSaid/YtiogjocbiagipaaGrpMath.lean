/- Lists of grips: what is kept of a list, numbers, the place of a number, a list with one grip changed. No condition. -/
import Derived.Test.YtiogjocbiagipaaGrpsW
import Derived.Test.YtiogjocbiagipaaAppAny
import Derived.OneCell
import Derived.Laws.Rows
import Derived.Deep.Heap
import Derived.WalkSmall
namespace Go.Proofs.Ytiogjocbiagipaa
open Go.RowKit
set_option linter.unusedVariables false
theorem filt_yes {α : Type} [Inhabited α] {p : α → Bool} {l : List α} {k : Nat} (h : k < l.length) (hp : p (gth l k) = true) : (l.take (k + 1)).filter p = (l.take k).filter p ++ [gth l k] := by
  rw [take_gth l k h, List.filter_append]; simp [hp]
theorem filt_no {α : Type} [Inhabited α] {p : α → Bool} {l : List α} {k : Nat} (h : k < l.length) (hp : p (gth l k) = false) : (l.take (k + 1)).filter p = (l.take k).filter p := by
  rw [take_gth l k h, List.filter_append]; simp [hp]
theorem filt_len {α : Type} (p : α → Bool) (l : List α) (k : Nat) : ((l.take k).filter p).length ≤ k := by
  have h1 := List.length_filter_le p (l.take k)
  have h2 := List.length_take_le k l
  omega
theorem filt_len' {α : Type} (p : α → Bool) (l : List α) (k : Nat) : ((l.take k).filter p).length ≤ l.length := by
  have h1 := List.length_filter_le p (l.take k)
  have h2 := List.length_take_le' k l
  omega
def nums (l : List Grp) : List Int := l.map Grp.i
theorem nums_len (l : List Grp) : (nums l).length = l.length := by simp [nums]
theorem nums_one (l : List Grp) (c : Grp) : nums (l ++ [c]) = nums l ++ [c.i] := by simp [nums]
theorem nums_take {l : List Grp} {k : Nat} (h : k < l.length) : nums (l.take (k + 1)) = nums (l.take k) ++ [(gth l k).i] := by rw [take_gth l k h, nums_one]
theorem GrpV.at {l : List Grp} (h : GrpV l) {c : Grp} (hc : c ∈ l) : isG c = true := by
  obtain ⟨i, hi, rfl⟩ := List.getElem_of_mem hc
  have := (h.ok i hi).1
  rwa [gth_get hi] at this
theorem GrpV.lt {l : List Grp} (h : GrpV l) : ∀ j i, i < j → j < l.length → (gth l i).i < (gth l j).i := by
  intro j
  induction j with
  | zero => intro i hi; omega
  | succ j ih =>
    intro i hi hj
    have h1 := (h.ok (j + 1) hj).2 (by omega)
    rw [Nat.add_sub_cancel] at h1
    by_cases e : i = j
    · subst e; exact h1
    · have := ih i (by omega) (by omega); omega
def idxN (l : List Grp) (n : Int) : Nat := l.findIdx (fun c => c.i == n)
theorem idxN_le (l : List Grp) (n : Int) : idxN l n ≤ l.length := List.findIdx_le_length
theorem idxN_at {l : List Grp} {n : Int} (h : idxN l n < l.length) : (gth l (idxN l n)).i = n := by
  have := List.findIdx_getElem (p := fun c : Grp => c.i == n) (xs := l) (w := h)
  rw [gth_get h]
  exact eq_of_beq this
theorem idxN_lt {l : List Grp} {n : Int} {j : Nat} (h : j < idxN l n) : (gth l j).i ≠ n := by
  have hl : j < l.length := Nat.lt_of_lt_of_le h (idxN_le l n)
  have := List.not_of_lt_findIdx (p := fun c : Grp => c.i == n) (xs := l) h
  rw [gth_get hl]
  intro e
  simp [e] at this
theorem idxN_is {l : List Grp} {n : Int} {k : Nat} (hk : k < l.length) (h0 : ∀ j, j < k → (gth l j).i ≠ n) (h : (gth l k).i = n) : idxN l n = k := by
  rcases Nat.lt_trichotomy (idxN l n) k with hh | hh | hh
  · exact absurd (idxN_at (Nat.lt_trans hh hk)) (h0 _ hh)
  · exact hh
  · exact absurd h (idxN_lt hh)
theorem idxN_none {l : List Grp} {n : Int} (h0 : ∀ j, j < l.length → (gth l j).i ≠ n) : idxN l n = l.length := by
  rcases Nat.lt_or_ge (idxN l n) l.length with h | h
  · exact absurd (idxN_at h) (h0 _ h)
  · exact Nat.le_antisymm (idxN_le l n) h
theorem grps_split (l : List Grp) (i : Nat) (hi : i < l.length) (x : Grp) : grps (l.set i x) = grps (l.take i) ++ ([.int .i64 x.i, .int .i64 x.s, .int .i64 x.w, .int .i64 x.g, .int .i64 x.p] ++ grps (l.drop (i + 1))) := by
  rw [← grps_one, ← grps_append, ← grps_append, List.set_eq_take_append_cons_drop, if_pos hi, List.singleton_append]
theorem grps_set5 (l : List Grp) (i : Nat) (hi : i < l.length) (y : Grp) : ((((((grps l).set (i * 5) (.int .i64 y.i)).set (i * 5 + 1) (.int .i64 y.s)).set (i * 5 + 2) (.int .i64 y.w)).set (i * 5 + 3) (.int .i64 y.g)).set (i * 5 + 4) (.int .i64 y.p)) = grps (l.set i y) := by
  have hal : (grps (l.take i)).length = i * 5 := grps_take_len l i (by omega)
  have h0 := grps_split l i hi (gth l i)
  have e : l.set i (gth l i) = l := by rw [gth_get hi]; exact List.set_getElem_self hi
  rw [e] at h0
  rw [grps_split l i hi, h0, List.set_append_right _ _ (by omega), hal, List.set_append_right _ _ (by omega), hal, List.set_append_right _ _ (by omega), hal, List.set_append_right _ _ (by omega), hal, List.set_append_right _ _ (by omega), hal]
  simp only [Nat.sub_self, Nat.add_sub_cancel_left]
  rfl
theorem own_setM {w : World} {B g ca : Nat} {e : TypeId} {size n : Nat} {xs : List Value} (h : w.ownsRow B e size (.slice (some ⟨g, 0, none⟩) n ca) n xs) (j : Nat) (u : Value) :
    (w.setCell ⟨g, j, none⟩ u).ownsRow B e size (.slice (some ⟨g, 0, none⟩) n ca) n (xs.set j u) := by
  rcases h.2 with ⟨h', _⟩ | ⟨g', ca', cur, h', hb, hg, h1, h2, h3, h4⟩
  · simp at h'
  · simp only [Value.slice.injEq, Option.some.injEq, Addr.mk.injEq, and_true, true_and] at h'
    obtain ⟨rfl, rfl⟩ := h'
    refine ⟨by simp [h.1], .inr ⟨g, ca, cur.setIfInBounds j u, rfl, hb, by simp [World.setCell, Array.getElem?_modify, hg], h1, h2, by simp [h3], ?_⟩⟩
    rw [← h4, Array.toList_setIfInBounds, List.take_set]
theorem own_lenM {w : World} {B n m : Nat} {e : TypeId} {size : Nat} {v : Value} {xs : List Value} (h : w.ownsRow B e size v n xs) (hm : n = m) : w.ownsRow B e size v m xs := by subst hm; exact h
theorem blk_set5 {w : World} {b i : Nat} {cs : Array Value} {t : TypeId} {v : Value} (h : w.heap[b]? = some (.cells cs t (0, 0))) : (w.setCell ⟨b, i, none⟩ v).heap[b]? = some (.cells (cs.setIfInBounds i v) t (0, 0)) := by
  simp [World.setCell, Array.getElem?_modify, h]
theorem below_set {B : Nat} {a w : World} (h : Below B a w) {b : Nat} (hb : B ≤ b) (i : Nat) (v : Value) : Below B a (w.setCell ⟨b, i, none⟩ v) := h.setCell (p := ⟨b, i, none⟩) hb v
theorem blk_old {W : World} {o o' : Obj} {g : Nat} (h : W.heap[g]? = some o) : (W.alloc o').heap[g]? = some o := by
  have hl := (Array.getElem?_eq_some_iff.1 h).1
  exact (((Below.refl W.heap.size W).alloc (Nat.le_refl _) o').block g hl).trans h
theorem own_at5 {w : World} {B : Nat} {v : Value} {T : TypeId} {l : List Grp} (h : w.ownsRow B T 5 v l.length (grps l)) :
    ∃ ao a oa ca, v = .slice ao l.length ca ∧ (0 < l.length → ao = some ⟨a, oa, none⟩ ∧ B ≤ a ∧ a < w.heap.size ∧ l.length ≤ maxLen) ∧ GrpAt w a oa l := by
  rcases own_form h with ⟨h0, rfl⟩ | ⟨g, ca, rfl, hB, hg, hc, hm⟩
  · exact ⟨none, 0, 0, 0, by rw [h0], fun h => by omega, fun i hi => by omega⟩
  · exact ⟨_, g, 0, ca, rfl, fun _ => ⟨rfl, hB, hg, by omega⟩, own_Grp h⟩
theorem grown_setC (w : World) (a : Addr) (v : Value) : w.grownBy (w.setCell a v) (some a.block) :=
  ⟨rfl, rfl, rfl, by simp [World.setCell], fun k hk hne => by simp only [World.setCell, Array.getElem?_modify]; rw [if_neg (fun e => hne (by rw [e]))]⟩
theorem grown_set {w w' : World} {b : Nat} (h : w.grownBy w' (some b)) (i : Nat) (v : Value) : w.grownBy (w'.setCell ⟨b, i, none⟩ v) (some b) := h.trans (grown_setC w' ⟨b, i, none⟩ v)
theorem grown_alloc {w w' : World} {row : Option Nat} (h : w.grownBy w' row) (o : Obj) : w.grownBy (w'.alloc o) row := h.trans (World.grownBy_alloc w' o row)
theorem GrpAt.kept {w w' : World} {a oa : Nat} {l : List Grp} {row : Option Nat} (h : GrpAt w a oa l) (hg : w.grownBy w' row) (hne : some a ≠ row) : GrpAt w' a oa l := fun i hi =>
  ⟨hg.cell (h i hi).1 hne, hg.cell (h i hi).2.1 hne, hg.cell (h i hi).2.2.1 hne, hg.cell (h i hi).2.2.2.1 hne, hg.cell (h i hi).2.2.2.2 hne⟩
theorem ret_v {v : Value} {p q : Bool} (g : p = q) : Ending.returned (.tuple #[v, .bool p]) = .returned (.tuple #[v, .bool q]) := by rw [g]
/-- A valid list with one grip changed that keeps its cabin is valid exactly if the grip is. -/
theorem grpL_set {l : List Grp} (hl : GrpV l) {i : Nat} (hi : i < l.length) {x : Grp} (hx : x.i = (gth l i).i) : grpL (l.set i x) = isG x := by
  have hnum : ∀ j, j < l.length → (gth (l.set i x) j).i = (gth l j).i := by
    intro j hj
    by_cases e : i = j
    · subst e; rw [gth_set_same hi]; exact hx
    · rw [gth_set_other e]
  rw [Bool.eq_iff_iff, grpL_iff]
  constructor
  · intro h
    have := (h.ok i (by simpa using hi)).1
    rwa [gth_set_same hi] at this
  · intro h
    refine ⟨by simpa using hl.len, fun j hj => ?_⟩
    have hj' : j < l.length := by simpa using hj
    refine ⟨?_, fun h0 => ?_⟩
    · by_cases e : i = j
      · subst e; rw [gth_set_same hi]; exact h
      · rw [gth_set_other e]; exact (hl.ok j hj').1
    · rw [hnum j hj', hnum (j - 1) (by omega)]
      exact (hl.ok j hj').2 h0
def idxV (l : List Grp) (n : Int) : Int := if idxN l n < l.length then (idxN l n : Int) else -1
theorem ret_ix {a b : Int} (h : a = b) : Ending.returned (.int .i64 a) = .returned (.int .i64 b) := by rw [h]
end Go.Proofs.Ytiogjocbiagipaa
