/- MoveCabin's plain meaning: a cabin that gets another state. Condition: the table of moves is as laid. -/
import Derived.Test.YtiogjocbiagipabDoorCabNextC
import Derived.WalkSmall
namespace Go.Proofs.YtiogjocbiagipabDoor
open Go.RowKit
set_option linter.unusedVariables false
/-- A cabin in state f can get state t. -/
def may (f t : Int) : Bool := if f = 0 then decide (t ≠ 0) else if f = 1 ∨ f = 2 then decide (t = 0) || decide (t = 3) else decide (t = 2)
/-- The table of moves, row after row. -/
def movCells : Array Value := #[.bool false, .bool true, .bool true, .bool true, .bool true, .bool false, .bool false, .bool true, .bool true, .bool false, .bool false, .bool true, .bool false, .bool false, .bool true, .bool false]
theorem mov_at (f t : Nat) (hf : f < 4) (ht : t < 4) : movCells[f * 4 + t]? = some (.bool (may f t)) := by
  rcases (by omega : f = 0 ∨ f = 1 ∨ f = 2 ∨ f = 3) with rfl | rfl | rfl | rfl <;> rcases (by omega : t = 0 ∨ t = 1 ∨ t = 2 ∨ t = 3) with rfl | rfl | rfl | rfl <;> rfl
/-- The program's table of moves is as laid. -/
def MovP (w : World) : Prop := w.var? Tryd.prog "loop.example/g00935/impl.cabinMoves" = some movCells
theorem gMov : Tryd.prog.globalNamed "loop.example/g00935/impl.cabinMoves" = some 0 := by kernel_rfl
theorem mov_lt {w : World} (h : MovP w) : 0 < w.heap.size := by
  have h' : w.var? Tryd.prog "loop.example/g00935/impl.cabinMoves" = _ := h
  unfold World.var? at h'
  simp only [gMov, Option.bind_some] at h'
  cases hb : w.heap[0]? with
  | none => simp [hb] at h'
  | some o => exact (Array.getElem?_eq_some_iff.1 hb).1
theorem MovP.below {w w' : World} (h : MovP w) (hb : Below w.heap.size w w') : MovP w' := var?_below hb gMov (mov_lt h) h
theorem MovP.cell {w : World} (h : MovP w) (f t : Nat) (hf : f < 4) (ht : t < 4) : w.cell? ⟨0, f * 4 + t, none⟩ = some (.bool (may f t)) := by
  rw [← mov_at f t hf ht]
  exact World.var?_cell gMov h (f * 4 + t)
/-- The place of number n. -/
def idxN (l : List Cab) (n : Int) : Nat := l.findIdx (fun c => c.i == n)
theorem idxN_le (l : List Cab) (n : Int) : idxN l n ≤ l.length := List.findIdx_le_length
theorem idxN_at {l : List Cab} {n : Int} (h : idxN l n < l.length) : (gth l (idxN l n)).i = n := by
  have := List.findIdx_getElem (p := fun c : Cab => c.i == n) (xs := l) (w := h)
  rw [gth_get h]
  exact eq_of_beq this
theorem idxN_lt {l : List Cab} {n : Int} {j : Nat} (h : j < idxN l n) : (gth l j).i ≠ n := by
  have hl : j < l.length := Nat.lt_of_lt_of_le h (idxN_le l n)
  have := List.not_of_lt_findIdx (p := fun c : Cab => c.i == n) (xs := l) h
  rw [gth_get hl]
  intro e
  simp [e] at this
theorem idxN_is {l : List Cab} {n : Int} {k : Nat} (hk : k < l.length) (h0 : ∀ j, j < k → (gth l j).i ≠ n) (h : (gth l k).i = n) : idxN l n = k := by
  rcases Nat.lt_trichotomy (idxN l n) k with hh | hh | hh
  · exact absurd (idxN_at (Nat.lt_trans hh hk)) (h0 _ hh)
  · exact hh
  · exact absurd h (idxN_lt hh)
theorem idxN_none {l : List Cab} {n : Int} (h0 : ∀ j, j < l.length → (gth l j).i ≠ n) : idxN l n = l.length := by
  rcases Nat.lt_or_ge (idxN l n) l.length with h | h
  · exact absurd (idxN_at h) (h0 _ h)
  · exact Nat.le_antisymm (idxN_le l n) h
/-- The cabin with its new state. -/
def mvC (c : Cab) (t : Int) : Cab := ⟨c.i, c.s, c.w, t, if c.g = 1 ∧ t = 0 then c.p + 1 else c.p⟩
noncomputable def mvIn (l : List Cab) (t : Int) : Bool := cabL l && inR t 0 3
noncomputable def mvOk (l : List Cab) (n t : Int) : Bool := mvIn l t && decide (idxN l n < l.length) && may (gth l (idxN l n)).g t && decide ((mvC (gth l (idxN l n)) t).p ≤ 99999)
noncomputable def mvR (l : List Cab) (n t : Int) : List Cab := if mvOk l n t then l.set (idxN l n) (mvC (gth l (idxN l n)) t) else []
theorem mv_no {l : List Cab} {n t : Int} (h : mvOk l n t = false) : mvR l n t = [] := by simp [mvR, h]
theorem mv_yes {l : List Cab} {n t : Int} (h : mvOk l n t = true) : mvR l n t = l.set (idxN l n) (mvC (gth l (idxN l n)) t) := by simp [mvR, h]
theorem mv_in {l : List Cab} {n t : Int} (h : mvIn l t = false) : mvOk l n t = false := by simp [mvOk, h]
theorem mv_none {l : List Cab} {n t : Int} (h : idxN l n = l.length) : mvOk l n t = false := by simp [mvOk, h]
theorem mv_may {l : List Cab} {n t : Int} (h : may (gth l (idxN l n)).g t = false) : mvOk l n t = false := by simp [mvOk, h]
theorem mv_trip {l : List Cab} {n t : Int} (h : ¬ (mvC (gth l (idxN l n)) t).p ≤ 99999) : mvOk l n t = false := by
  have : decide ((mvC (gth l (idxN l n)) t).p ≤ 99999) = false := by simpa using h
  simp [mvOk, this]
theorem mv_all {l : List Cab} {n t : Int} (h1 : mvIn l t = true) (h2 : idxN l n < l.length) (h3 : may (gth l (idxN l n)).g t = true) (h4 : (mvC (gth l (idxN l n)) t).p ≤ 99999) : mvOk l n t = true := by simp [mvOk, h1, h2, h3, h4]
theorem mvR_len (l : List Cab) (n t : Int) : (mvR l n t).length ≤ l.length := by
  unfold mvR; split <;> simp
/-- The moved list is valid exactly if the trips can be counted. -/
theorem cabL_mv {l : List Cab} (hl : Cabs l) {i : Nat} (hi : i < l.length) {t : Int} (ht : 0 ≤ t ∧ t ≤ 3) : cabL (l.set i (mvC (gth l i) t)) = decide ((mvC (gth l i) t).p ≤ 99999) := by
  have hc := (isC_iff _).1 (hl.ok i hi).1
  have hp : 0 ≤ (mvC (gth l i) t).p := by unfold mvC; simp only; split <;> omega
  have hnum : ∀ j, j < l.length → (gth (l.set i (mvC (gth l i) t)) j).i = (gth l j).i := by
    intro j hj
    by_cases e : i = j
    · subst e; rw [gth_set_same hi]; rfl
    · rw [gth_set_other e]
  have key : isC (mvC (gth l i) t) = true ↔ (mvC (gth l i) t).p ≤ 99999 := by
    rw [isC_iff]
    unfold mvC at hp ⊢
    simp only at hp ⊢
    omega
  rw [Bool.eq_iff_iff, cabL_iff, decide_eq_true_eq, ← key]
  constructor
  · intro h
    have := (h.ok i (by simpa using hi)).1
    rwa [gth_set_same hi] at this
  · intro h
    refine ⟨by simpa using hl.len, fun j hj => ?_⟩
    have hj' : j < l.length := by simpa using hj
    refine ⟨?_, fun h0 => ?_⟩
    · by_cases e : i = j
      · subst e; rw [gth_set_same hi]; exact h
      · rw [gth_set_other e]; exact (hl.ok j hj').1
    · rw [hnum j hj', hnum (j - 1) (by omega)]
      exact (hl.ok j hj').2 h0
/-- The cells of a list with one cabin changed. -/
theorem cabs_split (l : List Cab) (i : Nat) (hi : i < l.length) (x : Cab) : cabs (l.set i x) = cabs (l.take i) ++ ([.int .i64 x.i, .int .i64 x.s, .int .i64 x.w, .int .i64 x.g, .int .i64 x.p] ++ cabs (l.drop (i + 1))) := by
  rw [← cabs_one, ← cabs_append, ← cabs_append, List.set_eq_take_append_cons_drop, if_pos hi, List.singleton_append]
theorem cabs_set3 (l : List Cab) (i : Nat) (hi : i < l.length) (G : Int) : (cabs l).set (i * 5 + 3) (.int .i64 G) = cabs (l.set i ⟨(gth l i).i, (gth l i).s, (gth l i).w, G, (gth l i).p⟩) := by
  have hal : (cabs (l.take i)).length = i * 5 := cabs_take_len l i (by omega)
  have h0 := cabs_split l i hi (gth l i)
  have e : l.set i (gth l i) = l := by rw [gth_get hi]; exact List.set_getElem_self hi
  rw [e] at h0
  rw [cabs_split l i hi, h0, List.set_append_right _ _ (by omega), hal, Nat.add_sub_cancel_left]
  rfl
theorem cabs_set4 (l : List Cab) (i : Nat) (hi : i < l.length) (P : Int) : (cabs l).set (i * 5 + 4) (.int .i64 P) = cabs (l.set i ⟨(gth l i).i, (gth l i).s, (gth l i).w, (gth l i).g, P⟩) := by
  have hal : (cabs (l.take i)).length = i * 5 := cabs_take_len l i (by omega)
  have h0 := cabs_split l i hi (gth l i)
  have e : l.set i (gth l i) = l := by rw [gth_get hi]; exact List.set_getElem_self hi
  rw [e] at h0
  rw [cabs_split l i hi, h0, List.set_append_right _ _ (by omega), hal, Nat.add_sub_cancel_left]
  rfl
theorem own_setM {w : World} {B g ca : Nat} {e : TypeId} {size n : Nat} {xs : List Value} (h : w.ownsRow B e size (.slice (some ⟨g, 0, none⟩) n ca) n xs) (j : Nat) (u : Value) :
    (w.setCell ⟨g, j, none⟩ u).ownsRow B e size (.slice (some ⟨g, 0, none⟩) n ca) n (xs.set j u) := by
  rcases h.2 with ⟨h', _⟩ | ⟨g', ca', cur, h', hb, hg, h1, h2, h3, h4⟩
  · simp at h'
  · simp only [Value.slice.injEq, Option.some.injEq, Addr.mk.injEq, and_true, true_and] at h'
    obtain ⟨rfl, rfl⟩ := h'
    refine ⟨by simp [h.1], .inr ⟨g, ca, cur.setIfInBounds j u, rfl, hb, by simp [World.setCell, Array.getElem?_modify, hg], h1, h2, by simp [h3], ?_⟩⟩
    rw [← h4, Array.toList_setIfInBounds, List.take_set]
theorem own_lenM {w : World} {B n m : Nat} {e : TypeId} {size : Nat} {v : Value} {xs : List Value} (h : w.ownsRow B e size v n xs) (hm : n = m) : w.ownsRow B e size v m xs := by subst hm; exact h
end Go.Proofs.YtiogjocbiagipabDoor
