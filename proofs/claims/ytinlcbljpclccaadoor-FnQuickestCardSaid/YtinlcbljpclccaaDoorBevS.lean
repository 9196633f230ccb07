/- Slices of impl.BoardEvent: the helpers of the exact laws. Condition: sizes. -/
import Derived.Test.YtinlcbljpclccaaDoorGS
import Derived.Test.YtinlcbljpclccaaDoorMarkW
namespace Go.Proofs.YtinlcbljpclccaaDoor
open Go.RowKit
set_option linter.unusedVariables false
/-- A BoardEvent. -/
structure Bev where
  k : ByteArray
  c : Int
instance : Inhabited Bev := ⟨⟨ByteArray.empty, 0⟩⟩
def Bev.enc (x : Bev) : List Value := [.string x.k, .int .i64 x.c]
def Bev.agg (x : Bev) : Value := .agg #[.string x.k, .int .i64 x.c]
theorem Bev.enc_len (x : Bev) : x.enc.length = 2 := rfl
/-- Its numbers are in range. -/
def Bev.wf (x : Bev) : Prop := x.k.size ≤ maxLen ∧ (Lit.int .i64 x.c).wf = true
theorem Bev.ext {x y : Bev} (h0 : x.k = y.k) (h1 : x.c = y.c) : x = y := by cases x; cases y; simp_all
abbrev bevs (l : List Bev) : List Value := flat Bev.enc l
theorem bevs_len (l : List Bev) : (bevs l).length = l.length * 2 := flat_len Bev.enc_len l
theorem bevs_append (l r : List Bev) : bevs (l ++ r) = bevs l ++ bevs r := flat_append _ l r
theorem bevs_one (x : Bev) : bevs [x] = [.string x.k, .int .i64 x.c] := by simp [flat, Bev.enc]
theorem bevs_at (l : List Bev) (i : Nat) (hi : i < l.length) : (bevs l)[i * 2]? = some (.string (gth l i).k) ∧ (bevs l)[i * 2 + 1]? = some (.int .i64 (gth l i).c) :=
  ⟨flat_at Bev.enc_len default l i 0 hi (by decide), flat_at Bev.enc_len default l i 1 hi (by decide)⟩
theorem bevs_take_len (l : List Bev) (j : Nat) (h : j ≤ l.length) : (bevs (l.take j)).length = j * 2 := by rw [bevs_len, List.length_take, Nat.min_eq_left h]
theorem bevs_one_cell (l : List Bev) : ∀ v ∈ bevs l, v.oneCell' = true := by
  intro v hv
  obtain ⟨x, _, hx⟩ := List.mem_flatMap.1 hv
  simp [Bev.enc] at hx
  rcases hx with rfl | rfl <;> rfl
/-- The cells of a row. -/
def BevAt (w : World) (b off : Nat) (l : List Bev) : Prop := ∀ i, i < l.length →
  w.cell? ⟨b, off + i * 2, none⟩ = some (.string (gth l i).k) ∧ w.cell? ⟨b, off + i * 2 + 1, none⟩ = some (.int .i64 (gth l i).c)
theorem BevAt.below {w w' : World} {b off : Nat} {l : List Bev} {B : Nat} (h : BevAt w b off l) (hb : Below B w w') (hlt : b < B) : BevAt w' b off l := fun i hi =>
  ⟨(hb.cell (p := ⟨b, off + i * 2, none⟩) hlt).trans (h i hi).1, (hb.cell (p := ⟨b, off + i * 2 + 1, none⟩) hlt).trans (h i hi).2⟩
theorem BevAt.drew {w w' : World} {b off : Nat} {l : List Bev} (h : BevAt w b off l) (hd : Drew w w') : BevAt w' b off l := fun i hi =>
  ⟨(hd.cell _).trans (h i hi).1, (hd.cell _).trans (h i hi).2⟩
theorem BevAt.zero {w : World} {b off : Nat} {l : List Bev} (h : BevAt w b off l) (h0 : 0 < l.length) :
    w.cell? ⟨b, off, none⟩ = some (.string (gth l 0).k) ∧ w.cell? ⟨b, off + 1, none⟩ = some (.int .i64 (gth l 0).c) := by
  have := h 0 h0; simpa using this
theorem Rs.at_Bev {w : World} {v : Value} {l : List Bev} (h : Rs w v l.length (bevs l)) (h0 : l.length ≠ 0) :
    ∃ b off cap, v = .slice (some ⟨b, off, none⟩) l.length cap ∧ b < w.heap.size ∧ l.length ≤ maxLen ∧ BevAt w b off l := by
  obtain ⟨b, off, cap, rfl, hb, hc, hm, hx⟩ := h.pos h0
  refine ⟨b, off, cap, rfl, hb, hm, fun i hi => ?_⟩
  obtain ⟨e0, e1⟩ := bevs_at l i hi
  exact ⟨hx _ _ e0, hx _ _ e1⟩
/-- A row that may be empty: its address is told where there is an element. -/
theorem Rs.form_Bev {w : World} {v : Value} {l : List Bev} (h : Rs w v l.length (bevs l)) :
    ∃ ao b off cap, v = .slice ao l.length cap ∧ (0 < l.length → ao = some ⟨b, off, none⟩ ∧ b < w.heap.size ∧ l.length ≤ maxLen) ∧ BevAt w b off l := by
  by_cases h0 : l.length = 0
  · obtain ⟨a, ca, hv⟩ := h.shape
    exact ⟨a, 0, 0, ca, hv, fun h => by omega, fun i hi => by omega⟩
  · obtain ⟨b, off, cap, hv, hb, hm, hx⟩ := h.at_Bev h0
    exact ⟨_, b, off, cap, hv, fun _ => ⟨rfl, hb, hm⟩, hx⟩
theorem own_Bev {w : World} {B g cap : Nat} {T : TypeId} {l : List Bev} (h : w.ownsRow B T 2 (.slice (some ⟨g, 0, none⟩) l.length cap) l.length (bevs l)) : BevAt w g 0 l := by
  intro i hi
  obtain ⟨e0, e1⟩ := bevs_at l i hi
  simp only [Nat.zero_add]
  exact ⟨(h.cellAt (i * 2) (by omega)).trans e0, (h.cellAt (i * 2 + 1) (by omega)).trans e1⟩
theorem Bev_set (p xs : List Value) (j : Nat) (u0 u1 : Value) (hp : p.length = j * 2) (hx : (j + 1) * 2 ≤ xs.length) :
    (((p ++ xs.drop (j * 2)).set (j * 2) u0).set (j * 2 + 1) u1) = p ++ [u0, u1] ++ xs.drop ((j + 1) * 2) := by
  have h0 : j * 2 < xs.length := by omega
  have h1 : j * 2 + 1 < xs.length := by omega
  rw [List.drop_eq_getElem_cons h0, List.drop_eq_getElem_cons h1]
  rw [List.set_append_right _ _ (by omega), hp, List.set_append_right _ _ (by omega), hp]
  simp only [Nat.sub_self, Nat.add_sub_cancel_left, List.set_cons_zero, List.set_cons_succ, List.append_assoc, List.cons_append, List.nil_append]
  rw [show j * 2 + 1 + 1 = (j + 1) * 2 by omega]
theorem Tryd.infoBev : (Tryd.prog.info? 38).map (fun i => (i.zero, i.size, i.bytes)) = some (some (.agg #[.string ⟨#[]⟩, .int .i64 0]), 2, 24) := by kernel_rfl
theorem box_Bev (w : World) (x : Bev) (t : TypeId) (g : Nat) (hg : g = w.heap.size) (W : World) (h : Below (g + 1) (w.alloc (.cells #[.string x.k, .int .i64 x.c] t)) W) :
    W.cell? ⟨g, 0, none⟩ = some (.string x.k) ∧ W.cell? ⟨g, 1, none⟩ = some (.int .i64 x.c) := by
  subst hg
  refine ⟨?_, ?_⟩ <;> (rw [h.cell (by simp), World.cell?_alloc_at _ _ _ _ rfl]; rfl)
theorem ret_iBev {a b : Int} (h : a = b) : Ending.returned (.int .i64 a) = .returned (.int .i64 b) := by rw [h]
/-- The bytes of its texts. -/
def Bev.txt (x : Bev) : Nat := x.k.size
def totBev (l : List Bev) : Nat := (l.map Bev.txt).sum
theorem totBev_nil : totBev [] = 0 := rfl
theorem totBev_take (l : List Bev) (k : Nat) (h : k < l.length) : totBev (l.take (k + 1)) = totBev (l.take k) + (gth l k).txt := by
  rw [take_gth l k h]; simp [totBev]
theorem totBev_take_le (l : List Bev) (k : Nat) : totBev (l.take k) ≤ totBev l := by
  have h := congrArg totBev (List.take_append_drop k l)
  unfold totBev at h ⊢
  rw [List.map_append, List.sum_append] at h
  omega
end Go.Proofs.YtinlcbljpclccaaDoor
