/- Slices of impl.Platform: the helpers of the exact laws. Condition: sizes. -/
import Derived.Test.YtinlcbljpclccaaGS
namespace Go.Proofs.Ytinlcbljpclccaa
open Go.RowKit
set_option linter.unusedVariables false
/-- A Platform. -/
structure Plt where
  d : Int
  s : Int
  i : Int
  w : Int
  l : Bool
  g : Int
instance : Inhabited Plt := ⟨⟨0, 0, 0, 0, false, 0⟩⟩
def Plt.enc (x : Plt) : List Value := [.int .i64 x.d, .int .i64 x.s, .int .i64 x.i, .int .i64 x.w, .bool x.l, .int .i64 x.g]
def Plt.agg (x : Plt) : Value := .agg #[.int .i64 x.d, .int .i64 x.s, .int .i64 x.i, .int .i64 x.w, .bool x.l, .int .i64 x.g]
theorem Plt.enc_len (x : Plt) : x.enc.length = 6 := rfl
/-- Its numbers are in range. -/
def Plt.wf (x : Plt) : Prop := (Lit.int .i64 x.d).wf = true ∧ (Lit.int .i64 x.s).wf = true ∧ (Lit.int .i64 x.i).wf = true ∧ (Lit.int .i64 x.w).wf = true ∧ (Lit.int .i64 x.g).wf = true
theorem Plt.ext {x y : Plt} (h0 : x.d = y.d) (h1 : x.s = y.s) (h2 : x.i = y.i) (h3 : x.w = y.w) (h4 : x.l = y.l) (h5 : x.g = y.g) : x = y := by cases x; cases y; simp_all
abbrev plts (l : List Plt) : List Value := flat Plt.enc l
theorem plts_len (l : List Plt) : (plts l).length = l.length * 6 := flat_len Plt.enc_len l
theorem plts_append (l r : List Plt) : plts (l ++ r) = plts l ++ plts r := flat_append _ l r
theorem plts_one (x : Plt) : plts [x] = [.int .i64 x.d, .int .i64 x.s, .int .i64 x.i, .int .i64 x.w, .bool x.l, .int .i64 x.g] := by simp [flat, Plt.enc]
theorem plts_at (l : List Plt) (i : Nat) (hi : i < l.length) : (plts l)[i * 6]? = some (.int .i64 (gth l i).d) ∧ (plts l)[i * 6 + 1]? = some (.int .i64 (gth l i).s) ∧ (plts l)[i * 6 + 2]? = some (.int .i64 (gth l i).i) ∧ (plts l)[i * 6 + 3]? = some (.int .i64 (gth l i).w) ∧ (plts l)[i * 6 + 4]? = some (.bool (gth l i).l) ∧ (plts l)[i * 6 + 5]? = some (.int .i64 (gth l i).g) :=
  ⟨flat_at Plt.enc_len default l i 0 hi (by decide), flat_at Plt.enc_len default l i 1 hi (by decide), flat_at Plt.enc_len default l i 2 hi (by decide), flat_at Plt.enc_len default l i 3 hi (by decide), flat_at Plt.enc_len default l i 4 hi (by decide), flat_at Plt.enc_len default l i 5 hi (by decide)⟩
theorem plts_take_len (l : List Plt) (j : Nat) (h : j ≤ l.length) : (plts (l.take j)).length = j * 6 := by rw [plts_len, List.length_take, Nat.min_eq_left h]
theorem plts_one_cell (l : List Plt) : ∀ v ∈ plts l, v.oneCell' = true := by
  intro v hv
  obtain ⟨x, _, hx⟩ := List.mem_flatMap.1 hv
  simp [Plt.enc] at hx
  rcases hx with rfl | rfl | rfl | rfl | rfl | rfl <;> rfl
/-- The cells of a row. -/
def PltAt (w : World) (b off : Nat) (l : List Plt) : Prop := ∀ i, i < l.length →
  w.cell? ⟨b, off + i * 6, none⟩ = some (.int .i64 (gth l i).d) ∧ w.cell? ⟨b, off + i * 6 + 1, none⟩ = some (.int .i64 (gth l i).s) ∧ w.cell? ⟨b, off + i * 6 + 2, none⟩ = some (.int .i64 (gth l i).i) ∧ w.cell? ⟨b, off + i * 6 + 3, none⟩ = some (.int .i64 (gth l i).w) ∧ w.cell? ⟨b, off + i * 6 + 4, none⟩ = some (.bool (gth l i).l) ∧ w.cell? ⟨b, off + i * 6 + 5, none⟩ = some (.int .i64 (gth l i).g)
theorem PltAt.below {w w' : World} {b off : Nat} {l : List Plt} {B : Nat} (h : PltAt w b off l) (hb : Below B w w') (hlt : b < B) : PltAt w' b off l := fun i hi =>
  ⟨(hb.cell (p := ⟨b, off + i * 6, none⟩) hlt).trans (h i hi).1, (hb.cell (p := ⟨b, off + i * 6 + 1, none⟩) hlt).trans (h i hi).2.1, (hb.cell (p := ⟨b, off + i * 6 + 2, none⟩) hlt).trans (h i hi).2.2.1, (hb.cell (p := ⟨b, off + i * 6 + 3, none⟩) hlt).trans (h i hi).2.2.2.1, (hb.cell (p := ⟨b, off + i * 6 + 4, none⟩) hlt).trans (h i hi).2.2.2.2.1, (hb.cell (p := ⟨b, off + i * 6 + 5, none⟩) hlt).trans (h i hi).2.2.2.2.2⟩
theorem PltAt.drew {w w' : World} {b off : Nat} {l : List Plt} (h : PltAt w b off l) (hd : Drew w w') : PltAt w' b off l := fun i hi =>
  ⟨(hd.cell _).trans (h i hi).1, (hd.cell _).trans (h i hi).2.1, (hd.cell _).trans (h i hi).2.2.1, (hd.cell _).trans (h i hi).2.2.2.1, (hd.cell _).trans (h i hi).2.2.2.2.1, (hd.cell _).trans (h i hi).2.2.2.2.2⟩
theorem PltAt.zero {w : World} {b off : Nat} {l : List Plt} (h : PltAt w b off l) (h0 : 0 < l.length) :
    w.cell? ⟨b, off, none⟩ = some (.int .i64 (gth l 0).d) ∧ w.cell? ⟨b, off + 1, none⟩ = some (.int .i64 (gth l 0).s) ∧ w.cell? ⟨b, off + 2, none⟩ = some (.int .i64 (gth l 0).i) ∧ w.cell? ⟨b, off + 3, none⟩ = some (.int .i64 (gth l 0).w) ∧ w.cell? ⟨b, off + 4, none⟩ = some (.bool (gth l 0).l) ∧ w.cell? ⟨b, off + 5, none⟩ = some (.int .i64 (gth l 0).g) := by
  have := h 0 h0; simpa using this
theorem Rs.at_Plt {w : World} {v : Value} {l : List Plt} (h : Rs w v l.length (plts l)) (h0 : l.length ≠ 0) :
    ∃ b off cap, v = .slice (some ⟨b, off, none⟩) l.length cap ∧ b < w.heap.size ∧ l.length ≤ maxLen ∧ PltAt w b off l := by
  obtain ⟨b, off, cap, rfl, hb, hc, hm, hx⟩ := h.pos h0
  refine ⟨b, off, cap, rfl, hb, hm, fun i hi => ?_⟩
  obtain ⟨e0, e1, e2, e3, e4, e5⟩ := plts_at l i hi
  exact ⟨hx _ _ e0, hx _ _ e1, hx _ _ e2, hx _ _ e3, hx _ _ e4, hx _ _ e5⟩
/-- A row that may be empty: its address is told where there is an element. -/
theorem Rs.form_Plt {w : World} {v : Value} {l : List Plt} (h : Rs w v l.length (plts l)) :
    ∃ ao b off cap, v = .slice ao l.length cap ∧ (0 < l.length → ao = some ⟨b, off, none⟩ ∧ b < w.heap.size ∧ l.length ≤ maxLen) ∧ PltAt w b off l := by
  by_cases h0 : l.length = 0
  · obtain ⟨a, ca, hv⟩ := h.shape
    exact ⟨a, 0, 0, ca, hv, fun h => by omega, fun i hi => by omega⟩
  · obtain ⟨b, off, cap, hv, hb, hm, hx⟩ := h.at_Plt h0
    exact ⟨_, b, off, cap, hv, fun _ => ⟨rfl, hb, hm⟩, hx⟩
theorem own_Plt {w : World} {B g cap : Nat} {T : TypeId} {l : List Plt} (h : w.ownsRow B T 6 (.slice (some ⟨g, 0, none⟩) l.length cap) l.length (plts l)) : PltAt w g 0 l := by
  intro i hi
  obtain ⟨e0, e1, e2, e3, e4, e5⟩ := plts_at l i hi
  simp only [Nat.zero_add]
  exact ⟨(h.cellAt (i * 6) (by omega)).trans e0, (h.cellAt (i * 6 + 1) (by omega)).trans e1, (h.cellAt (i * 6 + 2) (by omega)).trans e2, (h.cellAt (i * 6 + 3) (by omega)).trans e3, (h.cellAt (i * 6 + 4) (by omega)).trans e4, (h.cellAt (i * 6 + 5) (by omega)).trans e5⟩
theorem Plt_set (p xs : List Value) (j : Nat) (u0 u1 u2 u3 u4 u5 : Value) (hp : p.length = j * 6) (hx : (j + 1) * 6 ≤ xs.length) :
    (((((((p ++ xs.drop (j * 6)).set (j * 6) u0).set (j * 6 + 1) u1).set (j * 6 + 2) u2).set (j * 6 + 3) u3).set (j * 6 + 4) u4).set (j * 6 + 5) u5) = p ++ [u0, u1, u2, u3, u4, u5] ++ xs.drop ((j + 1) * 6) := by
  have h0 : j * 6 < xs.length := by omega
  have h1 : j * 6 + 1 < xs.length := by omega
  have h2 : j * 6 + 2 < xs.length := by omega
  have h3 : j * 6 + 3 < xs.length := by omega
  have h4 : j * 6 + 4 < xs.length := by omega
  have h5 : j * 6 + 5 < xs.length := by omega
  rw [List.drop_eq_getElem_cons h0, List.drop_eq_getElem_cons h1, List.drop_eq_getElem_cons h2, List.drop_eq_getElem_cons h3, List.drop_eq_getElem_cons h4, List.drop_eq_getElem_cons h5]
  rw [List.set_append_right _ _ (by omega), hp, List.set_append_right _ _ (by omega), hp, List.set_append_right _ _ (by omega), hp, List.set_append_right _ _ (by omega), hp, List.set_append_right _ _ (by omega), hp, List.set_append_right _ _ (by omega), hp]
  simp only [Nat.sub_self, Nat.add_sub_cancel_left, List.set_cons_zero, List.set_cons_succ, List.append_assoc, List.cons_append, List.nil_append]
  rw [show j * 6 + 5 + 1 = (j + 1) * 6 by omega]
theorem Try.infoPlt : (Try.prog.info? 25).map (fun i => (i.zero, i.size, i.bytes)) = some (some (.agg #[.int .i64 0, .int .i64 0, .int .i64 0, .int .i64 0, .bool false, .int .i64 0]), 6, 48) := by kernel_rfl
theorem box_Plt (w : World) (x : Plt) (t : TypeId) (g : Nat) (hg : g = w.heap.size) (W : World) (h : Below (g + 1) (w.alloc (.cells #[.int .i64 x.d, .int .i64 x.s, .int .i64 x.i, .int .i64 x.w, .bool x.l, .int .i64 x.g] t)) W) :
    W.cell? ⟨g, 0, none⟩ = some (.int .i64 x.d) ∧ W.cell? ⟨g, 1, none⟩ = some (.int .i64 x.s) ∧ W.cell? ⟨g, 2, none⟩ = some (.int .i64 x.i) ∧ W.cell? ⟨g, 3, none⟩ = some (.int .i64 x.w) ∧ W.cell? ⟨g, 4, none⟩ = some (.bool x.l) ∧ W.cell? ⟨g, 5, none⟩ = some (.int .i64 x.g) := by
  subst hg
  refine ⟨?_, ?_, ?_, ?_, ?_, ?_⟩ <;> (rw [h.cell (by simp), World.cell?_alloc_at _ _ _ _ rfl]; rfl)
set_option maxHeartbeats 400000 in
theorem toPlatform_any (x : Plt) (w : World) :
    Calls Try.prog 30 #[.agg #[.int .i64 x.d, .int .i64 x.s, .int .i64 x.i, .int .i64 x.w, .bool x.l, .int .i64 x.g]] w fun e w' => e = .returned (.agg #[.int .i64 x.d, .int .i64 x.s, .int .i64 x.i, .int .i64 x.w, .bool x.l, .int .i64 x.g]) ∧ Below w.heap.size w w' := by
  go_enter Try.func30, Try.ntmps30
  go_wp2
  refine bodyPost_ret (v := .agg #[.int .i64 x.d, .int .i64 x.s, .int .i64 x.i, .int .i64 x.w, .bool x.l, .int .i64 x.g]) (by simp [results, Try.results30, go_sem]) rfl ⟨rfl, ?_⟩
  first | exact (((Below.refl _ _).alloc (Nat.le_refl _) _).alloc (by simp) _).alloc (by simp; omega) _ | exact ((Below.refl _ _).alloc (Nat.le_refl _) _).alloc (by simp) _
set_option maxHeartbeats 400000 in
theorem eqPlatform_same (x : Plt) (w : World) :
    Calls Try.prog 33 #[.agg #[.int .i64 x.d, .int .i64 x.s, .int .i64 x.i, .int .i64 x.w, .bool x.l, .int .i64 x.g], .agg #[.int .i64 x.d, .int .i64 x.s, .int .i64 x.i, .int .i64 x.w, .bool x.l, .int .i64 x.g]] w fun e w' => e = .returned (.bool true) ∧ Below w.heap.size w w' := by
  go_enter Try.func33, Try.ntmps33
  go_wp2
  go_ret
  exact ⟨rfl, ((Below.refl _ _).alloc (Nat.le_refl _) _).alloc (by simp) _⟩
end Go.Proofs.Ytinlcbljpclccaa
