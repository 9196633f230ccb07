/- Slices of impl.Damage: the helpers of the exact laws. Condition: sizes. -/
import Derived.Test.YtiogjocbiagipabGS
namespace Go.Proofs.Ytiogjocbiagipab
open Go.RowKit
set_option linter.unusedVariables false
/-- A Damage. -/
structure Dmg where
  a : Int
  s : Int
  w : Int
instance : Inhabited Dmg := ⟨⟨0, 0, 0⟩⟩
def Dmg.enc (x : Dmg) : List Value := [.int .i64 x.a, .int .i64 x.s, .int .i64 x.w]
def Dmg.agg (x : Dmg) : Value := .agg #[.int .i64 x.a, .int .i64 x.s, .int .i64 x.w]
theorem Dmg.enc_len (x : Dmg) : x.enc.length = 3 := rfl
/-- Its numbers are in range. -/
def Dmg.wf (x : Dmg) : Prop := (Lit.int .i64 x.a).wf = true ∧ (Lit.int .i64 x.s).wf = true ∧ (Lit.int .i64 x.w).wf = true
theorem Dmg.ext {x y : Dmg} (h0 : x.a = y.a) (h1 : x.s = y.s) (h2 : x.w = y.w) : x = y := by cases x; cases y; simp_all
abbrev dmgs (l : List Dmg) : List Value := flat Dmg.enc l
theorem dmgs_len (l : List Dmg) : (dmgs l).length = l.length * 3 := flat_len Dmg.enc_len l
theorem dmgs_append (l r : List Dmg) : dmgs (l ++ r) = dmgs l ++ dmgs r := flat_append _ l r
theorem dmgs_one (x : Dmg) : dmgs [x] = [.int .i64 x.a, .int .i64 x.s, .int .i64 x.w] := by simp [flat, Dmg.enc]
theorem dmgs_at (l : List Dmg) (i : Nat) (hi : i < l.length) : (dmgs l)[i * 3]? = some (.int .i64 (gth l i).a) ∧ (dmgs l)[i * 3 + 1]? = some (.int .i64 (gth l i).s) ∧ (dmgs l)[i * 3 + 2]? = some (.int .i64 (gth l i).w) :=
  ⟨flat_at Dmg.enc_len default l i 0 hi (by decide), flat_at Dmg.enc_len default l i 1 hi (by decide), flat_at Dmg.enc_len default l i 2 hi (by decide)⟩
theorem dmgs_take_len (l : List Dmg) (j : Nat) (h : j ≤ l.length) : (dmgs (l.take j)).length = j * 3 := by rw [dmgs_len, List.length_take, Nat.min_eq_left h]
theorem dmgs_one_cell (l : List Dmg) : ∀ v ∈ dmgs l, v.oneCell' = true := by
  intro v hv
  obtain ⟨x, _, hx⟩ := List.mem_flatMap.1 hv
  simp [Dmg.enc] at hx
  rcases hx with rfl | rfl | rfl <;> rfl
/-- The cells of a row. -/
def DmgAt (w : World) (b off : Nat) (l : List Dmg) : Prop := ∀ i, i < l.length →
  w.cell? ⟨b, off + i * 3, none⟩ = some (.int .i64 (gth l i).a) ∧ w.cell? ⟨b, off + i * 3 + 1, none⟩ = some (.int .i64 (gth l i).s) ∧ w.cell? ⟨b, off + i * 3 + 2, none⟩ = some (.int .i64 (gth l i).w)
theorem DmgAt.below {w w' : World} {b off : Nat} {l : List Dmg} {B : Nat} (h : DmgAt w b off l) (hb : Below B w w') (hlt : b < B) : DmgAt w' b off l := fun i hi =>
  ⟨(hb.cell (p := ⟨b, off + i * 3, none⟩) hlt).trans (h i hi).1, (hb.cell (p := ⟨b, off + i * 3 + 1, none⟩) hlt).trans (h i hi).2.1, (hb.cell (p := ⟨b, off + i * 3 + 2, none⟩) hlt).trans (h i hi).2.2⟩
theorem DmgAt.drew {w w' : World} {b off : Nat} {l : List Dmg} (h : DmgAt w b off l) (hd : Drew w w') : DmgAt w' b off l := fun i hi =>
  ⟨(hd.cell _).trans (h i hi).1, (hd.cell _).trans (h i hi).2.1, (hd.cell _).trans (h i hi).2.2⟩
theorem DmgAt.zero {w : World} {b off : Nat} {l : List Dmg} (h : DmgAt w b off l) (h0 : 0 < l.length) :
    w.cell? ⟨b, off, none⟩ = some (.int .i64 (gth l 0).a) ∧ w.cell? ⟨b, off + 1, none⟩ = some (.int .i64 (gth l 0).s) ∧ w.cell? ⟨b, off + 2, none⟩ = some (.int .i64 (gth l 0).w) := by
  have := h 0 h0; simpa using this
theorem Rs.at_Dmg {w : World} {v : Value} {l : List Dmg} (h : Rs w v l.length (dmgs l)) (h0 : l.length ≠ 0) :
    ∃ b off cap, v = .slice (some ⟨b, off, none⟩) l.length cap ∧ b < w.heap.size ∧ l.length ≤ maxLen ∧ DmgAt w b off l := by
  obtain ⟨b, off, cap, rfl, hb, hc, hm, hx⟩ := h.pos h0
  refine ⟨b, off, cap, rfl, hb, hm, fun i hi => ?_⟩
  obtain ⟨e0, e1, e2⟩ := dmgs_at l i hi
  exact ⟨hx _ _ e0, hx _ _ e1, hx _ _ e2⟩
/-- A row that may be empty: its address is told where there is an element. -/
theorem Rs.form_Dmg {w : World} {v : Value} {l : List Dmg} (h : Rs w v l.length (dmgs l)) :
    ∃ ao b off cap, v = .slice ao l.length cap ∧ (0 < l.length → ao = some ⟨b, off, none⟩ ∧ b < w.heap.size ∧ l.length ≤ maxLen) ∧ DmgAt w b off l := by
  by_cases h0 : l.length = 0
  · obtain ⟨a, ca, hv⟩ := h.shape
    exact ⟨a, 0, 0, ca, hv, fun h => by omega, fun i hi => by omega⟩
  · obtain ⟨b, off, cap, hv, hb, hm, hx⟩ := h.at_Dmg h0
    exact ⟨_, b, off, cap, hv, fun _ => ⟨rfl, hb, hm⟩, hx⟩
theorem own_Dmg {w : World} {B g cap : Nat} {T : TypeId} {l : List Dmg} (h : w.ownsRow B T 3 (.slice (some ⟨g, 0, none⟩) l.length cap) l.length (dmgs l)) : DmgAt w g 0 l := by
  intro i hi
  obtain ⟨e0, e1, e2⟩ := dmgs_at l i hi
  simp only [Nat.zero_add]
  exact ⟨(h.cellAt (i * 3) (by omega)).trans e0, (h.cellAt (i * 3 + 1) (by omega)).trans e1, (h.cellAt (i * 3 + 2) (by omega)).trans e2⟩
theorem Dmg_set (p xs : List Value) (j : Nat) (u0 u1 u2 : Value) (hp : p.length = j * 3) (hx : (j + 1) * 3 ≤ xs.length) :
    ((((p ++ xs.drop (j * 3)).set (j * 3) u0).set (j * 3 + 1) u1).set (j * 3 + 2) u2) = p ++ [u0, u1, u2] ++ xs.drop ((j + 1) * 3) := by
  have h0 : j * 3 < xs.length := by omega
  have h1 : j * 3 + 1 < xs.length := by omega
  have h2 : j * 3 + 2 < xs.length := by omega
  rw [List.drop_eq_getElem_cons h0, List.drop_eq_getElem_cons h1, List.drop_eq_getElem_cons h2]
  rw [List.set_append_right _ _ (by omega), hp, List.set_append_right _ _ (by omega), hp, List.set_append_right _ _ (by omega), hp]
  simp only [Nat.sub_self, Nat.add_sub_cancel_left, List.set_cons_zero, List.set_cons_succ, List.append_assoc, List.cons_append, List.nil_append]
  rw [show j * 3 + 2 + 1 = (j + 1) * 3 by omega]
theorem Try.infoDmg : (Try.prog.info? 34).map (fun i => (i.zero, i.size, i.bytes)) = some (some (.agg #[.int .i64 0, .int .i64 0, .int .i64 0]), 3, 24) := by kernel_rfl
theorem box_Dmg (w : World) (x : Dmg) (t : TypeId) (g : Nat) (hg : g = w.heap.size) (W : World) (h : Below (g + 1) (w.alloc (.cells #[.int .i64 x.a, .int .i64 x.s, .int .i64 x.w] t)) W) :
    W.cell? ⟨g, 0, none⟩ = some (.int .i64 x.a) ∧ W.cell? ⟨g, 1, none⟩ = some (.int .i64 x.s) ∧ W.cell? ⟨g, 2, none⟩ = some (.int .i64 x.w) := by
  subst hg
  refine ⟨?_, ?_, ?_⟩ <;> (rw [h.cell (by simp), World.cell?_alloc_at _ _ _ _ rfl]; rfl)
end Go.Proofs.Ytiogjocbiagipab
