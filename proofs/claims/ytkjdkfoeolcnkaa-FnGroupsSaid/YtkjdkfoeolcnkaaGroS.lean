/- Slices of impl.Group: the helpers of the exact laws. Condition: sizes. -/
import Derived.Test.YtkjdkfoeolcnkaaGS
namespace Go.Proofs.Ytkjdkfoeolcnkaa
open Go.RowKit
set_option linter.unusedVariables false
/-- A Group. -/
structure Gro where
  z : Int
  q : Bool
instance : Inhabited Gro := ⟨⟨0, false⟩⟩
def Gro.enc (x : Gro) : List Value := [.int .i64 x.z, .bool x.q]
def Gro.agg (x : Gro) : Value := .agg #[.int .i64 x.z, .bool x.q]
theorem Gro.enc_len (x : Gro) : x.enc.length = 2 := rfl
/-- Its numbers are in range. -/
def Gro.wf (x : Gro) : Prop := (Lit.int .i64 x.z).wf = true
theorem Gro.ext {x y : Gro} (h0 : x.z = y.z) (h1 : x.q = y.q) : x = y := by cases x; cases y; simp_all
abbrev gros (l : List Gro) : List Value := flat Gro.enc l
theorem gros_len (l : List Gro) : (gros l).length = l.length * 2 := flat_len Gro.enc_len l
theorem gros_append (l r : List Gro) : gros (l ++ r) = gros l ++ gros r := flat_append _ l r
theorem gros_one (x : Gro) : gros [x] = [.int .i64 x.z, .bool x.q] := by simp [flat, Gro.enc]
theorem gros_at (l : List Gro) (i : Nat) (hi : i < l.length) : (gros l)[i * 2]? = some (.int .i64 (gth l i).z) ∧ (gros l)[i * 2 + 1]? = some (.bool (gth l i).q) :=
  ⟨flat_at Gro.enc_len default l i 0 hi (by decide), flat_at Gro.enc_len default l i 1 hi (by decide)⟩
theorem gros_take_len (l : List Gro) (j : Nat) (h : j ≤ l.length) : (gros (l.take j)).length = j * 2 := by rw [gros_len, List.length_take, Nat.min_eq_left h]
theorem gros_one_cell (l : List Gro) : ∀ v ∈ gros l, v.oneCell' = true := by
  intro v hv
  obtain ⟨x, _, hx⟩ := List.mem_flatMap.1 hv
  simp [Gro.enc] at hx
  rcases hx with rfl | rfl <;> rfl
/-- The cells of a row. -/
def GroAt (w : World) (b off : Nat) (l : List Gro) : Prop := ∀ i, i < l.length →
  w.cell? ⟨b, off + i * 2, none⟩ = some (.int .i64 (gth l i).z) ∧ w.cell? ⟨b, off + i * 2 + 1, none⟩ = some (.bool (gth l i).q)
theorem GroAt.below {w w' : World} {b off : Nat} {l : List Gro} {B : Nat} (h : GroAt w b off l) (hb : Below B w w') (hlt : b < B) : GroAt w' b off l := fun i hi =>
  ⟨(hb.cell (p := ⟨b, off + i * 2, none⟩) hlt).trans (h i hi).1, (hb.cell (p := ⟨b, off + i * 2 + 1, none⟩) hlt).trans (h i hi).2⟩
theorem GroAt.drew {w w' : World} {b off : Nat} {l : List Gro} (h : GroAt w b off l) (hd : Drew w w') : GroAt w' b off l := fun i hi =>
  ⟨(hd.cell _).trans (h i hi).1, (hd.cell _).trans (h i hi).2⟩
theorem GroAt.zero {w : World} {b off : Nat} {l : List Gro} (h : GroAt w b off l) (h0 : 0 < l.length) :
    w.cell? ⟨b, off, none⟩ = some (.int .i64 (gth l 0).z) ∧ w.cell? ⟨b, off + 1, none⟩ = some (.bool (gth l 0).q) := by
  have := h 0 h0; simpa using this
theorem Rs.at_Gro {w : World} {v : Value} {l : List Gro} (h : Rs w v l.length (gros l)) (h0 : l.length ≠ 0) :
    ∃ b off cap, v = .slice (some ⟨b, off, none⟩) l.length cap ∧ b < w.heap.size ∧ l.length ≤ maxLen ∧ GroAt w b off l := by
  obtain ⟨b, off, cap, rfl, hb, hc, hm, hx⟩ := h.pos h0
  refine ⟨b, off, cap, rfl, hb, hm, fun i hi => ?_⟩
  obtain ⟨e0, e1⟩ := gros_at l i hi
  exact ⟨hx _ _ e0, hx _ _ e1⟩
/-- A row that may be empty: its address is told where there is an element. -/
theorem Rs.form_Gro {w : World} {v : Value} {l : List Gro} (h : Rs w v l.length (gros l)) :
    ∃ ao b off cap, v = .slice ao l.length cap ∧ (0 < l.length → ao = some ⟨b, off, none⟩ ∧ b < w.heap.size ∧ l.length ≤ maxLen) ∧ GroAt w b off l := by
  by_cases h0 : l.length = 0
  · obtain ⟨a, ca, hv⟩ := h.shape
    exact ⟨a, 0, 0, ca, hv, fun h => by omega, fun i hi => by omega⟩
  · obtain ⟨b, off, cap, hv, hb, hm, hx⟩ := h.at_Gro h0
    exact ⟨_, b, off, cap, hv, fun _ => ⟨rfl, hb, hm⟩, hx⟩
theorem own_Gro {w : World} {B g cap : Nat} {T : TypeId} {l : List Gro} (h : w.ownsRow B T 2 (.slice (some ⟨g, 0, none⟩) l.length cap) l.length (gros l)) : GroAt w g 0 l := by
  intro i hi
  obtain ⟨e0, e1⟩ := gros_at l i hi
  simp only [Nat.zero_add]
  exact ⟨(h.cellAt (i * 2) (by omega)).trans e0, (h.cellAt (i * 2 + 1) (by omega)).trans e1⟩
theorem Gro_set (p xs : List Value) (j : Nat) (u0 u1 : Value) (hp : p.length = j * 2) (hx : (j + 1) * 2 ≤ xs.length) :
    (((p ++ xs.drop (j * 2)).set (j * 2) u0).set (j * 2 + 1) u1) = p ++ [u0, u1] ++ xs.drop ((j + 1) * 2) := by
  have h0 : j * 2 < xs.length := by omega
  have h1 : j * 2 + 1 < xs.length := by omega
  rw [List.drop_eq_getElem_cons h0, List.drop_eq_getElem_cons h1]
  rw [List.set_append_right _ _ (by omega), hp, List.set_append_right _ _ (by omega), hp]
  simp only [Nat.sub_self, Nat.add_sub_cancel_left, List.set_cons_zero, List.set_cons_succ, List.append_assoc, List.cons_append, List.nil_append]
  rw [show j * 2 + 1 + 1 = (j + 1) * 2 by omega]
theorem Try.infoGro : (Try.prog.info? 34).map (fun i => (i.zero, i.size, i.bytes)) = some (some (.agg #[.int .i64 0, .bool false]), 2, 16) := by kernel_rfl
theorem box_Gro (w : World) (x : Gro) (t : TypeId) (g : Nat) (hg : g = w.heap.size) (W : World) (h : Below (g + 1) (w.alloc (.cells #[.int .i64 x.z, .bool x.q] t)) W) :
    W.cell? ⟨g, 0, none⟩ = some (.int .i64 x.z) ∧ W.cell? ⟨g, 1, none⟩ = some (.bool x.q) := by
  subst hg
  refine ⟨?_, ?_⟩ <;> (rw [h.cell (by simp), World.cell?_alloc_at _ _ _ _ rfl]; rfl)
set_option maxHeartbeats 400000 in
theorem szGroupS_ok (v : Value) (n : Nat) (xs : List Value) (left : Int) (w : World) (hr : Rs w v n xs) (hl : left ≤ 1048576) (h : (n : Int) ≤ left) :
    Calls Try.prog 43 #[v, .int .i64 left] w fun e w' => e = .returned (.int .i64 (left - (n : Int))) ∧ w' = w := by
  obtain ⟨a, ca, rfl⟩ := hr.shape
  clear hr
  go_enter Try.func43, Try.ntmps43
  go_wp2
  go_ret
  exact ⟨rfl, rfl⟩
set_option maxHeartbeats 400000 in
theorem szGroupS_big (v : Value) (n : Nat) (xs : List Value) (left : Int) (w : World) (hr : Rs w v n xs) (hn : n ≤ maxLen) (hl : left ≤ 1048576) (h0 : 0 ≤ left) (h : left < (n : Int)) :
    Calls Try.prog 43 #[v, .int .i64 left] w fun e w' => e = .returned (.int .i64 (-1)) ∧ w' = w := by
  obtain ⟨a, ca, rfl⟩ := hr.shape
  unfold maxLen at hn
  clear hr
  go_enter Try.func43, Try.ntmps43
  go_wp2
  go_ret
  exact ⟨rfl, rfl⟩
set_option maxHeartbeats 400000 in
theorem toGroup_any (x : Gro) (w : World) :
    Calls Try.prog 75 #[.agg #[.int .i64 x.z, .bool x.q]] w fun e w' => e = .returned (.agg #[.int .i64 x.z, .bool x.q]) ∧ Below w.heap.size w w' := by
  go_enter Try.func75, Try.ntmps75
  go_wp2
  refine bodyPost_ret (v := .agg #[.int .i64 x.z, .bool x.q]) (by simp [results, Try.results75, go_sem]) rfl ⟨rfl, ?_⟩
  first | exact (((Below.refl _ _).alloc (Nat.le_refl _) _).alloc (by simp) _).alloc (by simp; omega) _ | exact ((Below.refl _ _).alloc (Nat.le_refl _) _).alloc (by simp) _
set_option maxHeartbeats 400000 in
theorem toGroupS_any (v : Value) (l : List Gro) (w : World) (hr : Rs w v l.length (gros l)) (hln : l.length ≤ 1048576) :
    Calls Try.prog 44 #[v] w fun e w' => ∃ v', e = .returned v' ∧ w'.ownsRow w.heap.size 34 2 v' l.length (gros l) ∧ Below w.heap.size w w' := by
  obtain ⟨i0, hi, hz0, hz1, hz2⟩ := info_parts Try.infoGro
  by_cases h0 : l.length = 0
  · obtain rfl := List.eq_nil_of_length_eq_zero h0
    obtain ⟨a, ca, rfl⟩ := hr.zero
    clear hr h0
    go_enter Try.func44, Try.ntmps44
    go_wp2_with (at_make; refine wpList_make_full _ rfl _ _ 24 rfl w.heap.size 34 i0 (.agg #[.int .i64 0, .bool false]) 2 Try.underlying24 hi hz0 hz1 _ _ _ _ 0 rfl rfl (by simp) (by simp) (by omega) (by unfold maxLen; omega) (Nat.le_refl _) ?_; intro w0 hown0 hgrow0)
    refine wp_loop_rounds 1 ?_
    rw [rounds_succ]
    go_wp2
    go_ret
    exact ⟨_, rfl, by simpa [madeCells, flat] using hown0, (Below.refl _ _).grown hgrow0 (Nat.le_refl _) (fun k h => by cases h)⟩
  · obtain ⟨a, oa, ca, rfl, hla, hcap, hm, hca⟩ := hr.pos h0
    have HA := Lib.hid hca
    clear hca hr h0
    go_enter Try.func44, Try.ntmps44
    go_wp2_with (at_make; refine wpList_make_full _ rfl _ _ 24 rfl w.heap.size 34 i0 (.agg #[.int .i64 0, .bool false]) 2 Try.underlying24 hi hz0 hz1 _ _ _ _ l.length rfl rfl rfl rfl (by rw [hz2]; omega) (by unfold maxLen; omega) (Nat.le_refl _) ?_; intro w0 hown0 hgrow0)
    have hb0 := (Below.refl w.heap.size w).grown hgrow0 (Nat.le_refl _) (fun k h => by cases h)
    have hxl : (madeCells (Value.agg #[.int .i64 0, .bool false]).cells (l.length * 2)).toList.length = l.length * 2 := hown0.1
    generalize (madeCells (Value.agg #[.int .i64 0, .bool false]).cells (l.length * 2)).toList = xs at hown0 hxl
    clear hgrow0
    go_loopw [4] (fun i wr => ∃ j : Nat, j ≤ l.length ∧ i = .int .i64 j ∧ wr.ownsRow w.heap.size 34 2 (.slice (some ⟨w.heap.size, 0, none⟩) l.length l.length) l.length (gros (l.take j) ++ xs.drop (j * 2)) ∧ Below w.heap.size w wr) (fun i _ => l.length - (intOf i).toNat)
    case atStart => exact ⟨0, Nat.zero_le _, rfl, by simpa [flat] using hown0, hb0⟩
    case round =>
      obtain ⟨j, hj, rfl, ho, hb⟩ := hrel
      by_cases hlt : j < l.length
      · obtain ⟨e0, e1⟩ := gros_at l j hlt
        have c0 : wr.cell? ⟨a, oa + j * 2, none⟩ = some (.int .i64 (gth l j).z) := (hb.cell (p := ⟨a, oa + j * 2, none⟩) hla).trans (HA.out _ _ e0)
        have c1 : wr.cell? ⟨a, oa + j * 2 + 1, none⟩ = some (.bool (gth l j).q) := (hb.cell (p := ⟨a, oa + j * 2 + 1, none⟩) hla).trans (HA.out _ _ e1)
        clear e0 e1
        have HX : Hid ((((gros (l.take j) ++ xs.drop (j * 2)).set (j * 2) (.int .i64 (gth l j).z)).set (j * 2 + 1) (.bool (gth l j).q)) = gros (l.take (j + 1)) ++ xs.drop ((j + 1) * 2)) := by
          rw [Hid, Gro_set _ _ _ _ _ (gros_take_len l j hj) (by omega), take_gth l j hlt, gros_append, gros_one]
        have hu0 : j * 2 + 1 < (gros (l.take j) ++ xs.drop (j * 2)).length := by simp [gros_take_len l j hj]; omega
        go_wp2_with fail
        refine (toGroup_any (gth l j) _).mono ?_
        rintro e w1 ⟨rfl, hb1⟩
        have ho1 := owns_below ho hb1
        have k0 := (ho1.cellAt (j * 2) (by omega)).trans (List.getElem?_eq_getElem (by omega))
        have k1 := (ho1.cellAt (j * 2 + 1) (by omega)).trans (List.getElem?_eq_getElem (by omega))
        have f0 := ho1.frozenAt (j * 2)
        have f1 := ho1.frozenAt (j * 2 + 1)
        have hst := (((ho1.stored (j * 2) (.int .i64 (gth l j).z)).1.stored (j * 2 + 1) (.bool (gth l j).q))).1
        rw [HX.out] at hst
        go_wp2
        go_roundw
        case rel => exact ⟨j + 1, by omega, by go_num, hst, (((hb.trans (hb1.mono hb.size)).setCell (Nat.le_refl _) _).setCell (Nat.le_refl _) _)⟩
        case measure => simp [intOf]; omega
      · obtain rfl : j = l.length := by omega
        go_wp2
        go_ret
        exact ⟨_, rfl, by rw [List.take_length, List.drop_of_length_le (by omega), List.append_nil] at ho; exact ho, hb⟩
set_option maxHeartbeats 400000 in
theorem eqGroup_same (x : Gro) (w : World) :
    Calls Try.prog 76 #[.agg #[.int .i64 x.z, .bool x.q], .agg #[.int .i64 x.z, .bool x.q]] w fun e w' => e = .returned (.bool true) ∧ Below w.heap.size w w' := by
  go_enter Try.func76, Try.ntmps76
  go_wp2
  go_ret
  exact ⟨rfl, ((Below.refl _ _).alloc (Nat.le_refl _) _).alloc (by simp) _⟩
set_option maxRecDepth 100000 in
set_option maxHeartbeats 400000 in
theorem eqGroupS_same (va vb : Value) (l : List Gro) (w : World) (ha : Rs w va l.length (gros l)) (hb : Rs w vb l.length (gros l)) :
    Calls Try.prog 45 #[va, vb] w fun e w' => e = .returned (.bool true) ∧ Below w.heap.size w w' := by
  by_cases h0 : l.length = 0
  · obtain rfl := List.eq_nil_of_length_eq_zero h0
    obtain ⟨a, ca, rfl⟩ := ha.zero
    obtain ⟨b, cb, rfl⟩ := hb.zero
    clear ha hb h0
    go_enter Try.func45, Try.ntmps45
    go_wp2
    refine wp_loop_rounds 1 ?_
    rw [rounds_succ]
    go_wp2
    go_ret
    exact ⟨rfl, Below.refl _ _⟩
  · obtain ⟨a, oa, ca, rfl, hla, hcap, hm, hca⟩ := ha.pos h0
    obtain ⟨b, ob, cb, rfl, hlb, _, _, hcb⟩ := hb.pos h0
    unfold maxLen at hm
    have HA := Lib.hid hca
    have HB := Lib.hid hcb
    clear hca hcb ha hb h0
    go_enter Try.func45, Try.ntmps45
    go_wp2
    go_loopw [5] (fun i wr => ∃ k : Nat, k ≤ l.length ∧ i = .int .i64 k ∧ Below w.heap.size w wr) (fun i _ => l.length - (intOf i).toNat)
    case atStart => exact ⟨0, Nat.zero_le _, rfl, Below.refl _ _⟩
    case round =>
      obtain ⟨k, hk, rfl, hb⟩ := hrel
      by_cases hlt : k < l.length
      · obtain ⟨e0, e1⟩ := gros_at l k hlt
        have c0 : wr.cell? ⟨a, oa + k * 2, none⟩ = some (.int .i64 (gth l k).z) := (hb.cell (p := ⟨a, oa + k * 2, none⟩) hla).trans (HA.out _ _ e0)
        have c1 : wr.cell? ⟨a, oa + k * 2 + 1, none⟩ = some (.bool (gth l k).q) := (hb.cell (p := ⟨a, oa + k * 2 + 1, none⟩) hla).trans (HA.out _ _ e1)
        have d0 : wr.cell? ⟨b, ob + k * 2, none⟩ = some (.int .i64 (gth l k).z) := (hb.cell (p := ⟨b, ob + k * 2, none⟩) hlb).trans (HB.out _ _ e0)
        have d1 : wr.cell? ⟨b, ob + k * 2 + 1, none⟩ = some (.bool (gth l k).q) := (hb.cell (p := ⟨b, ob + k * 2 + 1, none⟩) hlb).trans (HB.out _ _ e1)
        clear e0 e1
        go_wp2_with fail
        go_still_tail 8, (by kernel_rfl)
        change wpList _ _ _ _ _ wr.drew
        go_wp2_with fail
        refine (eqGroup_same (gth l k) wr.drew).mono ?_
        rintro e w1 ⟨rfl, hb1⟩
        go_wp2
        go_roundw
        case rel => exact ⟨k + 1, by omega, by go_num, hb.drew.trans (hb1.mono hb.size)⟩
        case measure => simp [intOf]; omega
      · go_wp2
        go_ret
        exact ⟨rfl, hb⟩
end Go.Proofs.Ytkjdkfoeolcnkaa
