/- Slices of impl.Damage: the helpers of the exact laws. Condition: sizes. -/
import Derived.Test.YtipehgnnfmfifaaGS
namespace Go.Proofs.Ytipehgnnfmfifaa
open Go.RowKit
set_option linter.unusedVariables false
/-- A Damage. -/
structure Dmg where
  a : Int
  s : Int
  w : Int
instance : Inhabited Dmg := ⟨⟨0, 0, 0⟩⟩
def Dmg.enc (x : Dmg) : List Value := [.int .i64 x.a, .int .i64 x.s, .int .i64 x.w]
def Dmg.agg (x : Dmg) : Value := .agg #[.int .i64 x.a, .int .i64 x.s, .int .i64 x.w]
theorem Dmg.enc_len (x : Dmg) : x.enc.length = 3 := rfl
/-- Its numbers are in range. -/
def Dmg.wf (x : Dmg) : Prop := (Lit.int .i64 x.a).wf = true ∧ (Lit.int .i64 x.s).wf = true ∧ (Lit.int .i64 x.w).wf = true
theorem Dmg.ext {x y : Dmg} (h0 : x.a = y.a) (h1 : x.s = y.s) (h2 : x.w = y.w) : x = y := by cases x; cases y; simp_all
abbrev dmgs (l : List Dmg) : List Value := flat Dmg.enc l
theorem dmgs_len (l : List Dmg) : (dmgs l).length = l.length * 3 := flat_len Dmg.enc_len l
theorem dmgs_append (l r : List Dmg) : dmgs (l ++ r) = dmgs l ++ dmgs r := flat_append _ l r
theorem dmgs_one (x : Dmg) : dmgs [x] = [.int .i64 x.a, .int .i64 x.s, .int .i64 x.w] := by simp [flat, Dmg.enc]
theorem dmgs_at (l : List Dmg) (i : Nat) (hi : i < l.length) : (dmgs l)[i * 3]? = some (.int .i64 (gth l i).a) ∧ (dmgs l)[i * 3 + 1]? = some (.int .i64 (gth l i).s) ∧ (dmgs l)[i * 3 + 2]? = some (.int .i64 (gth l i).w) :=
  ⟨flat_at Dmg.enc_len default l i 0 hi (by decide), flat_at Dmg.enc_len default l i 1 hi (by decide), flat_at Dmg.enc_len default l i 2 hi (by decide)⟩
theorem dmgs_take_len (l : List Dmg) (j : Nat) (h : j ≤ l.length) : (dmgs (l.take j)).length = j * 3 := by rw [dmgs_len, List.length_take, Nat.min_eq_left h]
theorem dmgs_one_cell (l : List Dmg) : ∀ v ∈ dmgs l, v.oneCell' = true := by
  intro v hv
  obtain ⟨x, _, hx⟩ := List.mem_flatMap.1 hv
  simp [Dmg.enc] at hx
  rcases hx with rfl | rfl | rfl <;> rfl
/-- The cells of a row. -/
def DmgAt (w : World) (b off : Nat) (l : List Dmg) : Prop := ∀ i, i < l.length →
  w.cell? ⟨b, off + i * 3, none⟩ = some (.int .i64 (gth l i).a) ∧ w.cell? ⟨b, off + i * 3 + 1, none⟩ = some (.int .i64 (gth l i).s) ∧ w.cell? ⟨b, off + i * 3 + 2, none⟩ = some (.int .i64 (gth l i).w)
theorem DmgAt.below {w w' : World} {b off : Nat} {l : List Dmg} {B : Nat} (h : DmgAt w b off l) (hb : Below B w w') (hlt : b < B) : DmgAt w' b off l := fun i hi =>
  ⟨(hb.cell (p := ⟨b, off + i * 3, none⟩) hlt).trans (h i hi).1, (hb.cell (p := ⟨b, off + i * 3 + 1, none⟩) hlt).trans (h i hi).2.1, (hb.cell (p := ⟨b, off + i * 3 + 2, none⟩) hlt).trans (h i hi).2.2⟩
theorem DmgAt.drew {w w' : World} {b off : Nat} {l : List Dmg} (h : DmgAt w b off l) (hd : Drew w w') : DmgAt w' b off l := fun i hi =>
  ⟨(hd.cell _).trans (h i hi).1, (hd.cell _).trans (h i hi).2.1, (hd.cell _).trans (h i hi).2.2⟩
theorem DmgAt.zero {w : World} {b off : Nat} {l : List Dmg} (h : DmgAt w b off l) (h0 : 0 < l.length) :
    w.cell? ⟨b, off, none⟩ = some (.int .i64 (gth l 0).a) ∧ w.cell? ⟨b, off + 1, none⟩ = some (.int .i64 (gth l 0).s) ∧ w.cell? ⟨b, off + 2, none⟩ = some (.int .i64 (gth l 0).w) := by
  have := h 0 h0; simpa using this
theorem Rs.at_Dmg {w : World} {v : Value} {l : List Dmg} (h : Rs w v l.length (dmgs l)) (h0 : l.length ≠ 0) :
    ∃ b off cap, v = .slice (some ⟨b, off, none⟩) l.length cap ∧ b < w.heap.size ∧ l.length ≤ maxLen ∧ DmgAt w b off l := by
  obtain ⟨b, off, cap, rfl, hb, hc, hm, hx⟩ := h.pos h0
  refine ⟨b, off, cap, rfl, hb, hm, fun i hi => ?_⟩
  obtain ⟨e0, e1, e2⟩ := dmgs_at l i hi
  exact ⟨hx _ _ e0, hx _ _ e1, hx _ _ e2⟩
/-- A row that may be empty: its address is told where there is an element. -/
theorem Rs.form_Dmg {w : World} {v : Value} {l : List Dmg} (h : Rs w v l.length (dmgs l)) :
    ∃ ao b off cap, v = .slice ao l.length cap ∧ (0 < l.length → ao = some ⟨b, off, none⟩ ∧ b < w.heap.size ∧ l.length ≤ maxLen) ∧ DmgAt w b off l := by
  by_cases h0 : l.length = 0
  · obtain ⟨a, ca, hv⟩ := h.shape
    exact ⟨a, 0, 0, ca, hv, fun h => by omega, fun i hi => by omega⟩
  · obtain ⟨b, off, cap, hv, hb, hm, hx⟩ := h.at_Dmg h0
    exact ⟨_, b, off, cap, hv, fun _ => ⟨rfl, hb, hm⟩, hx⟩
theorem own_Dmg {w : World} {B g cap : Nat} {T : TypeId} {l : List Dmg} (h : w.ownsRow B T 3 (.slice (some ⟨g, 0, none⟩) l.length cap) l.length (dmgs l)) : DmgAt w g 0 l := by
  intro i hi
  obtain ⟨e0, e1, e2⟩ := dmgs_at l i hi
  simp only [Nat.zero_add]
  exact ⟨(h.cellAt (i * 3) (by omega)).trans e0, (h.cellAt (i * 3 + 1) (by omega)).trans e1, (h.cellAt (i * 3 + 2) (by omega)).trans e2⟩
theorem Dmg_set (p xs : List Value) (j : Nat) (u0 u1 u2 : Value) (hp : p.length = j * 3) (hx : (j + 1) * 3 ≤ xs.length) :
    ((((p ++ xs.drop (j * 3)).set (j * 3) u0).set (j * 3 + 1) u1).set (j * 3 + 2) u2) = p ++ [u0, u1, u2] ++ xs.drop ((j + 1) * 3) := by
  have h0 : j * 3 < xs.length := by omega
  have h1 : j * 3 + 1 < xs.length := by omega
  have h2 : j * 3 + 2 < xs.length := by omega
  rw [List.drop_eq_getElem_cons h0, List.drop_eq_getElem_cons h1, List.drop_eq_getElem_cons h2]
  rw [List.set_append_right _ _ (by omega), hp, List.set_append_right _ _ (by omega), hp, List.set_append_right _ _ (by omega), hp]
  simp only [Nat.sub_self, Nat.add_sub_cancel_left, List.set_cons_zero, List.set_cons_succ, List.append_assoc, List.cons_append, List.nil_append]
  rw [show j * 3 + 2 + 1 = (j + 1) * 3 by omega]
theorem Try.infoDmg : (Try.prog.info? 34).map (fun i => (i.zero, i.size, i.bytes)) = some (some (.agg #[.int .i64 0, .int .i64 0, .int .i64 0]), 3, 24) := by kernel_rfl
theorem box_Dmg (w : World) (x : Dmg) (t : TypeId) (g : Nat) (hg : g = w.heap.size) (W : World) (h : Below (g + 1) (w.alloc (.cells #[.int .i64 x.a, .int .i64 x.s, .int .i64 x.w] t)) W) :
    W.cell? ⟨g, 0, none⟩ = some (.int .i64 x.a) ∧ W.cell? ⟨g, 1, none⟩ = some (.int .i64 x.s) ∧ W.cell? ⟨g, 2, none⟩ = some (.int .i64 x.w) := by
  subst hg
  refine ⟨?_, ?_, ?_⟩ <;> (rw [h.cell (by simp), World.cell?_alloc_at _ _ _ _ rfl]; rfl)
set_option maxHeartbeats 400000 in
theorem szDamageS_ok (v : Value) (n : Nat) (xs : List Value) (left : Int) (w : World) (hr : Rs w v n xs) (hl : left ≤ 1048576) (h : (n : Int) ≤ left) :
    Calls Try.prog 47 #[v, .int .i64 left] w fun e w' => e = .returned (.int .i64 (left - (n : Int))) ∧ w' = w := by
  obtain ⟨a, ca, rfl⟩ := hr.shape
  clear hr
  go_enter Try.func47, Try.ntmps47
  go_wp2
  go_ret
  exact ⟨rfl, rfl⟩
set_option maxHeartbeats 400000 in
theorem szDamageS_big (v : Value) (n : Nat) (xs : List Value) (left : Int) (w : World) (hr : Rs w v n xs) (hn : n ≤ maxLen) (hl : left ≤ 1048576) (h0 : 0 ≤ left) (h : left < (n : Int)) :
    Calls Try.prog 47 #[v, .int .i64 left] w fun e w' => e = .returned (.int .i64 (-1)) ∧ w' = w := by
  obtain ⟨a, ca, rfl⟩ := hr.shape
  unfold maxLen at hn
  clear hr
  go_enter Try.func47, Try.ntmps47
  go_wp2
  go_ret
  exact ⟨rfl, rfl⟩
set_option maxHeartbeats 400000 in
theorem toDamage_any (x : Dmg) (w : World) :
    Calls Try.prog 51 #[.agg #[.int .i64 x.a, .int .i64 x.s, .int .i64 x.w]] w fun e w' => e = .returned (.agg #[.int .i64 x.a, .int .i64 x.s, .int .i64 x.w]) ∧ Below w.heap.size w w' := by
  go_enter Try.func51, Try.ntmps51
  go_wp2
  refine bodyPost_ret (v := .agg #[.int .i64 x.a, .int .i64 x.s, .int .i64 x.w]) (by simp [results, Try.results51, go_sem]) rfl ⟨rfl, ?_⟩
  first | exact (((Below.refl _ _).alloc (Nat.le_refl _) _).alloc (by simp) _).alloc (by simp; omega) _ | exact ((Below.refl _ _).alloc (Nat.le_refl _) _).alloc (by simp) _
set_option maxHeartbeats 400000 in
theorem toDamageS_any (v : Value) (l : List Dmg) (w : World) (hr : Rs w v l.length (dmgs l)) (hln : l.length ≤ 1048576) :
    Calls Try.prog 49 #[v] w fun e w' => ∃ v', e = .returned v' ∧ w'.ownsRow w.heap.size 34 3 v' l.length (dmgs l) ∧ Below w.heap.size w w' := by
  obtain ⟨i0, hi, hz0, hz1, hz2⟩ := info_parts Try.infoDmg
  by_cases h0 : l.length = 0
  · obtain rfl := List.eq_nil_of_length_eq_zero h0
    obtain ⟨a, ca, rfl⟩ := hr.zero
    clear hr h0
    go_enter Try.func49, Try.ntmps49
    go_wp2_with (at_make; refine wpList_make_full _ rfl _ _ 26 rfl w.heap.size 34 i0 (.agg #[.int .i64 0, .int .i64 0, .int .i64 0]) 3 Try.underlying26 hi hz0 hz1 _ _ _ _ 0 rfl rfl (by simp) (by simp) (by omega) (by unfold maxLen; omega) (Nat.le_refl _) ?_; intro w0 hown0 hgrow0)
    refine wp_loop_rounds 1 ?_
    rw [rounds_succ]
    go_wp2
    go_ret
    exact ⟨_, rfl, by simpa [madeCells, flat] using hown0, (Below.refl _ _).grown hgrow0 (Nat.le_refl _) (fun k h => by cases h)⟩
  · obtain ⟨a, oa, ca, rfl, hla, hcap, hm, hca⟩ := hr.pos h0
    have HA := Lib.hid hca
    clear hca hr h0
    go_enter Try.func49, Try.ntmps49
    go_wp2_with (at_make; refine wpList_make_full _ rfl _ _ 26 rfl w.heap.size 34 i0 (.agg #[.int .i64 0, .int .i64 0, .int .i64 0]) 3 Try.underlying26 hi hz0 hz1 _ _ _ _ l.length rfl rfl rfl rfl (by rw [hz2]; omega) (by unfold maxLen; omega) (Nat.le_refl _) ?_; intro w0 hown0 hgrow0)
    have hb0 := (Below.refl w.heap.size w).grown hgrow0 (Nat.le_refl _) (fun k h => by cases h)
    have hxl : (madeCells (Value.agg #[.int .i64 0, .int .i64 0, .int .i64 0]).cells (l.length * 3)).toList.length = l.length * 3 := hown0.1
    generalize (madeCells (Value.agg #[.int .i64 0, .int .i64 0, .int .i64 0]).cells (l.length * 3)).toList = xs at hown0 hxl
    clear hgrow0
    go_loopw [4] (fun i wr => ∃ j : Nat, j ≤ l.length ∧ i = .int .i64 j ∧ wr.ownsRow w.heap.size 34 3 (.slice (some ⟨w.heap.size, 0, none⟩) l.length l.length) l.length (dmgs (l.take j) ++ xs.drop (j * 3)) ∧ Below w.heap.size w wr) (fun i _ => l.length - (intOf i).toNat)
    case atStart => exact ⟨0, Nat.zero_le _, rfl, by simpa [flat] using hown0, hb0⟩
    case round =>
      obtain ⟨j, hj, rfl, ho, hb⟩ := hrel
      by_cases hlt : j < l.length
      · obtain ⟨e0, e1, e2⟩ := dmgs_at l j hlt
        have c0 : wr.cell? ⟨a, oa + j * 3, none⟩ = some (.int .i64 (gth l j).a) := (hb.cell (p := ⟨a, oa + j * 3, none⟩) hla).trans (HA.out _ _ e0)
        have c1 : wr.cell? ⟨a, oa + j * 3 + 1, none⟩ = some (.int .i64 (gth l j).s) := (hb.cell (p := ⟨a, oa + j * 3 + 1, none⟩) hla).trans (HA.out _ _ e1)
        have c2 : wr.cell? ⟨a, oa + j * 3 + 2, none⟩ = some (.int .i64 (gth l j).w) := (hb.cell (p := ⟨a, oa + j * 3 + 2, none⟩) hla).trans (HA.out _ _ e2)
        clear e0 e1 e2
        have HX : Hid (((((dmgs (l.take j) ++ xs.drop (j * 3)).set (j * 3) (.int .i64 (gth l j).a)).set (j * 3 + 1) (.int .i64 (gth l j).s)).set (j * 3 + 2) (.int .i64 (gth l j).w)) = dmgs (l.take (j + 1)) ++ xs.drop ((j + 1) * 3)) := by
          rw [Hid, Dmg_set _ _ _ _ _ _ (dmgs_take_len l j hj) (by omega), take_gth l j hlt, dmgs_append, dmgs_one]
        have hu0 : j * 3 + 2 < (dmgs (l.take j) ++ xs.drop (j * 3)).length := by simp [dmgs_take_len l j hj]; omega
        go_wp2_with fail
        refine (toDamage_any (gth l j) _).mono ?_
        rintro e w1 ⟨rfl, hb1⟩
        have ho1 := owns_below ho hb1
        have k0 := (ho1.cellAt (j * 3) (by omega)).trans (List.getElem?_eq_getElem (by omega))
        have k1 := (ho1.cellAt (j * 3 + 1) (by omega)).trans (List.getElem?_eq_getElem (by omega))
        have k2 := (ho1.cellAt (j * 3 + 2) (by omega)).trans (List.getElem?_eq_getElem (by omega))
        have f0 := ho1.frozenAt (j * 3)
        have f1 := ho1.frozenAt (j * 3 + 1)
        have f2 := ho1.frozenAt (j * 3 + 2)
        have hst := (((((ho1.stored (j * 3) (.int .i64 (gth l j).a)).1.stored (j * 3 + 1) (.int .i64 (gth l j).s))).1.stored (j * 3 + 2) (.int .i64 (gth l j).w))).1
        rw [HX.out] at hst
        go_wp2
        go_roundw
        case rel => exact ⟨j + 1, by omega, by go_num, hst, ((((hb.trans (hb1.mono hb.size)).setCell (Nat.le_refl _) _).setCell (Nat.le_refl _) _).setCell (Nat.le_refl _) _)⟩
        case measure => simp [intOf]; omega
      · obtain rfl : j = l.length := by omega
        go_wp2
        go_ret
        exact ⟨_, rfl, by rw [List.take_length, List.drop_of_length_le (by omega), List.append_nil] at ho; exact ho, hb⟩
set_option maxHeartbeats 400000 in
theorem eqDamage_same (x : Dmg) (w : World) :
    Calls Try.prog 82 #[.agg #[.int .i64 x.a, .int .i64 x.s, .int .i64 x.w], .agg #[.int .i64 x.a, .int .i64 x.s, .int .i64 x.w]] w fun e w' => e = .returned (.bool true) ∧ Below w.heap.size w w' := by
  go_enter Try.func82, Try.ntmps82
  go_wp2
  go_ret
  exact ⟨rfl, ((Below.refl _ _).alloc (Nat.le_refl _) _).alloc (by simp) _⟩
set_option maxRecDepth 100000 in
set_option maxHeartbeats 400000 in
theorem eqDamageS_same (va vb : Value) (l : List Dmg) (w : World) (ha : Rs w va l.length (dmgs l)) (hb : Rs w vb l.length (dmgs l)) :
    Calls Try.prog 50 #[va, vb] w fun e w' => e = .returned (.bool true) ∧ Below w.heap.size w w' := by
  by_cases h0 : l.length = 0
  · obtain rfl := List.eq_nil_of_length_eq_zero h0
    obtain ⟨a, ca, rfl⟩ := ha.zero
    obtain ⟨b, cb, rfl⟩ := hb.zero
    clear ha hb h0
    go_enter Try.func50, Try.ntmps50
    go_wp2
    refine wp_loop_rounds 1 ?_
    rw [rounds_succ]
    go_wp2
    go_ret
    exact ⟨rfl, Below.refl _ _⟩
  · obtain ⟨a, oa, ca, rfl, hla, hcap, hm, hca⟩ := ha.pos h0
    obtain ⟨b, ob, cb, rfl, hlb, _, _, hcb⟩ := hb.pos h0
    unfold maxLen at hm
    have HA := Lib.hid hca
    have HB := Lib.hid hcb
    clear hca hcb ha hb h0
    go_enter Try.func50, Try.ntmps50
    go_wp2
    go_loopw [5] (fun i wr => ∃ k : Nat, k ≤ l.length ∧ i = .int .i64 k ∧ Below w.heap.size w wr) (fun i _ => l.length - (intOf i).toNat)
    case atStart => exact ⟨0, Nat.zero_le _, rfl, Below.refl _ _⟩
    case round =>
      obtain ⟨k, hk, rfl, hb⟩ := hrel
      by_cases hlt : k < l.length
      · obtain ⟨e0, e1, e2⟩ := dmgs_at l k hlt
        have c0 : wr.cell? ⟨a, oa + k * 3, none⟩ = some (.int .i64 (gth l k).a) := (hb.cell (p := ⟨a, oa + k * 3, none⟩) hla).trans (HA.out _ _ e0)
        have c1 : wr.cell? ⟨a, oa + k * 3 + 1, none⟩ = some (.int .i64 (gth l k).s) := (hb.cell (p := ⟨a, oa + k * 3 + 1, none⟩) hla).trans (HA.out _ _ e1)
        have c2 : wr.cell? ⟨a, oa + k * 3 + 2, none⟩ = some (.int .i64 (gth l k).w) := (hb.cell (p := ⟨a, oa + k * 3 + 2, none⟩) hla).trans (HA.out _ _ e2)
        have d0 : wr.cell? ⟨b, ob + k * 3, none⟩ = some (.int .i64 (gth l k).a) := (hb.cell (p := ⟨b, ob + k * 3, none⟩) hlb).trans (HB.out _ _ e0)
        have d1 : wr.cell? ⟨b, ob + k * 3 + 1, none⟩ = some (.int .i64 (gth l k).s) := (hb.cell (p := ⟨b, ob + k * 3 + 1, none⟩) hlb).trans (HB.out _ _ e1)
        have d2 : wr.cell? ⟨b, ob + k * 3 + 2, none⟩ = some (.int .i64 (gth l k).w) := (hb.cell (p := ⟨b, ob + k * 3 + 2, none⟩) hlb).trans (HB.out _ _ e2)
        clear e0 e1 e2
        go_wp2_with fail
        go_still_tail 8, (by kernel_rfl)
        change wpList _ _ _ _ _ wr.drew
        go_wp2_with fail
        refine (eqDamage_same (gth l k) wr.drew).mono ?_
        rintro e w1 ⟨rfl, hb1⟩
        go_wp2
        go_roundw
        case rel => exact ⟨k + 1, by omega, by go_num, hb.drew.trans (hb1.mono hb.size)⟩
        case measure => simp [intOf]; omega
      · go_wp2
        go_ret
        exact ⟨rfl, hb⟩
end Go.Proofs.Ytipehgnnfmfifaa
