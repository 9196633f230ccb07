/- Slices of impl.Ticket: the helpers of the exact laws. Condition: sizes. -/
import Derived.Test.YtpknodbkjjcdjaaDoorGS
namespace Go.Proofs.YtpknodbkjjcdjaaDoor
open Go.RowKit
set_option linter.unusedVariables false
/-- A Ticket. -/
structure Tik where
  i : Int
  s : Int
  w : Int
  g : Int
  p : Int
instance : Inhabited Tik := ⟨⟨0, 0, 0, 0, 0⟩⟩
def Tik.enc (x : Tik) : List Value := [.int .i64 x.i, .int .i64 x.s, .int .i64 x.w, .int .i64 x.g, .int .i64 x.p]
def Tik.agg (x : Tik) : Value := .agg #[.int .i64 x.i, .int .i64 x.s, .int .i64 x.w, .int .i64 x.g, .int .i64 x.p]
theorem Tik.enc_len (x : Tik) : x.enc.length = 5 := rfl
/-- Its numbers are in range. -/
def Tik.wf (x : Tik) : Prop := (Lit.int .i64 x.i).wf = true ∧ (Lit.int .i64 x.s).wf = true ∧ (Lit.int .i64 x.w).wf = true ∧ (Lit.int .i64 x.g).wf = true ∧ (Lit.int .i64 x.p).wf = true
theorem Tik.ext {x y : Tik} (h0 : x.i = y.i) (h1 : x.s = y.s) (h2 : x.w = y.w) (h3 : x.g = y.g) (h4 : x.p = y.p) : x = y := by cases x; cases y; simp_all
abbrev tiks (l : List Tik) : List Value := flat Tik.enc l
theorem tiks_len (l : List Tik) : (tiks l).length = l.length * 5 := flat_len Tik.enc_len l
theorem tiks_append (l r : List Tik) : tiks (l ++ r) = tiks l ++ tiks r := flat_append _ l r
theorem tiks_one (x : Tik) : tiks [x] = [.int .i64 x.i, .int .i64 x.s, .int .i64 x.w, .int .i64 x.g, .int .i64 x.p] := by simp [flat, Tik.enc]
theorem tiks_at (l : List Tik) (i : Nat) (hi : i < l.length) : (tiks l)[i * 5]? = some (.int .i64 (gth l i).i) ∧ (tiks l)[i * 5 + 1]? = some (.int .i64 (gth l i).s) ∧ (tiks l)[i * 5 + 2]? = some (.int .i64 (gth l i).w) ∧ (tiks l)[i * 5 + 3]? = some (.int .i64 (gth l i).g) ∧ (tiks l)[i * 5 + 4]? = some (.int .i64 (gth l i).p) :=
  ⟨flat_at Tik.enc_len default l i 0 hi (by decide), flat_at Tik.enc_len default l i 1 hi (by decide), flat_at Tik.enc_len default l i 2 hi (by decide), flat_at Tik.enc_len default l i 3 hi (by decide), flat_at Tik.enc_len default l i 4 hi (by decide)⟩
theorem tiks_take_len (l : List Tik) (j : Nat) (h : j ≤ l.length) : (tiks (l.take j)).length = j * 5 := by rw [tiks_len, List.length_take, Nat.min_eq_left h]
theorem tiks_one_cell (l : List Tik) : ∀ v ∈ tiks l, v.oneCell' = true := by
  intro v hv
  obtain ⟨x, _, hx⟩ := List.mem_flatMap.1 hv
  simp [Tik.enc] at hx
  rcases hx with rfl | rfl | rfl | rfl | rfl <;> rfl
/-- The cells of a row. -/
def TikAt (w : World) (b off : Nat) (l : List Tik) : Prop := ∀ i, i < l.length →
  w.cell? ⟨b, off + i * 5, none⟩ = some (.int .i64 (gth l i).i) ∧ w.cell? ⟨b, off + i * 5 + 1, none⟩ = some (.int .i64 (gth l i).s) ∧ w.cell? ⟨b, off + i * 5 + 2, none⟩ = some (.int .i64 (gth l i).w) ∧ w.cell? ⟨b, off + i * 5 + 3, none⟩ = some (.int .i64 (gth l i).g) ∧ w.cell? ⟨b, off + i * 5 + 4, none⟩ = some (.int .i64 (gth l i).p)
theorem TikAt.below {w w' : World} {b off : Nat} {l : List Tik} {B : Nat} (h : TikAt w b off l) (hb : Below B w w') (hlt : b < B) : TikAt w' b off l := fun i hi =>
  ⟨(hb.cell (p := ⟨b, off + i * 5, none⟩) hlt).trans (h i hi).1, (hb.cell (p := ⟨b, off + i * 5 + 1, none⟩) hlt).trans (h i hi).2.1, (hb.cell (p := ⟨b, off + i * 5 + 2, none⟩) hlt).trans (h i hi).2.2.1, (hb.cell (p := ⟨b, off + i * 5 + 3, none⟩) hlt).trans (h i hi).2.2.2.1, (hb.cell (p := ⟨b, off + i * 5 + 4, none⟩) hlt).trans (h i hi).2.2.2.2⟩
theorem TikAt.drew {w w' : World} {b off : Nat} {l : List Tik} (h : TikAt w b off l) (hd : Drew w w') : TikAt w' b off l := fun i hi =>
  ⟨(hd.cell _).trans (h i hi).1, (hd.cell _).trans (h i hi).2.1, (hd.cell _).trans (h i hi).2.2.1, (hd.cell _).trans (h i hi).2.2.2.1, (hd.cell _).trans (h i hi).2.2.2.2⟩
theorem TikAt.zero {w : World} {b off : Nat} {l : List Tik} (h : TikAt w b off l) (h0 : 0 < l.length) :
    w.cell? ⟨b, off, none⟩ = some (.int .i64 (gth l 0).i) ∧ w.cell? ⟨b, off + 1, none⟩ = some (.int .i64 (gth l 0).s) ∧ w.cell? ⟨b, off + 2, none⟩ = some (.int .i64 (gth l 0).w) ∧ w.cell? ⟨b, off + 3, none⟩ = some (.int .i64 (gth l 0).g) ∧ w.cell? ⟨b, off + 4, none⟩ = some (.int .i64 (gth l 0).p) := by
  have := h 0 h0; simpa using this
theorem Rs.at_Tik {w : World} {v : Value} {l : List Tik} (h : Rs w v l.length (tiks l)) (h0 : l.length ≠ 0) :
    ∃ b off cap, v = .slice (some ⟨b, off, none⟩) l.length cap ∧ b < w.heap.size ∧ l.length ≤ maxLen ∧ TikAt w b off l := by
  obtain ⟨b, off, cap, rfl, hb, hc, hm, hx⟩ := h.pos h0
  refine ⟨b, off, cap, rfl, hb, hm, fun i hi => ?_⟩
  obtain ⟨e0, e1, e2, e3, e4⟩ := tiks_at l i hi
  exact ⟨hx _ _ e0, hx _ _ e1, hx _ _ e2, hx _ _ e3, hx _ _ e4⟩
/-- A row that may be empty: its address is told where there is an element. -/
theorem Rs.form_Tik {w : World} {v : Value} {l : List Tik} (h : Rs w v l.length (tiks l)) :
    ∃ ao b off cap, v = .slice ao l.length cap ∧ (0 < l.length → ao = some ⟨b, off, none⟩ ∧ b < w.heap.size ∧ l.length ≤ maxLen) ∧ TikAt w b off l := by
  by_cases h0 : l.length = 0
  · obtain ⟨a, ca, hv⟩ := h.shape
    exact ⟨a, 0, 0, ca, hv, fun h => by omega, fun i hi => by omega⟩
  · obtain ⟨b, off, cap, hv, hb, hm, hx⟩ := h.at_Tik h0
    exact ⟨_, b, off, cap, hv, fun _ => ⟨rfl, hb, hm⟩, hx⟩
theorem own_Tik {w : World} {B g cap : Nat} {T : TypeId} {l : List Tik} (h : w.ownsRow B T 5 (.slice (some ⟨g, 0, none⟩) l.length cap) l.length (tiks l)) : TikAt w g 0 l := by
  intro i hi
  obtain ⟨e0, e1, e2, e3, e4⟩ := tiks_at l i hi
  simp only [Nat.zero_add]
  exact ⟨(h.cellAt (i * 5) (by omega)).trans e0, (h.cellAt (i * 5 + 1) (by omega)).trans e1, (h.cellAt (i * 5 + 2) (by omega)).trans e2, (h.cellAt (i * 5 + 3) (by omega)).trans e3, (h.cellAt (i * 5 + 4) (by omega)).trans e4⟩
theorem Tik_set (p xs : List Value) (j : Nat) (u0 u1 u2 u3 u4 : Value) (hp : p.length = j * 5) (hx : (j + 1) * 5 ≤ xs.length) :
    ((((((p ++ xs.drop (j * 5)).set (j * 5) u0).set (j * 5 + 1) u1).set (j * 5 + 2) u2).set (j * 5 + 3) u3).set (j * 5 + 4) u4) = p ++ [u0, u1, u2, u3, u4] ++ xs.drop ((j + 1) * 5) := by
  have h0 : j * 5 < xs.length := by omega
  have h1 : j * 5 + 1 < xs.length := by omega
  have h2 : j * 5 + 2 < xs.length := by omega
  have h3 : j * 5 + 3 < xs.length := by omega
  have h4 : j * 5 + 4 < xs.length := by omega
  rw [List.drop_eq_getElem_cons h0, List.drop_eq_getElem_cons h1, List.drop_eq_getElem_cons h2, List.drop_eq_getElem_cons h3, List.drop_eq_getElem_cons h4]
  rw [List.set_append_right _ _ (by omega), hp, List.set_append_right _ _ (by omega), hp, List.set_append_right _ _ (by omega), hp, List.set_append_right _ _ (by omega), hp, List.set_append_right _ _ (by omega), hp]
  simp only [Nat.sub_self, Nat.add_sub_cancel_left, List.set_cons_zero, List.set_cons_succ, List.append_assoc, List.cons_append, List.nil_append]
  rw [show j * 5 + 4 + 1 = (j + 1) * 5 by omega]
theorem Tryd.infoTik : (Tryd.prog.info? 31).map (fun i => (i.zero, i.size, i.bytes)) = some (some (.agg #[.int .i64 0, .int .i64 0, .int .i64 0, .int .i64 0, .int .i64 0]), 5, 40) := by kernel_rfl
theorem box_Tik (w : World) (x : Tik) (t : TypeId) (g : Nat) (hg : g = w.heap.size) (W : World) (h : Below (g + 1) (w.alloc (.cells #[.int .i64 x.i, .int .i64 x.s, .int .i64 x.w, .int .i64 x.g, .int .i64 x.p] t)) W) :
    W.cell? ⟨g, 0, none⟩ = some (.int .i64 x.i) ∧ W.cell? ⟨g, 1, none⟩ = some (.int .i64 x.s) ∧ W.cell? ⟨g, 2, none⟩ = some (.int .i64 x.w) ∧ W.cell? ⟨g, 3, none⟩ = some (.int .i64 x.g) ∧ W.cell? ⟨g, 4, none⟩ = some (.int .i64 x.p) := by
  subst hg
  refine ⟨?_, ?_, ?_, ?_, ?_⟩ <;> (rw [h.cell (by simp), World.cell?_alloc_at _ _ _ _ rfl]; rfl)
set_option maxHeartbeats 400000 in
theorem szTicketS_ok (v : Value) (n : Nat) (xs : List Value) (left : Int) (w : World) (hr : Rs w v n xs) (hl : left ≤ 1048576) (h : (n : Int) ≤ left) :
    Calls Tryd.prog 45 #[v, .int .i64 left] w fun e w' => e = .returned (.int .i64 (left - (n : Int))) ∧ w' = w := by
  obtain ⟨a, ca, rfl⟩ := hr.shape
  clear hr
  go_enter Tryd.func45, Tryd.ntmps45
  go_wp2
  go_ret
  exact ⟨rfl, rfl⟩
set_option maxHeartbeats 400000 in
theorem szTicketS_big (v : Value) (n : Nat) (xs : List Value) (left : Int) (w : World) (hr : Rs w v n xs) (hn : n ≤ maxLen) (hl : left ≤ 1048576) (h0 : 0 ≤ left) (h : left < (n : Int)) :
    Calls Tryd.prog 45 #[v, .int .i64 left] w fun e w' => e = .returned (.int .i64 (-1)) ∧ w' = w := by
  obtain ⟨a, ca, rfl⟩ := hr.shape
  unfold maxLen at hn
  clear hr
  go_enter Tryd.func45, Tryd.ntmps45
  go_wp2
  go_ret
  exact ⟨rfl, rfl⟩
set_option maxHeartbeats 400000 in
theorem toTicket_any (x : Tik) (w : World) :
    Calls Tryd.prog 44 #[.agg #[.int .i64 x.i, .int .i64 x.s, .int .i64 x.w, .int .i64 x.g, .int .i64 x.p]] w fun e w' => e = .returned (.agg #[.int .i64 x.i, .int .i64 x.s, .int .i64 x.w, .int .i64 x.g, .int .i64 x.p]) ∧ Below w.heap.size w w' := by
  go_enter Tryd.func44, Tryd.ntmps44
  go_wp2
  refine bodyPost_ret (v := .agg #[.int .i64 x.i, .int .i64 x.s, .int .i64 x.w, .int .i64 x.g, .int .i64 x.p]) (by simp [results, Tryd.results44, go_sem]) rfl ⟨rfl, ?_⟩
  first | exact (((Below.refl _ _).alloc (Nat.le_refl _) _).alloc (by simp) _).alloc (by simp; omega) _ | exact ((Below.refl _ _).alloc (Nat.le_refl _) _).alloc (by simp) _
set_option maxHeartbeats 400000 in
theorem toTicketS_any (v : Value) (l : List Tik) (w : World) (hr : Rs w v l.length (tiks l)) (hln : l.length ≤ 1048576) :
    Calls Tryd.prog 47 #[v] w fun e w' => ∃ v', e = .returned v' ∧ w'.ownsRow w.heap.size 31 5 v' l.length (tiks l) ∧ Below w.heap.size w w' := by
  obtain ⟨i0, hi, hz0, hz1, hz2⟩ := info_parts Tryd.infoTik
  by_cases h0 : l.length = 0
  · obtain rfl := List.eq_nil_of_length_eq_zero h0
    obtain ⟨a, ca, rfl⟩ := hr.zero
    clear hr h0
    go_enter Tryd.func47, Tryd.ntmps47
    go_wp2_with (at_make; refine wpList_make_full _ rfl _ _ 24 rfl w.heap.size 31 i0 (.agg #[.int .i64 0, .int .i64 0, .int .i64 0, .int .i64 0, .int .i64 0]) 5 Tryd.underlying24 hi hz0 hz1 _ _ _ _ 0 rfl rfl (by simp) (by simp) (by omega) (by unfold maxLen; omega) (Nat.le_refl _) ?_; intro w0 hown0 hgrow0)
    refine wp_loop_rounds 1 ?_
    rw [rounds_succ]
    go_wp2
    go_ret
    exact ⟨_, rfl, by simpa [madeCells, flat] using hown0, (Below.refl _ _).grown hgrow0 (Nat.le_refl _) (fun k h => by cases h)⟩
  · obtain ⟨a, oa, ca, rfl, hla, hcap, hm, hca⟩ := hr.pos h0
    have HA := Lib.hid hca
    clear hca hr h0
    go_enter Tryd.func47, Tryd.ntmps47
    go_wp2_with (at_make; refine wpList_make_full _ rfl _ _ 24 rfl w.heap.size 31 i0 (.agg #[.int .i64 0, .int .i64 0, .int .i64 0, .int .i64 0, .int .i64 0]) 5 Tryd.underlying24 hi hz0 hz1 _ _ _ _ l.length rfl rfl rfl rfl (by rw [hz2]; omega) (by unfold maxLen; omega) (Nat.le_refl _) ?_; intro w0 hown0 hgrow0)
    have hb0 := (Below.refl w.heap.size w).grown hgrow0 (Nat.le_refl _) (fun k h => by cases h)
    have hxl : (madeCells (Value.agg #[.int .i64 0, .int .i64 0, .int .i64 0, .int .i64 0, .int .i64 0]).cells (l.length * 5)).toList.length = l.length * 5 := hown0.1
    generalize (madeCells (Value.agg #[.int .i64 0, .int .i64 0, .int .i64 0, .int .i64 0, .int .i64 0]).cells (l.length * 5)).toList = xs at hown0 hxl
    clear hgrow0
    go_loopw [4] (fun i wr => ∃ j : Nat, j ≤ l.length ∧ i = .int .i64 j ∧ wr.ownsRow w.heap.size 31 5 (.slice (some ⟨w.heap.size, 0, none⟩) l.length l.length) l.length (tiks (l.take j) ++ xs.drop (j * 5)) ∧ Below w.heap.size w wr) (fun i _ => l.length - (intOf i).toNat)
    case atStart => exact ⟨0, Nat.zero_le _, rfl, by simpa [flat] using hown0, hb0⟩
    case round =>
      obtain ⟨j, hj, rfl, ho, hb⟩ := hrel
      by_cases hlt : j < l.length
      · obtain ⟨e0, e1, e2, e3, e4⟩ := tiks_at l j hlt
        have c0 : wr.cell? ⟨a, oa + j * 5, none⟩ = some (.int .i64 (gth l j).i) := (hb.cell (p := ⟨a, oa + j * 5, none⟩) hla).trans (HA.out _ _ e0)
        have c1 : wr.cell? ⟨a, oa + j * 5 + 1, none⟩ = some (.int .i64 (gth l j).s) := (hb.cell (p := ⟨a, oa + j * 5 + 1, none⟩) hla).trans (HA.out _ _ e1)
        have c2 : wr.cell? ⟨a, oa + j * 5 + 2, none⟩ = some (.int .i64 (gth l j).w) := (hb.cell (p := ⟨a, oa + j * 5 + 2, none⟩) hla).trans (HA.out _ _ e2)
        have c3 : wr.cell? ⟨a, oa + j * 5 + 3, none⟩ = some (.int .i64 (gth l j).g) := (hb.cell (p := ⟨a, oa + j * 5 + 3, none⟩) hla).trans (HA.out _ _ e3)
        have c4 : wr.cell? ⟨a, oa + j * 5 + 4, none⟩ = some (.int .i64 (gth l j).p) := (hb.cell (p := ⟨a, oa + j * 5 + 4, none⟩) hla).trans (HA.out _ _ e4)
        clear e0 e1 e2 e3 e4
        have HX : Hid (((((((tiks (l.take j) ++ xs.drop (j * 5)).set (j * 5) (.int .i64 (gth l j).i)).set (j * 5 + 1) (.int .i64 (gth l j).s)).set (j * 5 + 2) (.int .i64 (gth l j).w)).set (j * 5 + 3) (.int .i64 (gth l j).g)).set (j * 5 + 4) (.int .i64 (gth l j).p)) = tiks (l.take (j + 1)) ++ xs.drop ((j + 1) * 5)) := by
          rw [Hid, Tik_set _ _ _ _ _ _ _ _ (tiks_take_len l j hj) (by omega), take_gth l j hlt, tiks_append, tiks_one]
        have hu0 : j * 5 + 4 < (tiks (l.take j) ++ xs.drop (j * 5)).length := by simp [tiks_take_len l j hj]; omega
        go_wp2_with fail
        refine (toTicket_any (gth l j) _).mono ?_
        rintro e w1 ⟨rfl, hb1⟩
        have ho1 := owns_below ho hb1
        have k0 := (ho1.cellAt (j * 5) (by omega)).trans (List.getElem?_eq_getElem (by omega))
        have k1 := (ho1.cellAt (j * 5 + 1) (by omega)).trans (List.getElem?_eq_getElem (by omega))
        have k2 := (ho1.cellAt (j * 5 + 2) (by omega)).trans (List.getElem?_eq_getElem (by omega))
        have k3 := (ho1.cellAt (j * 5 + 3) (by omega)).trans (List.getElem?_eq_getElem (by omega))
        have k4 := (ho1.cellAt (j * 5 + 4) (by omega)).trans (List.getElem?_eq_getElem (by omega))
        have f0 := ho1.frozenAt (j * 5)
        have f1 := ho1.frozenAt (j * 5 + 1)
        have f2 := ho1.frozenAt (j * 5 + 2)
        have f3 := ho1.frozenAt (j * 5 + 3)
        have f4 := ho1.frozenAt (j * 5 + 4)
        have hst := (((((((((ho1.stored (j * 5) (.int .i64 (gth l j).i)).1.stored (j * 5 + 1) (.int .i64 (gth l j).s))).1.stored (j * 5 + 2) (.int .i64 (gth l j).w))).1.stored (j * 5 + 3) (.int .i64 (gth l j).g))).1.stored (j * 5 + 4) (.int .i64 (gth l j).p))).1
        rw [HX.out] at hst
        go_wp2
        go_roundw
        case rel => exact ⟨j + 1, by omega, by go_num, hst, ((((((hb.trans (hb1.mono hb.size)).setCell (Nat.le_refl _) _).setCell (Nat.le_refl _) _).setCell (Nat.le_refl _) _).setCell (Nat.le_refl _) _).setCell (Nat.le_refl _) _)⟩
        case measure => simp [intOf]; omega
      · obtain rfl : j = l.length := by omega
        go_wp2
        go_ret
        exact ⟨_, rfl, by rw [List.take_length, List.drop_of_length_le (by omega), List.append_nil] at ho; exact ho, hb⟩
set_option maxHeartbeats 400000 in
theorem eqTicket_same (x : Tik) (w : World) :
    Calls Tryd.prog 84 #[.agg #[.int .i64 x.i, .int .i64 x.s, .int .i64 x.w, .int .i64 x.g, .int .i64 x.p], .agg #[.int .i64 x.i, .int .i64 x.s, .int .i64 x.w, .int .i64 x.g, .int .i64 x.p]] w fun e w' => e = .returned (.bool true) ∧ Below w.heap.size w w' := by
  go_enter Tryd.func84, Tryd.ntmps84
  go_wp2
  go_ret
  exact ⟨rfl, ((Below.refl _ _).alloc (Nat.le_refl _) _).alloc (by simp) _⟩
set_option maxRecDepth 100000 in
set_option maxHeartbeats 400000 in
theorem eqTicketS_same (va vb : Value) (l : List Tik) (w : World) (ha : Rs w va l.length (tiks l)) (hb : Rs w vb l.length (tiks l)) :
    Calls Tryd.prog 48 #[va, vb] w fun e w' => e = .returned (.bool true) ∧ Below w.heap.size w w' := by
  by_cases h0 : l.length = 0
  · obtain rfl := List.eq_nil_of_length_eq_zero h0
    obtain ⟨a, ca, rfl⟩ := ha.zero
    obtain ⟨b, cb, rfl⟩ := hb.zero
    clear ha hb h0
    go_enter Tryd.func48, Tryd.ntmps48
    go_wp2
    refine wp_loop_rounds 1 ?_
    rw [rounds_succ]
    go_wp2
    go_ret
    exact ⟨rfl, Below.refl _ _⟩
  · obtain ⟨a, oa, ca, rfl, hla, hcap, hm, hca⟩ := ha.pos h0
    obtain ⟨b, ob, cb, rfl, hlb, _, _, hcb⟩ := hb.pos h0
    unfold maxLen at hm
    have HA := Lib.hid hca
    have HB := Lib.hid hcb
    clear hca hcb ha hb h0
    go_enter Tryd.func48, Tryd.ntmps48
    go_wp2
    go_loopw [5] (fun i wr => ∃ k : Nat, k ≤ l.length ∧ i = .int .i64 k ∧ Below w.heap.size w wr) (fun i _ => l.length - (intOf i).toNat)
    case atStart => exact ⟨0, Nat.zero_le _, rfl, Below.refl _ _⟩
    case round =>
      obtain ⟨k, hk, rfl, hb⟩ := hrel
      by_cases hlt : k < l.length
      · obtain ⟨e0, e1, e2, e3, e4⟩ := tiks_at l k hlt
        have c0 : wr.cell? ⟨a, oa + k * 5, none⟩ = some (.int .i64 (gth l k).i) := (hb.cell (p := ⟨a, oa + k * 5, none⟩) hla).trans (HA.out _ _ e0)
        have c1 : wr.cell? ⟨a, oa + k * 5 + 1, none⟩ = some (.int .i64 (gth l k).s) := (hb.cell (p := ⟨a, oa + k * 5 + 1, none⟩) hla).trans (HA.out _ _ e1)
        have c2 : wr.cell? ⟨a, oa + k * 5 + 2, none⟩ = some (.int .i64 (gth l k).w) := (hb.cell (p := ⟨a, oa + k * 5 + 2, none⟩) hla).trans (HA.out _ _ e2)
        have c3 : wr.cell? ⟨a, oa + k * 5 + 3, none⟩ = some (.int .i64 (gth l k).g) := (hb.cell (p := ⟨a, oa + k * 5 + 3, none⟩) hla).trans (HA.out _ _ e3)
        have c4 : wr.cell? ⟨a, oa + k * 5 + 4, none⟩ = some (.int .i64 (gth l k).p) := (hb.cell (p := ⟨a, oa + k * 5 + 4, none⟩) hla).trans (HA.out _ _ e4)
        have d0 : wr.cell? ⟨b, ob + k * 5, none⟩ = some (.int .i64 (gth l k).i) := (hb.cell (p := ⟨b, ob + k * 5, none⟩) hlb).trans (HB.out _ _ e0)
        have d1 : wr.cell? ⟨b, ob + k * 5 + 1, none⟩ = some (.int .i64 (gth l k).s) := (hb.cell (p := ⟨b, ob + k * 5 + 1, none⟩) hlb).trans (HB.out _ _ e1)
        have d2 : wr.cell? ⟨b, ob + k * 5 + 2, none⟩ = some (.int .i64 (gth l k).w) := (hb.cell (p := ⟨b, ob + k * 5 + 2, none⟩) hlb).trans (HB.out _ _ e2)
        have d3 : wr.cell? ⟨b, ob + k * 5 + 3, none⟩ = some (.int .i64 (gth l k).g) := (hb.cell (p := ⟨b, ob + k * 5 + 3, none⟩) hlb).trans (HB.out _ _ e3)
        have d4 : wr.cell? ⟨b, ob + k * 5 + 4, none⟩ = some (.int .i64 (gth l k).p) := (hb.cell (p := ⟨b, ob + k * 5 + 4, none⟩) hlb).trans (HB.out _ _ e4)
        clear e0 e1 e2 e3 e4
        go_wp2_with fail
        go_still_tail 8, (by kernel_rfl)
        change wpList _ _ _ _ _ wr.drew
        go_wp2_with fail
        refine (eqTicket_same (gth l k) wr.drew).mono ?_
        rintro e w1 ⟨rfl, hb1⟩
        go_wp2
        go_roundw
        case rel => exact ⟨k + 1, by omega, by go_num, hb.drew.trans (hb1.mono hb.size)⟩
        case measure => simp [intOf]; omega
      · go_wp2
        go_ret
        exact ⟨rfl, hb⟩
end Go.Proofs.YtpknodbkjjcdjaaDoor
