/- Slices of impl.BoardEvent: the helpers of the exact laws. Condition: sizes. -/
import Derived.Test.YtinlcbljpclccaaGS
import Derived.Test.YtinlcbljpclccaaMarkW
namespace Go.Proofs.Ytinlcbljpclccaa
open Go.RowKit
set_option linter.unusedVariables false
/-- A BoardEvent. -/
structure Bev where
  k : ByteArray
  c : Int
instance : Inhabited Bev := ⟨⟨ByteArray.empty, 0⟩⟩
def Bev.enc (x : Bev) : List Value := [.string x.k, .int .i64 x.c]
def Bev.agg (x : Bev) : Value := .agg #[.string x.k, .int .i64 x.c]
theorem Bev.enc_len (x : Bev) : x.enc.length = 2 := rfl
/-- Its numbers are in range. -/
def Bev.wf (x : Bev) : Prop := x.k.size ≤ maxLen ∧ (Lit.int .i64 x.c).wf = true
theorem Bev.ext {x y : Bev} (h0 : x.k = y.k) (h1 : x.c = y.c) : x = y := by cases x; cases y; simp_all
abbrev bevs (l : List Bev) : List Value := flat Bev.enc l
theorem bevs_len (l : List Bev) : (bevs l).length = l.length * 2 := flat_len Bev.enc_len l
theorem bevs_append (l r : List Bev) : bevs (l ++ r) = bevs l ++ bevs r := flat_append _ l r
theorem bevs_one (x : Bev) : bevs [x] = [.string x.k, .int .i64 x.c] := by simp [flat, Bev.enc]
theorem bevs_at (l : List Bev) (i : Nat) (hi : i < l.length) : (bevs l)[i * 2]? = some (.string (gth l i).k) ∧ (bevs l)[i * 2 + 1]? = some (.int .i64 (gth l i).c) :=
  ⟨flat_at Bev.enc_len default l i 0 hi (by decide), flat_at Bev.enc_len default l i 1 hi (by decide)⟩
theorem bevs_take_len (l : List Bev) (j : Nat) (h : j ≤ l.length) : (bevs (l.take j)).length = j * 2 := by rw [bevs_len, List.length_take, Nat.min_eq_left h]
theorem bevs_one_cell (l : List Bev) : ∀ v ∈ bevs l, v.oneCell' = true := by
  intro v hv
  obtain ⟨x, _, hx⟩ := List.mem_flatMap.1 hv
  simp [Bev.enc] at hx
  rcases hx with rfl | rfl <;> rfl
/-- The cells of a row. -/
def BevAt (w : World) (b off : Nat) (l : List Bev) : Prop := ∀ i, i < l.length →
  w.cell? ⟨b, off + i * 2, none⟩ = some (.string (gth l i).k) ∧ w.cell? ⟨b, off + i * 2 + 1, none⟩ = some (.int .i64 (gth l i).c)
theorem BevAt.below {w w' : World} {b off : Nat} {l : List Bev} {B : Nat} (h : BevAt w b off l) (hb : Below B w w') (hlt : b < B) : BevAt w' b off l := fun i hi =>
  ⟨(hb.cell (p := ⟨b, off + i * 2, none⟩) hlt).trans (h i hi).1, (hb.cell (p := ⟨b, off + i * 2 + 1, none⟩) hlt).trans (h i hi).2⟩
theorem BevAt.drew {w w' : World} {b off : Nat} {l : List Bev} (h : BevAt w b off l) (hd : Drew w w') : BevAt w' b off l := fun i hi =>
  ⟨(hd.cell _).trans (h i hi).1, (hd.cell _).trans (h i hi).2⟩
theorem BevAt.zero {w : World} {b off : Nat} {l : List Bev} (h : BevAt w b off l) (h0 : 0 < l.length) :
    w.cell? ⟨b, off, none⟩ = some (.string (gth l 0).k) ∧ w.cell? ⟨b, off + 1, none⟩ = some (.int .i64 (gth l 0).c) := by
  have := h 0 h0; simpa using this
theorem Rs.at_Bev {w : World} {v : Value} {l : List Bev} (h : Rs w v l.length (bevs l)) (h0 : l.length ≠ 0) :
    ∃ b off cap, v = .slice (some ⟨b, off, none⟩) l.length cap ∧ b < w.heap.size ∧ l.length ≤ maxLen ∧ BevAt w b off l := by
  obtain ⟨b, off, cap, rfl, hb, hc, hm, hx⟩ := h.pos h0
  refine ⟨b, off, cap, rfl, hb, hm, fun i hi => ?_⟩
  obtain ⟨e0, e1⟩ := bevs_at l i hi
  exact ⟨hx _ _ e0, hx _ _ e1⟩
/-- A row that may be empty: its address is told where there is an element. -/
theorem Rs.form_Bev {w : World} {v : Value} {l : List Bev} (h : Rs w v l.length (bevs l)) :
    ∃ ao b off cap, v = .slice ao l.length cap ∧ (0 < l.length → ao = some ⟨b, off, none⟩ ∧ b < w.heap.size ∧ l.length ≤ maxLen) ∧ BevAt w b off l := by
  by_cases h0 : l.length = 0
  · obtain ⟨a, ca, hv⟩ := h.shape
    exact ⟨a, 0, 0, ca, hv, fun h => by omega, fun i hi => by omega⟩
  · obtain ⟨b, off, cap, hv, hb, hm, hx⟩ := h.at_Bev h0
    exact ⟨_, b, off, cap, hv, fun _ => ⟨rfl, hb, hm⟩, hx⟩
theorem own_Bev {w : World} {B g cap : Nat} {T : TypeId} {l : List Bev} (h : w.ownsRow B T 2 (.slice (some ⟨g, 0, none⟩) l.length cap) l.length (bevs l)) : BevAt w g 0 l := by
  intro i hi
  obtain ⟨e0, e1⟩ := bevs_at l i hi
  simp only [Nat.zero_add]
  exact ⟨(h.cellAt (i * 2) (by omega)).trans e0, (h.cellAt (i * 2 + 1) (by omega)).trans e1⟩
theorem Bev_set (p xs : List Value) (j : Nat) (u0 u1 : Value) (hp : p.length = j * 2) (hx : (j + 1) * 2 ≤ xs.length) :
    (((p ++ xs.drop (j * 2)).set (j * 2) u0).set (j * 2 + 1) u1) = p ++ [u0, u1] ++ xs.drop ((j + 1) * 2) := by
  have h0 : j * 2 < xs.length := by omega
  have h1 : j * 2 + 1 < xs.length := by omega
  rw [List.drop_eq_getElem_cons h0, List.drop_eq_getElem_cons h1]
  rw [List.set_append_right _ _ (by omega), hp, List.set_append_right _ _ (by omega), hp]
  simp only [Nat.sub_self, Nat.add_sub_cancel_left, List.set_cons_zero, List.set_cons_succ, List.append_assoc, List.cons_append, List.nil_append]
  rw [show j * 2 + 1 + 1 = (j + 1) * 2 by omega]
theorem Try.infoBev : (Try.prog.info? 35).map (fun i => (i.zero, i.size, i.bytes)) = some (some (.agg #[.string ⟨#[]⟩, .int .i64 0]), 2, 24) := by kernel_rfl
theorem box_Bev (w : World) (x : Bev) (t : TypeId) (g : Nat) (hg : g = w.heap.size) (W : World) (h : Below (g + 1) (w.alloc (.cells #[.string x.k, .int .i64 x.c] t)) W) :
    W.cell? ⟨g, 0, none⟩ = some (.string x.k) ∧ W.cell? ⟨g, 1, none⟩ = some (.int .i64 x.c) := by
  subst hg
  refine ⟨?_, ?_⟩ <;> (rw [h.cell (by simp), World.cell?_alloc_at _ _ _ _ rfl]; rfl)
theorem ret_iBev {a b : Int} (h : a = b) : Ending.returned (.int .i64 a) = .returned (.int .i64 b) := by rw [h]
/-- The bytes of its texts. -/
def Bev.txt (x : Bev) : Nat := x.k.size
def totBev (l : List Bev) : Nat := (l.map Bev.txt).sum
theorem totBev_nil : totBev [] = 0 := rfl
theorem totBev_take (l : List Bev) (k : Nat) (h : k < l.length) : totBev (l.take (k + 1)) = totBev (l.take k) + (gth l k).txt := by
  rw [take_gth l k h]; simp [totBev]
theorem totBev_take_le (l : List Bev) (k : Nat) : totBev (l.take k) ≤ totBev l := by
  have h := congrArg totBev (List.take_append_drop k l)
  unfold totBev at h ⊢
  rw [List.map_append, List.sum_append] at h
  omega
set_option maxHeartbeats 400000 in
theorem szBoardEvent_ok (x : Bev) (left : Int) (w : World) (hl : left ≤ 1048576) (h : (x.txt : Int) ≤ left) :
    Calls Try.prog 31 #[.agg #[.string x.k, .int .i64 x.c], .int .i64 left] w fun e w' => e = .returned (.int .i64 (left - (x.txt : Int))) ∧ Below w.heap.size w w' := by
  unfold Bev.txt at h ⊢
  go_enter Try.func31, Try.ntmps31
  go_wp2
  go_ret
  exact ⟨ret_iBev (by omega), (Below.refl _ _).alloc (Nat.le_refl _) _⟩
set_option maxHeartbeats 400000 in
theorem szBoardEvent_big (x : Bev) (left : Int) (w : World) (hl : left ≤ 1048576) (h0 : 0 ≤ left) (hw : x.k.size ≤ maxLen) (h : left < (x.txt : Int)) :
    Calls Try.prog 31 #[.agg #[.string x.k, .int .i64 x.c], .int .i64 left] w fun e w' => e = .returned (.int .i64 (-1)) ∧ Below w.heap.size w w' := by
  unfold Bev.txt at h
  unfold maxLen at hw
  go_enter Try.func31, Try.ntmps31
  go_wp2
  go_ret
  exact ⟨rfl, (Below.refl _ _).alloc (Nat.le_refl _) _⟩
set_option maxHeartbeats 400000 in
theorem szBoardEventS_okN (v : Value) (l : List Bev) (left : Nat) (w : World) (hr : Rs w v l.length (bevs l)) (hl : left ≤ 1048576) (h : l.length + totBev l ≤ left) :
    Calls Try.prog 34 #[v, .int .i64 (left : Int)] w fun e w' => e = .returned (.int .i64 ((left - (l.length + totBev l) : Nat) : Int)) ∧ Below w.heap.size w w' := by
  by_cases h0 : l.length = 0
  · obtain rfl := List.eq_nil_of_length_eq_zero h0
    obtain ⟨a, ca, rfl⟩ := hr.zero
    clear hr h0
    simp only [List.length_nil, Nat.zero_add, totBev_nil, Nat.sub_zero]
    go_enter Try.func34, Try.ntmps34
    go_wp2
    refine wp_loop_rounds 1 ?_
    rw [rounds_succ]
    go_wp2
    go_ret
    exact ⟨rfl, Below.refl _ _⟩
  · obtain ⟨a, oa, ca, rfl, hla, hcap, hm, hca⟩ := hr.pos h0
    have HA := Lib.hid hca
    clear hca hr h0
    go_enter Try.func34, Try.ntmps34
    go_wp2
    go_loopw [1, 5] (fun s i wr => ∃ k : Nat, k ≤ l.length ∧ i = .int .i64 k ∧ s = .int .i64 ((left - (l.length + totBev (l.take k)) : Nat) : Int) ∧ Below w.heap.size w wr) (fun _ i _ => l.length - (intOf i).toNat)
    case atStart => exact ⟨0, Nat.zero_le _, rfl, by simp [totBev]; omega, Below.refl _ _⟩
    case round =>
      obtain ⟨k, hk, rfl, rfl, hb⟩ := hrel
      by_cases hlt : k < l.length
      · obtain ⟨e0, e1⟩ := bevs_at l k hlt
        have c0 : wr.cell? ⟨a, oa + k * 2, none⟩ = some (.string (gth l k).k) := (hb.cell (p := ⟨a, oa + k * 2, none⟩) hla).trans (HA.out _ _ e0)
        have c1 : wr.cell? ⟨a, oa + k * 2 + 1, none⟩ = some (.int .i64 (gth l k).c) := (hb.cell (p := ⟨a, oa + k * 2 + 1, none⟩) hla).trans (HA.out _ _ e1)
        clear e0 e1
        have hs1 := totBev_take l k hlt
        have hs2 := totBev_take_le l (k + 1)
        have HS := Lib.hid hs1
        have hle : totBev (l.take k) + (gth l k).txt + l.length ≤ left := by omega
        clear hs1 hs2
        go_wp2_with fail
        refine (szBoardEvent_ok (gth l k) _ _ (by omega) (by omega)).mono ?_
        rintro e w1 ⟨rfl, hb1⟩
        go_wp2
        go_roundw
        case rel => exact ⟨k + 1, by omega, by go_num, by rw [HS.out]; go_num, hb.trans (hb1.mono hb.size)⟩
        case measure => simp [intOf]; omega
      · obtain rfl : k = l.length := by omega
        go_wp2
        go_ret
        exact ⟨ret_iBev (by simp), hb⟩
set_option maxHeartbeats 400000 in
theorem szBoardEventS_bigN (v : Value) (l : List Bev) (left : Nat) (w : World) (hr : Rs w v l.length (bevs l)) (hl : left ≤ 1048576) (hln : l.length ≤ maxLen) (hz : ∀ x ∈ l, x.k.size ≤ maxLen) (h : left < l.length + totBev l) :
    Calls Try.prog 34 #[v, .int .i64 (left : Int)] w fun e w' => e = .returned (.int .i64 (-1)) ∧ Below w.heap.size w w' := by
  have h0 : l.length ≠ 0 := by intro h0; obtain rfl := List.eq_nil_of_length_eq_zero h0; simp [totBev] at h
  obtain ⟨a, oa, ca, rfl, hla, hcap, hm, hca⟩ := hr.pos h0
  have HA := Lib.hid hca
  have HZ := Lib.hid hz
  clear hca hr h0 hz
  unfold maxLen at hln
  by_cases hbig : left < l.length
  · clear h
    go_enter Try.func34, Try.ntmps34
    go_wp2
    go_ret
    exact ⟨rfl, Below.refl _ _⟩
  · go_enter Try.func34, Try.ntmps34
    go_wp2
    go_loopw [1, 5] (fun s i wr => ∃ k : Nat, k ≤ l.length ∧ i = .int .i64 k ∧ s = .int .i64 ((left - (l.length + totBev (l.take k)) : Nat) : Int) ∧ l.length + totBev (l.take k) ≤ left ∧ Below w.heap.size w wr) (fun _ i _ => l.length - (intOf i).toNat)
    case atStart => exact ⟨0, Nat.zero_le _, rfl, by simp [totBev]; omega, by simp [totBev]; omega, Below.refl _ _⟩
    case round =>
      obtain ⟨k, hk, rfl, rfl, hle, hb⟩ := hrel
      by_cases hlt : k < l.length
      · obtain ⟨e0, e1⟩ := bevs_at l k hlt
        have c0 : wr.cell? ⟨a, oa + k * 2, none⟩ = some (.string (gth l k).k) := (hb.cell (p := ⟨a, oa + k * 2, none⟩) hla).trans (HA.out _ _ e0)
        have c1 : wr.cell? ⟨a, oa + k * 2 + 1, none⟩ = some (.int .i64 (gth l k).c) := (hb.cell (p := ⟨a, oa + k * 2 + 1, none⟩) hla).trans (HA.out _ _ e1)
        clear e0 e1
        have HS := Lib.hid (totBev_take l k hlt)
        have HW := Lib.hid (HZ.out (gth l k) (gth_mem hlt))
        by_cases hover : left < l.length + totBev (l.take k) + (gth l k).txt
        · clear h
          go_wp2_with fail
          refine (szBoardEvent_big (gth l k) _ _ (by omega) (by omega) HW.out (by omega)).mono ?_
          rintro e w1 ⟨rfl, hb1⟩
          go_wp2
          go_ret
          exact ⟨rfl, hb.trans (hb1.mono hb.size)⟩
        · go_wp2_with fail
          refine (szBoardEvent_ok (gth l k) _ _ (by omega) (by omega)).mono ?_
          rintro e w1 ⟨rfl, hb1⟩
          go_wp2
          go_roundw
          case rel => exact ⟨k + 1, by omega, by go_num, by rw [HS.out]; go_num, by rw [HS.out]; omega, hb.trans (hb1.mono hb.size)⟩
          case measure => simp [intOf]; omega
      · exfalso
        obtain rfl : k = l.length := by omega
        rw [List.take_length] at hle
        omega
theorem szBoardEventS_ok (v : Value) (l : List Bev) (left : Int) (w : World) (hr : Rs w v l.length (bevs l)) (hl : left ≤ 1048576) (h : ((l.length + totBev l : Nat) : Int) ≤ left) :
    Calls Try.prog 34 #[v, .int .i64 left] w fun e w' => e = .returned (.int .i64 (left - ((l.length + totBev l : Nat) : Int))) ∧ Below w.heap.size w w' := by
  obtain ⟨n, rfl⟩ := Int.eq_ofNat_of_zero_le (by omega : 0 ≤ left)
  refine (szBoardEventS_okN v l n w hr (by omega) (by omega)).mono ?_
  rintro e w' ⟨rfl, hb⟩
  exact ⟨ret_iBev (by omega), hb⟩
theorem szBoardEventS_big (v : Value) (l : List Bev) (left : Int) (w : World) (hr : Rs w v l.length (bevs l)) (hl : left ≤ 1048576) (hl0 : 0 ≤ left) (hln : l.length ≤ maxLen) (hz : ∀ x ∈ l, x.k.size ≤ maxLen) (h : left < ((l.length + totBev l : Nat) : Int)) :
    Calls Try.prog 34 #[v, .int .i64 left] w fun e w' => e = .returned (.int .i64 (-1)) ∧ Below w.heap.size w w' := by
  obtain ⟨n, rfl⟩ := Int.eq_ofNat_of_zero_le hl0
  exact szBoardEventS_bigN v l n w hr (by omega) hln hz (by omega)
set_option maxHeartbeats 400000 in
theorem toBoardEvent_any (x : Bev) (w : World) :
    Calls Try.prog 32 #[.agg #[.string x.k, .int .i64 x.c]] w fun e w' => e = .returned (.agg #[.string x.k, .int .i64 x.c]) ∧ Below w.heap.size w w' := by
  go_enter Try.func32, Try.ntmps32
  go_wp2
  refine bodyPost_ret (v := .agg #[.string x.k, .int .i64 x.c]) (by simp [results, Try.results32, go_sem]) rfl ⟨rfl, ?_⟩
  first | exact (((Below.refl _ _).alloc (Nat.le_refl _) _).alloc (by simp) _).alloc (by simp; omega) _ | exact ((Below.refl _ _).alloc (Nat.le_refl _) _).alloc (by simp) _
set_option maxHeartbeats 400000 in
theorem toBoardEventS_any (v : Value) (l : List Bev) (w : World) (hr : Rs w v l.length (bevs l)) (hln : l.length ≤ 1048576) :
    Calls Try.prog 35 #[v] w fun e w' => ∃ v', e = .returned v' ∧ w'.ownsRow w.heap.size 35 2 v' l.length (bevs l) ∧ Below w.heap.size w w' := by
  obtain ⟨i0, hi, hz0, hz1, hz2⟩ := info_parts Try.infoBev
  by_cases h0 : l.length = 0
  · obtain rfl := List.eq_nil_of_length_eq_zero h0
    obtain ⟨a, ca, rfl⟩ := hr.zero
    clear hr h0
    go_enter Try.func35, Try.ntmps35
    go_wp2_with (at_make; refine wpList_make_full _ rfl _ _ 26 rfl w.heap.size 35 i0 (.agg #[.string ⟨#[]⟩, .int .i64 0]) 2 Try.underlying26 hi hz0 hz1 _ _ _ _ 0 rfl rfl (by simp) (by simp) (by omega) (by unfold maxLen; omega) (Nat.le_refl _) ?_; intro w0 hown0 hgrow0)
    refine wp_loop_rounds 1 ?_
    rw [rounds_succ]
    go_wp2
    go_ret
    exact ⟨_, rfl, by simpa [madeCells, flat] using hown0, (Below.refl _ _).grown hgrow0 (Nat.le_refl _) (fun k h => by cases h)⟩
  · obtain ⟨a, oa, ca, rfl, hla, hcap, hm, hca⟩ := hr.pos h0
    have HA := Lib.hid hca
    clear hca hr h0
    go_enter Try.func35, Try.ntmps35
    go_wp2_with (at_make; refine wpList_make_full _ rfl _ _ 26 rfl w.heap.size 35 i0 (.agg #[.string ⟨#[]⟩, .int .i64 0]) 2 Try.underlying26 hi hz0 hz1 _ _ _ _ l.length rfl rfl rfl rfl (by rw [hz2]; omega) (by unfold maxLen; omega) (Nat.le_refl _) ?_; intro w0 hown0 hgrow0)
    have hb0 := (Below.refl w.heap.size w).grown hgrow0 (Nat.le_refl _) (fun k h => by cases h)
    have hxl : (madeCells (Value.agg #[.string ⟨#[]⟩, .int .i64 0]).cells (l.length * 2)).toList.length = l.length * 2 := hown0.1
    generalize (madeCells (Value.agg #[.string ⟨#[]⟩, .int .i64 0]).cells (l.length * 2)).toList = xs at hown0 hxl
    clear hgrow0
    go_loopw [4] (fun i wr => ∃ j : Nat, j ≤ l.length ∧ i = .int .i64 j ∧ wr.ownsRow w.heap.size 35 2 (.slice (some ⟨w.heap.size, 0, none⟩) l.length l.length) l.length (bevs (l.take j) ++ xs.drop (j * 2)) ∧ Below w.heap.size w wr) (fun i _ => l.length - (intOf i).toNat)
    case atStart => exact ⟨0, Nat.zero_le _, rfl, by simpa [flat] using hown0, hb0⟩
    case round =>
      obtain ⟨j, hj, rfl, ho, hb⟩ := hrel
      by_cases hlt : j < l.length
      · obtain ⟨e0, e1⟩ := bevs_at l j hlt
        have c0 : wr.cell? ⟨a, oa + j * 2, none⟩ = some (.string (gth l j).k) := (hb.cell (p := ⟨a, oa + j * 2, none⟩) hla).trans (HA.out _ _ e0)
        have c1 : wr.cell? ⟨a, oa + j * 2 + 1, none⟩ = some (.int .i64 (gth l j).c) := (hb.cell (p := ⟨a, oa + j * 2 + 1, none⟩) hla).trans (HA.out _ _ e1)
        clear e0 e1
        have HX : Hid ((((bevs (l.take j) ++ xs.drop (j * 2)).set (j * 2) (.string (gth l j).k)).set (j * 2 + 1) (.int .i64 (gth l j).c)) = bevs (l.take (j + 1)) ++ xs.drop ((j + 1) * 2)) := by
          rw [Hid, Bev_set _ _ _ _ _ (bevs_take_len l j hj) (by omega), take_gth l j hlt, bevs_append, bevs_one]
        have hu0 : j * 2 + 1 < (bevs (l.take j) ++ xs.drop (j * 2)).length := by simp [bevs_take_len l j hj]; omega
        go_wp2_with fail
        refine (toBoardEvent_any (gth l j) _).mono ?_
        rintro e w1 ⟨rfl, hb1⟩
        have ho1 := owns_below ho hb1
        have k0 := (ho1.cellAt (j * 2) (by omega)).trans (List.getElem?_eq_getElem (by omega))
        have k1 := (ho1.cellAt (j * 2 + 1) (by omega)).trans (List.getElem?_eq_getElem (by omega))
        have f0 := ho1.frozenAt (j * 2)
        have f1 := ho1.frozenAt (j * 2 + 1)
        have hst := (((ho1.stored (j * 2) (.string (gth l j).k)).1.stored (j * 2 + 1) (.int .i64 (gth l j).c))).1
        rw [HX.out] at hst
        go_wp2
        go_roundw
        case rel => exact ⟨j + 1, by omega, by go_num, hst, (((hb.trans (hb1.mono hb.size)).setCell (Nat.le_refl _) _).setCell (Nat.le_refl _) _)⟩
        case measure => simp [intOf]; omega
      · obtain rfl : j = l.length := by omega
        go_wp2
        go_ret
        exact ⟨_, rfl, by rw [List.take_length, List.drop_of_length_le (by omega), List.append_nil] at ho; exact ho, hb⟩
set_option maxHeartbeats 400000 in
theorem eqBoardEvent_same (x : Bev) (w : World) :
    Calls Try.prog 61 #[.agg #[.string x.k, .int .i64 x.c], .agg #[.string x.k, .int .i64 x.c]] w fun e w' => e = .returned (.bool true) ∧ Below w.heap.size w w' := by
  go_enter Try.func61, Try.ntmps61
  go_wp2
  go_ret
  exact ⟨rfl, ((Below.refl _ _).alloc (Nat.le_refl _) _).alloc (by simp) _⟩
set_option maxRecDepth 100000 in
set_option maxHeartbeats 400000 in
theorem eqBoardEventS_same (va vb : Value) (l : List Bev) (w : World) (ha : Rs w va l.length (bevs l)) (hb : Rs w vb l.length (bevs l)) :
    Calls Try.prog 36 #[va, vb] w fun e w' => e = .returned (.bool true) ∧ Below w.heap.size w w' := by
  by_cases h0 : l.length = 0
  · obtain rfl := List.eq_nil_of_length_eq_zero h0
    obtain ⟨a, ca, rfl⟩ := ha.zero
    obtain ⟨b, cb, rfl⟩ := hb.zero
    clear ha hb h0
    go_enter Try.func36, Try.ntmps36
    go_wp2
    refine wp_loop_rounds 1 ?_
    rw [rounds_succ]
    go_wp2
    go_ret
    exact ⟨rfl, Below.refl _ _⟩
  · obtain ⟨a, oa, ca, rfl, hla, hcap, hm, hca⟩ := ha.pos h0
    obtain ⟨b, ob, cb, rfl, hlb, _, _, hcb⟩ := hb.pos h0
    unfold maxLen at hm
    have HA := Lib.hid hca
    have HB := Lib.hid hcb
    clear hca hcb ha hb h0
    go_enter Try.func36, Try.ntmps36
    go_wp2
    go_loopw [5] (fun i wr => ∃ k : Nat, k ≤ l.length ∧ i = .int .i64 k ∧ Below w.heap.size w wr) (fun i _ => l.length - (intOf i).toNat)
    case atStart => exact ⟨0, Nat.zero_le _, rfl, Below.refl _ _⟩
    case round =>
      obtain ⟨k, hk, rfl, hb⟩ := hrel
      by_cases hlt : k < l.length
      · obtain ⟨e0, e1⟩ := bevs_at l k hlt
        have c0 : wr.cell? ⟨a, oa + k * 2, none⟩ = some (.string (gth l k).k) := (hb.cell (p := ⟨a, oa + k * 2, none⟩) hla).trans (HA.out _ _ e0)
        have c1 : wr.cell? ⟨a, oa + k * 2 + 1, none⟩ = some (.int .i64 (gth l k).c) := (hb.cell (p := ⟨a, oa + k * 2 + 1, none⟩) hla).trans (HA.out _ _ e1)
        have d0 : wr.cell? ⟨b, ob + k * 2, none⟩ = some (.string (gth l k).k) := (hb.cell (p := ⟨b, ob + k * 2, none⟩) hlb).trans (HB.out _ _ e0)
        have d1 : wr.cell? ⟨b, ob + k * 2 + 1, none⟩ = some (.int .i64 (gth l k).c) := (hb.cell (p := ⟨b, ob + k * 2 + 1, none⟩) hlb).trans (HB.out _ _ e1)
        clear e0 e1
        go_wp2_with fail
        go_still_tail 8, (by kernel_rfl)
        change wpList _ _ _ _ _ wr.drew
        go_wp2_with fail
        refine (eqBoardEvent_same (gth l k) wr.drew).mono ?_
        rintro e w1 ⟨rfl, hb1⟩
        go_wp2
        go_roundw
        case rel => exact ⟨k + 1, by omega, by go_num, hb.drew.trans (hb1.mono hb.size)⟩
        case measure => simp [intOf]; omega
      · go_wp2
        go_ret
        exact ⟨rfl, hb⟩
end Go.Proofs.Ytinlcbljpclccaa
