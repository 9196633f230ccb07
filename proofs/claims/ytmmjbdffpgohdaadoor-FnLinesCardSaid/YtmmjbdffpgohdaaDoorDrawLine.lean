/- The drawn line. Condition: sizes. -/
import Derived.Test.YtmmjbdffpgohdaaDoorCurAm
import Derived.Test.YtmmjbdffpgohdaaDoorReverseC
import Derived.Deep.LoopGhost
import Derived.Deep.DeepCutAuto
namespace Go.Proofs.YtmmjbdffpgohdaaDoor
open Go.RowKit
set_option linter.unusedVariables false
theorem sups_set_s : ∀ (l : List Sup) (i : Nat) (x : Bool), i < l.length → sups (l.set i ⟨(nth l i).a, (nth l i).h, x⟩) = (sups l).set (i * 3 + 2) (.bool x)
  | [], i, x, h => by simp at h
  | y :: r, 0, x, _ => by simp [flat, Sup.enc, nth]
  | y :: r, i + 1, x, h => by
    have ih := sups_set_s r i x (by simpa using h)
    have e0 : sups (y :: r) = y.enc ++ sups r := by simp [flat]
    have hn : nth (y :: r) (i + 1) = nth r i := by simp [nth]
    have e1 : sups ((y :: r).set (i + 1) ⟨(nth r i).a, (nth r i).h, x⟩) = y.enc ++ sups (r.set i ⟨(nth r i).a, (nth r i).h, x⟩) := by simp [flat]
    rw [hn, e1, ih, e0]
    have hl : y.enc.length = 3 := rfl
    rw [List.set_append_right _ _ (by omega), hl]
    rw [show (i + 1) * 3 + 2 - 3 = i * 3 + 2 by omega]
abbrev StL (B b k : Nat) (w W : World) (v : Value) (l : List Sup) : Prop := St 33 3 B b k w W v l.length (sups l)
/-- The row lies at block g and reads as l. -/
structure StN (B b k : Nat) (w W : World) (g cap n : Nat) (l : List Sup) : Prop where
  st : St 33 3 B b k w W (.slice (some ⟨g, 0, none⟩) n cap) n (sups l)
  len : l.length = n
theorem StN.set3 {B b k g cap n : Nat} {w W : World} {l : List Sup} (h : StN B b k w W g cap n l) (i : Nat) (hi : i < n) (x : Sup) :
    StN B b k w (((W.setCell ⟨g, i * 3, none⟩ (.int .i64 x.a)).setCell ⟨g, i * 3 + 1, none⟩ (.int .i64 x.h)).setCell ⟨g, i * 3 + 2, none⟩ (.bool x.s)) g cap n (l.set i x) := by
  have q1 := h.st.own.stored (i * 3) (.int .i64 x.a)
  have q2 := q1.1.stored (i * 3 + 1) (.int .i64 x.h)
  have q3 := q2.1.stored (i * 3 + 2) (.bool x.s)
  have q4 := q3.1
  rw [← sups_set l i x (by rw [h.len]; exact hi)] at q4
  exact ⟨St.app h.st q4 (((q1.2).trans q2.2).trans q3.2), by simp [h.len]⟩
theorem StN.setS {B b k g cap n : Nat} {w W : World} {l : List Sup} (h : StN B b k w W g cap n l) (i : Nat) (hi : i < n) (x : Bool) :
    StN B b k w (W.setCell ⟨g, i * 3 + 2, none⟩ (.bool x)) g cap n (l.set i ⟨(nth l i).a, (nth l i).h, x⟩) := by
  have q1 := h.st.own.stored (i * 3 + 2) (.bool x)
  have q4 := q1.1
  rw [← sups_set_s l i x (by rw [h.len]; exact hi)] at q4
  exact ⟨St.app h.st q4 q1.2, by simp [h.len]⟩
theorem StN.call {B b k k' g cap n : Nat} {w W W' : World} {l : List Sup} (h : StN B b k w W g cap n l) (hc : Cur B b k' W') (hg : W.grownBy W' (some b)) : StN B b k' w W' g cap n l := ⟨h.st.call hc hg, h.len⟩
theorem StN.alloc {B b k g cap n : Nat} {w W : World} {l : List Sup} (h : StN B b k w W g cap n l) (o : Obj) : StN B b k w (W.alloc o) g cap n l := ⟨h.st.alloc o, h.len⟩
/-- The cells of element i: what the walk asks of them. -/
theorem StN.cells {B b k g cap n : Nat} {w W : World} {l : List Sup} (h : StN B b k w W g cap n l) (i : Nat) (hi : i < n) :
    (∃ v, W.cell? ⟨g, i * 3, none⟩ = some v) ∧ (∃ v, W.cell? ⟨g, i * 3 + 1, none⟩ = some v) ∧ (∃ v, W.cell? ⟨g, i * 3 + 2, none⟩ = some v) ∧
    W.frozen? ⟨g, i * 3, none⟩ = false ∧ W.frozen? ⟨g, i * 3 + 1, none⟩ = false ∧ W.frozen? ⟨g, i * 3 + 2, none⟩ = false := by
  obtain ⟨e0, e1, e2⟩ := sups_at l i (by rw [h.len]; exact hi)
  exact ⟨⟨_, (h.st.own.cellAt (i * 3) (by omega)).trans e0⟩, ⟨_, (h.st.own.cellAt (i * 3 + 1) (by omega)).trans e1⟩, ⟨_, (h.st.own.cellAt (i * 3 + 2) (by omega)).trans e2⟩, h.st.own.frozenAt _, h.st.own.frozenAt _, h.st.own.frozenAt _⟩
/-- The first element alone. -/
theorem StN.one {B b k g cap n : Nat} {w W : World} {l : List Sup} (h : StN B b k w W g cap n l) (hn : 0 < n) : StN B b k w W g cap 1 (l.take 1) := by
  refine ⟨⟨h.st.cur, ?_, h.st.gr, h.st.lt⟩, by rw [List.length_take, h.len]; omega⟩
  rcases h.st.own.2 with ⟨h', _⟩ | ⟨g', cap', cur, h', hbg, hg, hnc, hcm, hcs, htake⟩
  · simp at h'
  · simp only [Value.slice.injEq, Option.some.injEq, Addr.mk.injEq, and_true, true_and] at h'
    obtain ⟨rfl, rfl⟩ := h'
    have e : cur.toList.take (1 * 3) = sups (l.take 1) := by
      have h1 : (sups l).take 3 = sups (l.take 1) := by
        cases l with
        | nil => simp [flat]
        | cons x r => simp [flat, Sup.enc]
      rw [← h1, ← htake, List.take_take]
      congr 1
      omega
    refine ⟨by rw [← e, List.length_take]; have : cur.toList.length = cap * 3 := by simpa using hcs
               omega, .inr ⟨g, cap, cur, rfl, hbg, hg, by omega, hcm, hcs, e⟩⟩
theorem Bd.take {l : List Sup} (h : ∀ x ∈ l, -5000 ≤ x.a ∧ x.a ≤ 5000) (m : Nat) : ∀ x ∈ l.take m, -5000 ≤ x.a ∧ x.a ≤ 5000 := fun x hx => h x (List.mem_of_mem_take hx)
theorem StN.block {B b k g cap n : Nat} {w W : World} {l : List Sup} (h : StN B b k w W g cap n l) : g < W.heap.size := (h.st.own.lt g rfl).2
theorem StL.shape {B b k : Nat} {w W : World} {v : Value} {l : List Sup} (h : StL B b k w W v l) (h0 : 0 < l.length) : ∃ g cap, v = .slice (some ⟨g, 0, none⟩) l.length cap ∧ g < W.heap.size ∧ l.length ≤ cap ∧ cap ≤ maxLen := by
  rcases h.own.2 with ⟨_, h1⟩ | ⟨g, cap, cur, rfl, hb, hg, hn, hcm, _⟩
  · omega
  · exact ⟨g, cap, rfl, (Array.getElem?_eq_some_iff.1 hg).1, hn, hcm⟩
/-- The places stay within bounds. -/
def Bd (l : List Sup) : Prop := ∀ x ∈ l, -5000 ≤ x.a ∧ x.a ≤ 5000
theorem Bd.get {l : List Sup} (h : Bd l) {i : Nat} (hi : i < l.length) : -5000 ≤ (nth l i).a ∧ (nth l i).a ≤ 5000 := by
  apply h
  have e : nth l i = l[i] := by simp [nth, List.getD, hi]
  rw [e]
  exact List.getElem_mem hi
theorem Bd.set {l : List Sup} (h : Bd l) {i : Nat} {x : Sup} (hx : -5000 ≤ x.a ∧ x.a ≤ 5000) : Bd (l.set i x) := by
  intro y hy
  rcases List.mem_or_eq_of_mem_set hy with h1 | h1
  · exact h y h1
  · subst h1; exact hx
theorem Bd.app {l : List Sup} (h : Bd l) {x : Sup} (hx : -5000 ≤ x.a ∧ x.a ≤ 5000) : Bd (l ++ [x]) := by
  intro y hy
  rcases List.mem_append.1 hy with h1 | h1
  · exact h y h1
  · simp at h1; subst h1; exact hx
def LnPost (B b k : Nat) (w : World) (e : Ending) (w' : World) : Prop := ∃ (v : Value) (l : List Sup), e = .returned v ∧ StL B b (k + 200) w w' v l ∧ (1 ≤ l.length ∧ l.length ≤ 9) ∧ Bd l
theorem LnPost.mk {B b k kk : Nat} {w w' : World} {v : Value} {l : List Sup} (h : StL B b (k + kk) w w' v l) (hk : kk ≤ 200) (h1 : 1 ≤ l.length ∧ l.length ≤ 9) (hb : Bd l) : LnPost B b k w (.returned v) w' :=
  ⟨v, l, rfl, h.more (by omega), h1, hb⟩
theorem LnPost.mkN {B b k kk g cap n : Nat} {w w' : World} {l : List Sup} (h : StN B b (k + kk) w w' g cap n l) (hk : kk ≤ 200) (h1 : 1 ≤ n ∧ n ≤ 9) (hb : Bd l) : LnPost B b k w (.returned (.slice (some ⟨g, 0, none⟩) n cap)) w' := by
  refine ⟨_, l, rfl, ?_, by rw [h.len]; exact h1, hb⟩
  have := h.st.more (k' := k + 200) (by omega)
  unfold StL
  rw [h.len]
  exact this
set_option maxRecDepth 100000 in
set_option maxHeartbeats 4000000 in
theorem line_any (B b k : Nat) (w : World) (h : Cur B b k w) (hk : k ≤ 800000000) :
    Calls Tryd.prog 28 #[.pointer (some ⟨b, 0, none⟩)] w (LnPost B b k w) := by
  obtain ⟨i0, hi, hz0, hz1, hz2⟩ := info_parts Tryd.infoSup
  have HH := Lib.hid h
  have hb := h.2.1
  clear h
  go_enter Tryd.func28, Tryd.ntmps28
  go_wp2_with fail
  refine (among_any B b k w.heap.size 3 3 [400, 500, 1000] _ (HH.out.alloc _) (by omega) rfl (by omega) (by omega) (by omega) (num_cells w 3 [400, 500, 1000] _ rfl)).mono ?_
  rintro e w1 ⟨x, hx, rfl, hc, hg⟩
  have hxb : 400 ≤ x ∧ x ≤ 1000 := by simp at hx; omega
  have hg1 := grown_trans (World.grownBy_alloc w (.cells #[.int .i64 400, .int .i64 500, .int .i64 1000] 3) (some b)) hg
  have S1 : Hid (StL B b (k + 2) w (w1.alloc (.cells #[.int .i64 0, .int .i64 x, .bool true] 33)) (.slice (some ⟨w1.heap.size, 0, none⟩) 1 1) [⟨0, x, true⟩]) :=
    Lib.hid ⟨hc.alloc _, World.ownsRow_lit w1 #[.int .i64 0, .int .i64 x, .bool true] 1 hg1.size (by unfold maxLen; omega) rfl, grown_trans hg1 (World.grownBy_alloc w1 _ _), hb⟩
  have c1 : (w1.alloc (.cells #[.int .i64 0, .int .i64 x, .bool true] 33)).cell? ⟨w1.heap.size, 1, none⟩ = some (.int .i64 x) := by rw [World.cell?_alloc_at _ _ _ _ rfl]; rfl
  clear hx hc hg hg1
  go_upto_region 2 with (fail)
  generalize w1.alloc (.cells #[.int .i64 0, .int .i64 x, .bool true] 33) = W2 at *
  generalize w1.heap.size = g at *
  go_quiet (fail)
  have S2 : Hid (StL B b (k + 2) w (W2.drewN nq) (.slice (some ⟨g, 0, none⟩) 1 1) [⟨0, x, true⟩]) := Lib.hid (S1.out.drew nq)
  clear S1 c1
  generalize W2.drewN nq = W3 at *
  go_wp2_with fail
  refine (pick_any B b (k + 2) 4 W3 S2.out.cur (by omega) (by omega) (by omega)).mono ?_
  rintro e w4 ⟨r, rfl, hr, hc, hg⟩
  have S4 := Lib.hid (S2.out.call hc hg)
  clear S2 hc hg
  have hB0 : Bd [⟨0, x, true⟩] := fun y hy => by simp at hy; subst hy; simp
  have hm0 : 1 + (r : Int) ≤ 4 := by omega
  go_wp2_with fail
  go_loopw [3, 4, 5, 6] (fun v at_ ht n wr => ∃ (m kk : Nat) (A H : Int) (l : List Sup), n = .int .i64 (m : Int) ∧ at_ = .int .i64 A ∧ ht = .int .i64 H ∧ (0 ≤ A ∧ A + 400 * (m : Int) ≤ 1600) ∧ (0 ≤ H ∧ H + 200 * (m : Int) ≤ 1800) ∧ (1 ≤ l.length ∧ l.length + m ≤ 5) ∧ kk + 6 * m ≤ 30 ∧ Bd l ∧ Hid (StL B b (k + kk) w wr v l)) (fun _ _ _ n _ => (intOf n).toNat)
  case atStart =>
    refine ⟨r + 1, 4, 0, x, [⟨0, x, true⟩], by go_num, rfl, rfl, by omega, by omega, by simp; omega, by omega, hB0, S4⟩
  case round =>
    obtain ⟨m, kk, A, H, l, rfl, rfl, rfl, hA, hH, hl, hkk, hBd, S5⟩ := hrel
    by_cases hm : 0 < m
    · have hmi : (0 : Int) < (m : Int) := by omega
      have hbw := S5.out.cur.2.1
      go_wp2_with fail
      refine (among_any B b (k + kk) wr.heap.size 6 6 [10, 50, 100, 120, 300, 400] _ (S5.out.cur.alloc _) (by omega) rfl (by omega) (by omega) (by omega) (num_cells wr 3 [10, 50, 100, 120, 300, 400] _ rfl)).mono ?_
      rintro e w5 ⟨y, hy, rfl, hc, hg⟩
      have hyb : 10 ≤ y ∧ y ≤ 400 := by simp at hy; omega
      have S6 := Lib.hid ((S5.out.alloc (.cells #[.int .i64 10, .int .i64 50, .int .i64 100, .int .i64 120, .int .i64 300, .int .i64 400] 3)).call hc hg)
      clear S5 hc hg hy hbw
      have hbw := S6.out.cur.2.1
      go_wp2_with fail
      refine (among_any B b (k + kk + 2) w5.heap.size 7 7 [0, 10, 50, 100, 200, -20, -60] _ (S6.out.cur.alloc _) (by omega) rfl (by omega) (by omega) (by omega) (num_cells w5 3 [0, 10, 50, 100, 200, -20, -60] _ rfl)).mono ?_
      rintro e w6 ⟨z, hz, rfl, hc, hg⟩
      have hzb : -60 ≤ z ∧ z ≤ 200 := by simp at hz; omega
      have S7 := Lib.hid ((S6.out.alloc (.cells #[.int .i64 0, .int .i64 10, .int .i64 50, .int .i64 100, .int .i64 200, .int .i64 (-20), .int .i64 (-60)] 3)).call hc hg)
      clear S6 hc hg hz hbw
      go_wp2_with fail
      refine (l1Most_c 0 (H + z) _).mono ?_
      rintro e w' ⟨rfl, rfl⟩
      have hmx : 0 ≤ imax 0 (H + z) ∧ imax 0 (H + z) ≤ H + 200 := by unfold imax; split <;> omega
      generalize imax 0 (H + z) = M at *
      go_wp2_with fail
      refine (one_any B b (k + kk + 2 + 2) 4 w6 S7.out.cur (by omega) (by omega) (by omega)).mono ?_
      rintro e w7 ⟨p, rfl, hc, hg⟩
      have S8 := Lib.hid (S7.out.call hc hg)
      clear S7 hc hg
      have hown := (S8.out.alloc (.cells #[.int .i64 (A + y), .int .i64 M, .bool p] 33)).own
      have S9 := Lib.hid (S8.out.alloc (.cells #[.int .i64 (A + y), .int .i64 M, .bool p] 33))
      have hsz := S9.out.size
      clear S8
      go_wp2_with (at_builtin; refine wpList_append_own _ rfl _ _ 24 rfl w.heap.size 33 i0 (.agg #[.int .i64 0, .int .i64 0, .bool false]) 3 24 Tryd.underlying24 hi hz0 hz1 hz2 rfl (by decide) _ _ _ rfl hown ⟨w7.heap.size, 0, none⟩ 1 1 [.int .i64 (A + y), .int .i64 M, .bool p] rfl rfl (World.news_of_block (cs := #[.int .i64 (A + y), .int .i64 M, .bool p]) (t := 33) (fr := (0, 0)) (heap_alloc_new w7 _)) (by simp [Value.oneCell']) (by unfold maxLen; omega) (by omega) hsz ?_; intro v' w8 hown' hgrow _)
      go_roundw
      case rel =>
        refine ⟨m - 1, kk + 6, A + y, M, l ++ [⟨A + y, M, p⟩], by go_num, rfl, rfl, by omega, by omega, by simp; omega, by omega, hBd.app (by simp; omega), ?_⟩
        have h9 := (St.app S9.out hown' hgrow).more (k' := k + (kk + 6)) (by omega)
        refine Lib.hid ?_
        unfold StL
        rw [sups_append, sups_one, List.length_append]
        exact h9
      case measure => simp [intOf]; omega
    · obtain rfl : m = 0 := by omega
      obtain ⟨g5, cap, rfl, hg5, hcl, hcm⟩ := S5.out.shape (by omega)
      obtain ⟨n, hn⟩ : ∃ n, n = l.length := ⟨_, rfl⟩
      have S6 : Hid (StN B b (k + kk) w wr g5 cap n l) := Lib.hid ⟨by rw [hn]; exact S5.out, hn.symm⟩
      rw [← hn] at hl hcl
      rw [← hn]
      have HN := Lib.hid hn
      clear hn S5
      obtain ⟨_, _, ⟨q2, d2⟩, _, _, z2⟩ := S6.out.cells (n - 1) (by omega)
      have S7 := Lib.hid (S6.out.setS (n - 1) (by omega) true)
      have hBd7 := Lib.hid (hBd.set (i := n - 1) (x := ⟨(nth l (n - 1)).a, (nth l (n - 1)).h, true⟩) (hBd.get (by rw [← HN.out]; omega)))
      generalize hl7 : l.set (n - 1) ⟨(nth l (n - 1)).a, (nth l (n - 1)).h, true⟩ = l7 at *
      clear S6 hBd hl7
      have hzn : n - 1 < n := by omega
      have hzm : (n : Int) - 1 < (n : Int) := by omega
      have hz3 : 0 < n := by omega
      go_wp2_with fail
      refine (pick_any B b (k + kk) 40 _ S7.out.st.cur (by omega) (by omega) (by omega)).mono ?_
      rintro e w8 ⟨r8, rfl, hr8, hc, hg⟩
      have S8 := Lib.hid (S7.out.call hc hg)
      clear S7 hc hg d2 z2
      by_cases c0 : r8 = 0
      · have t0 : ((r8 : Int) == 0) = true := by rw [beq_iff_eq]; omega
        go_wp2_with fail
        refine (among_any B b (k + kk + 2) w8.heap.size 2 2 [0, 1] _ (S8.out.st.cur.alloc _) (by omega) rfl (by omega) (by omega) (by have := S8.out.st.cur.2.1; omega) (num_cells w8 3 [0, 1] _ rfl)).mono ?_
        rintro e w9 ⟨y, hy, rfl, hc, hg⟩
        have hyb : 0 ≤ y ∧ y ≤ 1 := by simp at hy; omega
        have S9 := Lib.hid ((S8.out.alloc (.cells #[.int .i64 0, .int .i64 1] 3)).call hc hg)
        clear S8 hc hg hy
        go_wp2_with fail
        refine (one_any B b (k + kk + 2 + 2) 2 w9 S9.out.st.cur (by omega) (by omega) (by omega)).mono ?_
        rintro e wa ⟨p, rfl, hc, hg⟩
        have Sa := Lib.hid (S9.out.call hc hg)
        clear S9 hc hg
        have hx := Sa.out.cells 0 hz3
        simp only [Nat.zero_mul, Nat.zero_add] at hx
        obtain ⟨⟨v0, d0⟩, ⟨v1, d1⟩, ⟨v2, d2⟩, z0, z1, z2⟩ := hx
        have Sb := Sa.out.set3 0 hz3 ⟨y, 400, p⟩
        simp only [Nat.zero_mul, Nat.zero_add] at Sb
        have SB := Lib.hid Sb
        clear Sb Sa
        go_wp2
        go_ret
        exact LnPost.mkN (kk := kk + 6) (by exact SB.out) (by omega) (by omega) (Bd.set hBd7.out (by simp; omega))
      · by_cases c1 : r8 = 1
        · have t0 : ((r8 : Int) == 0) = false := by rw [beq_eq_false_iff_ne]; omega
          have t1 : ((r8 : Int) == 1) = true := by rw [beq_iff_eq]; omega
          go_wp2_with fail
          refine (among_any B b (k + kk + 2) w8.heap.size 3 3 [3000, 3001, 0] _ (S8.out.st.cur.alloc _) (by omega) rfl (by omega) (by omega) (by have := S8.out.st.cur.2.1; omega) (num_cells w8 3 [3000, 3001, 0] _ rfl)).mono ?_
          rintro e w9 ⟨y, hy, rfl, hc, hg⟩
          have hyb : 0 ≤ y ∧ y ≤ 3001 := by simp at hy; omega
          have S9 := Lib.hid ((S8.out.alloc (.cells #[.int .i64 3000, .int .i64 3001, .int .i64 0] 3)).call hc hg)
          clear S8 hc hg hy
          go_wp2_with fail
          refine (among_any B b (k + kk + 2 + 2) w9.heap.size 3 3 [2000, 2001, -1] _ (S9.out.st.cur.alloc _) (by omega) rfl (by omega) (by omega) (by have := S9.out.st.cur.2.1; omega) (num_cells w9 3 [2000, 2001, -1] _ rfl)).mono ?_
          rintro e wa ⟨z, hz, rfl, hc, hg⟩
          have Sa := Lib.hid ((S9.out.alloc (.cells #[.int .i64 2000, .int .i64 2001, .int .i64 (-1)] 3)).call hc hg)
          clear S9 hc hg hz
          obtain ⟨⟨v0, d0⟩, ⟨v1, d1⟩, ⟨v2, d2⟩, z0, z1, z2⟩ := Sa.out.cells (n - 1) hzn
          have SB := Lib.hid (Sa.out.set3 (n - 1) hzn ⟨y, z, true⟩)
          clear Sa
          go_wp2
          go_ret
          exact LnPost.mkN (kk := kk + 6) (by exact SB.out) (by omega) (by omega) (Bd.set hBd7.out (by simp; omega))
        · by_cases c2 : r8 = 2
          · have t0 : ((r8 : Int) == 0) = false := by rw [beq_eq_false_iff_ne]; omega
            have t1 : ((r8 : Int) == 1) = false := by rw [beq_eq_false_iff_ne]; omega
            have t2 : ((r8 : Int) == 2) = true := by rw [beq_iff_eq]; omega
            obtain ⟨_, _, ⟨v2, d2⟩, _, _, z2⟩ := S8.out.cells (n - 1) hzn
            have SB := Lib.hid (S8.out.setS (n - 1) hzn false)
            have hBb := hBd7.out.get (i := n - 1) (by rw [S8.out.len]; exact hzn)
            clear S8
            go_wp2
            go_ret
            exact LnPost.mkN (kk := kk + 2) (by exact SB.out) (by omega) (by omega) (Bd.set (i := n - 1) (x := ⟨(nth l7 (n - 1)).a, (nth l7 (n - 1)).h, false⟩) hBd7.out hBb)
          · by_cases c3 : r8 = 3
            · have t0 : ((r8 : Int) == 0) = false := by rw [beq_eq_false_iff_ne]; omega
              have t1 : ((r8 : Int) == 1) = false := by rw [beq_eq_false_iff_ne]; omega
              have t2 : ((r8 : Int) == 2) = false := by rw [beq_eq_false_iff_ne]; omega
              have t3 : ((r8 : Int) == 3) = true := by rw [beq_iff_eq]; omega
              have S9 : Hid (StL B b (k + (kk + 2)) w w8 (.slice (some ⟨g5, 0, none⟩) n cap) l7) := Lib.hid (by
                have := S8.out.st
                unfold StL
                rw [S8.out.len]
                exact this)
              have hl7 : l7.length = n := S8.out.len
              have HB9 := hBd7.out
              clear S8 hBd7
              go_wp2_with fail
              go_loopg [3, 4] 10 (fun M v at_ wr => ∃ (A : Int) (kk : Nat) (l : List Sup), at_ = .int .i64 A ∧ (0 ≤ A ∧ A ≤ 1600 + 50 * (l.length : Int)) ∧ (1 ≤ l.length ∧ l.length ≤ 9) ∧ kk ≤ 40 + 2 * l.length ∧ 10 - l.length ≤ M ∧ Bd l ∧ Hid (StL B b (k + kk) w wr v l))
              case atStart => exact ⟨A, kk + 2, l7, rfl, by omega, by omega, by omega, by omega, HB9, S9⟩
              case round =>
                obtain ⟨A1, k1, l1, rfl, hA1, hl1, hk1, hM, hBd1, T1⟩ := hrel
                obtain ⟨g6, cap6, rfl, hg6, hcl6, hcm6⟩ := T1.out.shape (by omega)
                go_wp2_with fail
                refine (pick_any B b (k + k1) 2 _ T1.out.cur (by omega) (by omega) (by omega)).mono ?_
                rintro e wb ⟨r9, rfl, hr9, hc, hg⟩
                have T2 := Lib.hid (T1.out.call hc hg)
                clear T1 hc hg
                by_cases hlt : l1.length < 8 + r9
                · have hlt' : (l1.length : Int) < 8 + (r9 : Int) := by omega
                  have hown := (T2.out.alloc (.cells #[.int .i64 (A1 + 50), .int .i64 H, .bool true] 33)).own
                  have T3 := Lib.hid (T2.out.alloc (.cells #[.int .i64 (A1 + 50), .int .i64 H, .bool true] 33))
                  have hsz := T3.out.size
                  clear T2
                  go_wp2_with (at_builtin; refine wpList_append_own _ rfl _ _ 24 rfl w.heap.size 33 i0 (.agg #[.int .i64 0, .int .i64 0, .bool false]) 3 24 Tryd.underlying24 hi hz0 hz1 hz2 rfl (by decide) _ _ _ rfl hown ⟨wb.heap.size, 0, none⟩ 1 1 [.int .i64 (A1 + 50), .int .i64 H, .bool true] rfl rfl (World.news_of_block (cs := #[.int .i64 (A1 + 50), .int .i64 H, .bool true]) (t := 33) (fr := (0, 0)) (heap_alloc_new wb _)) (by simp [Value.oneCell']) (by unfold maxLen; omega) (by omega) hsz ?_; intro v' wc hown' hgrow _)
                  go_roundg (9 - l1.length)
                  case measure => omega
                  case rel =>
                    refine ⟨A1 + 50, k1 + 2, l1 ++ [⟨A1 + 50, H, true⟩], rfl, by simp <;> omega, by simp <;> omega, by simp <;> omega, by simp <;> omega, hBd1.app (by simp <;> omega), ?_⟩
                    have h9 := (St.app T3.out hown' hgrow).more (k' := k + (k1 + 2)) (by omega)
                    refine Lib.hid ?_
                    unfold StL
                    rw [sups_append, sups_one, List.length_append]
                    exact h9
                · have hge : ¬ (l1.length : Int) < 8 + (r9 : Int) := by omega
                  go_wp2
                  go_ret
                  exact LnPost.mk (kk := k1 + 2) T2.out (by omega) hl1 hBd1
            · by_cases c4 : r8 = 4
              · have t0 : ((r8 : Int) == 0) = false := by rw [beq_eq_false_iff_ne]; omega
                have t1 : ((r8 : Int) == 1) = false := by rw [beq_eq_false_iff_ne]; omega
                have t2 : ((r8 : Int) == 2) = false := by rw [beq_eq_false_iff_ne]; omega
                have t3 : ((r8 : Int) == 3) = false := by rw [beq_eq_false_iff_ne]; omega
                have t4 : ((r8 : Int) == 4) = true := by rw [beq_iff_eq]; omega
                have SB := Lib.hid (S8.out.one hz3)
                have hcap1 : (1 : Int) ≤ (cap : Int) := by omega
                clear S8
                go_wp2
                go_ret
                exact LnPost.mkN (kk := kk + 2) (by exact SB.out) (by omega) (by omega) (Bd.take hBd7.out 1)
              · have t0 : ((r8 : Int) == 0) = false := by rw [beq_eq_false_iff_ne]; omega
                have t1 : ((r8 : Int) == 1) = false := by rw [beq_eq_false_iff_ne]; omega
                have t2 : ((r8 : Int) == 2) = false := by rw [beq_eq_false_iff_ne]; omega
                have t3 : ((r8 : Int) == 3) = false := by rw [beq_eq_false_iff_ne]; omega
                have t4 : ((r8 : Int) == 4) = false := by rw [beq_eq_false_iff_ne]; omega
                go_wp2
                go_ret
                exact LnPost.mkN (kk := kk + 2) S8.out (by omega) (by omega) hBd7.out
end Go.Proofs.YtmmjbdffpgohdaaDoor
