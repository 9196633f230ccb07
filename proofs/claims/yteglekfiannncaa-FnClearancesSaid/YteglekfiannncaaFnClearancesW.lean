/- The law FnClearances's walk, with what it draws. Condition: sizes. -/
import Derived.Test.YteglekfiannncaaDrawLine
import Derived.Test.YteglekfiannncaaBig
import Derived.Test.YteglekfiannncaaRpS
import Derived.Test.YteglekfiannncaaGPS
import Derived.Deep.Heap
import Derived.Test.YteglekfiannncaaLowC
import Derived.Test.YteglekfiannncaaTowerC
import Derived.Test.YteglekfiannncaaClearS
import Derived.WalkArith
namespace Go.Proofs.Yteglekfiannncaa
open Go.RowKit
set_option linter.unusedVariables false
theorem num_cells1 (w : World) (t : TypeId) (l : List Int) (cs : Array Value) (hcs : cs = (l.map (Value.int .i64)).toArray) (g : Nat) (hg : g = w.heap.size) :
    ∀ (i : Nat) (h : i < l.length), (w.alloc (.cells cs t)).cell? ⟨g, i, none⟩ = some (.int .i64 l[i]) := by subst hg; exact num_cells w t l cs hcs
theorem grown_past {w w2 w3 : World} {row : Option Nat} {S : Nat} (h : w.grownBy w2 row) (g : w2.grownBy w3 (some S)) (hS : w.heap.size ≤ S) : w.grownBy w3 row :=
  ⟨g.os.trans h.os, g.tape.trans h.tape, g.output.trans h.output, Nat.le_trans h.size g.size, fun k hk hr => (g.block k (Nat.lt_of_lt_of_le hk h.size) (fun e => by cases e; omega)).trans (h.block k hk hr)⟩
theorem blk_setD {w : World} {b i : Nat} {cs : Array Value} {t : TypeId} {v : Value} (h : w.heap[b]? = some (.cells cs t (0, 0))) : (w.setCell ⟨b, i, none⟩ v).heap[b]? = some (.cells (cs.setIfInBounds i v) t (0, 0)) := by
  simp [World.setCell, Array.getElem?_modify, h]
theorem old_allocD {W : World} {o o' : Obj} {g : Nat} (h : W.heap[g]? = some o) : (W.alloc o').heap[g]? = some o := by
  have hl := (Array.getElem?_eq_some_iff.1 h).1
  exact (((Below.refl W.heap.size W).alloc (Nat.le_refl _) o').block g hl).trans h
theorem aszD (W : World) (o : Obj) : W.heap.size + 1 = (W.alloc o).heap.size := by simp
/-- What drawing a rope leaves. -/
def RoPost (B b k : Nat) (w : World) (e : Ending) (w' : World) : Prop := ∃ r : Rp, e = .returned (.agg #[.int .i64 r.w, .int .i64 r.p]) ∧ Cur B b (k + 4) w' ∧ w.grownBy w' (some b)
set_option maxRecDepth 100000 in
set_option maxHeartbeats 2000000 in
theorem rope_any (B b k : Nat) (w : World) (h : Cur B b k w) (hk : k ≤ 800000000) :
    Calls Try.prog 74 #[.pointer (some ⟨b, 0, none⟩)] w (RoPost B b k w) := by
  have HH := Lib.hid h
  have hb := h.2.1
  clear h
  go_enter Try.func74, Try.ntmps74
  go_wp2_with fail
  refine (among_any B b k (w.heap.size + 1) 9 9 [1, 20, 50, 100, 200, 0, 201, 30, 60] _ ((HH.out.alloc _).alloc _) (by omega) rfl (by omega) (by omega) (by omega) (num_cells1 _ 3 [1, 20, 50, 100, 200, 0, 201, 30, 60] _ rfl _ (aszD _ _))).mono ?_
  rintro e w1 ⟨x, _, rfl, hc, hg⟩
  have K1 := (hg.block w.heap.size (by simp; omega) (fun e => by cases e; omega)).trans (old_allocD (o' := .cells #[.int .i64 1, .int .i64 20, .int .i64 50, .int .i64 100, .int .i64 200, .int .i64 0, .int .i64 201, .int .i64 30, .int .i64 60] 3) (heap_alloc_new w (.cells #[.int .i64 0, .int .i64 0] 26)))
  have G1 := Lib.hid (grown_trans (grown_trans (World.grownBy_alloc w (.cells #[.int .i64 0, .int .i64 0] 26) (some b)) (World.grownBy_alloc _ (.cells #[.int .i64 1, .int .i64 20, .int .i64 50, .int .i64 100, .int .i64 200, .int .i64 0, .int .i64 201, .int .i64 30, .int .i64 60] 3) (some b))) hg)
  have HC1 := Lib.hid hc
  have hs1 := hg.size
  simp at hs1
  have HK1 := Lib.hid K1
  clear K1 hc hg
  go_wp2_with fail
  refine (among_any B b (k + 2) w1.heap.size 10 10 [1, 1000, 5000, 20000, 50000, 100000, 0, 100001, 3000, 7000] _ (HC1.out.alloc _) (by omega) rfl (by omega) (by omega) (by omega) (num_cells w1 3 [1, 1000, 5000, 20000, 50000, 100000, 0, 100001, 3000, 7000] _ rfl)).mono ?_
  rintro e w2 ⟨y, _, rfl, hc, hg⟩
  have K2 := (hg.block w.heap.size (by simp; omega) (fun e => by cases e; omega)).trans (old_allocD (o' := .cells #[.int .i64 1, .int .i64 1000, .int .i64 5000, .int .i64 20000, .int .i64 50000, .int .i64 100000, .int .i64 0, .int .i64 100001, .int .i64 3000, .int .i64 7000] 3) HK1.out)
  have G2 := Lib.hid (grown_trans (grown_trans G1.out (World.grownBy_alloc _ (.cells #[.int .i64 1, .int .i64 1000, .int .i64 5000, .int .i64 20000, .int .i64 50000, .int .i64 100000, .int .i64 0, .int .i64 100001, .int .i64 3000, .int .i64 7000] 3) (some b))) hg)
  have HC2 := Lib.hid hc
  clear hc hg HK1 G1 HC1
  have q0 := cell_of_row w2 w.heap.size 0 _ _ _ K2
  have q1 := cell_of_row w2 w.heap.size 1 _ _ _ K2
  have m0 := frozen_of_row w2 w.heap.size 0 _ _ K2
  have m1 := frozen_of_row w2 w.heap.size 1 _ _ K2
  have b0 := blk_setD (i := 0) (v := .int .i64 x) K2
  have z0 := cell_of_row _ w.heap.size 0 _ _ _ b0
  have b1 := blk_setD (i := 1) (v := .int .i64 y) b0
  have z1 := cell_of_row _ w.heap.size 1 _ _ _ b1
  simp at q0 q1 z0 z1
  have Z0 := Lib.hid z0
  have Z1 := Lib.hid z1
  clear b0 b1 z0 z1 K2
  go_wp2
  have GG := grown_trans (row := some w.heap.size) (grown_setCell w2 w.heap.size 0 (.int .i64 x)) (grown_setCell _ w.heap.size 1 (.int .i64 y))
  refine bodyPost_ret (v := .agg #[.int .i64 x, .int .i64 y]) (by simp [results, Try.results74, go_sem, Z0.out, Z1.out]) rfl ⟨⟨x, y⟩, rfl, ?_, ?_⟩
  · exact (HC2.out.grown GG (fun j hj => by cases hj; exact hb)).mono (by omega)
  · exact grown_past G2.out GG (Nat.le_refl _)
/-! The ground. -/
def sliceLen : Value → Nat
  | .slice _ n _ => n
  | _ => 0
abbrev StG (B b k : Nat) (w W : World) (v : Value) (g : List GP) : Prop := St 38 2 B b k w W v g.length (gps g)
/-- What drawing a ground leaves. -/
def GrPost (B b k : Nat) (w : World) (e : Ending) (w' : World) : Prop := ∃ (v : Value) (g : List GP), e = .returned v ∧ Rs w' v g.length (gps g) ∧ g.length ≤ 8 ∧ (∀ j, v.ownBlock = some j → b < j) ∧ Cur B b (k + 50) w' ∧ w.grownBy w' (some b)
theorem St.blk {e : TypeId} {sz B b k n : Nat} {w W : World} {v : Value} {xs : List Value} (h : St e sz B b k w W v n xs) : ∀ j, v.ownBlock = some j → b < j := fun j hj => by
  have h1 := (h.own.lt j hj).1
  have h2 := h.lt
  omega
theorem GrPost.mk {B b k kk : Nat} {w w' : World} {v : Value} {g : List GP} (h : StG B b (k + kk) w w' v g) (hk : kk ≤ 50) (hg : g.length ≤ 8) : GrPost B b k w (.returned v) w' :=
  ⟨v, g, rfl, Rs.of_own h.own, hg, h.blk, h.cur.mono (by omega), h.gr⟩
theorem gps_set0 {g : List GP} (h : 0 < g.length) (x y : Int) : ((gps g).set 0 (.int .i64 x)).set 1 (.int .i64 y) = gps (⟨x, y⟩ :: g.drop 1) := by
  cases g with
  | nil => simp at h
  | cons a r => simp [flat, GP.enc]
theorem StG.shape {B b k : Nat} {w W : World} {v : Value} {g : List GP} (h : StG B b k w W v g) (h0 : 0 < g.length) : ∃ x cap, v = .slice (some ⟨x, 0, none⟩) g.length cap ∧ x < W.heap.size ∧ g.length ≤ cap ∧ cap ≤ maxLen := by
  rcases h.own.2 with ⟨_, h1⟩ | ⟨x, cap, cur, rfl, hb, hg, hn, hcm, _⟩
  · omega
  · exact ⟨x, cap, rfl, (Array.getElem?_eq_some_iff.1 hg).1, hn, hcm⟩
/-- The row without its first element. -/
theorem rs_tail {W : World} {x n cap c : Nat} {g : List GP} (h : Rs W (.slice (some ⟨x, 0, none⟩) n cap) n (gps g)) (hn : n = g.length) (h0 : 0 < n) (hc : n - 1 ≤ c) : Rs W (.slice (some ⟨x, 2, none⟩) (n - 1) c) (g.drop 1).length (gps (g.drop 1)) := by
  have e : (g.drop 1).length = n - 1 := by simp [hn]
  rw [e]
  by_cases h1 : n - 1 = 0
  · rw [h1]; exact .inl ⟨rfl, _, _, rfl⟩
  · obtain ⟨b, off, ca, hv, hb, hcc, hm, hx⟩ := h.pos (by omega)
    simp only [Value.slice.injEq, Option.some.injEq, Addr.mk.injEq, and_true, true_and] at hv
    obtain ⟨⟨rfl, rfl⟩, _⟩ := hv
    refine .inr ⟨x, 2, c, rfl, hb, ⟨hc, by omega⟩, fun i u hi => ?_⟩
    have hi' : (gps g)[2 + i]? = some u := by
      cases g with
      | nil => simp at hn; omega
      | cons y r =>
        have e2 : gps (y :: r) = [.int .i64 y.a, .int .i64 y.h] ++ gps r := by simp [flat, GP.enc]
        rw [e2, List.getElem?_append_right (by simp)]
        simpa using hi
    have := hx _ _ hi'
    simpa using this
end Go.Proofs.Yteglekfiannncaa

namespace Go.Proofs.Yteglekfiannncaa
open Go.RowKit
set_option linter.unusedVariables false
set_option maxRecDepth 100000 in
set_option maxHeartbeats 4000000 in
theorem ground_any (B b k : Nat) (v : Value) (l : List Sup) (w w0 : World) (hS : StL B b k w0 w v l) (hl : 1 ≤ l.length ∧ l.length ≤ 9) (hbd : Bd l) (hk : k ≤ 800000000) :
    Calls Try.prog 75 #[.pointer (some ⟨b, 0, none⟩), v] w (GrPost B b k w) := by
  obtain ⟨i0, hi, hz0, hz1, hz2⟩ := info_parts Try.infoGP
  obtain ⟨gl, cl, rfl, hgl, hcl, hcm⟩ := hS.shape (by omega)
  have hbw := hS.cur.2.1
  have HCur := Lib.hid hS.cur
  have c0 := (hS.own.cellAt ((l.length - 1) * 3) (by omega)).trans (sups_at l (l.length - 1) (by omega)).1
  have hE := hbd.get (i := l.length - 1) (by omega)
  obtain ⟨p1, p2, p3⟩ := pred_in l.length (by omega) (by omega)
  have hz1' : l.length - 1 < l.length := by omega
  have hz2' : (l.length : Int) - 1 < (l.length : Int) := by omega
  have hz3' : (0 : Int) < (l.length : Int) := by omega
  have hz4' : 0 < l.length := by omega
  clear hS hbd
  generalize (nth l (l.length - 1)).a = E at *
  go_enter Try.func75, Try.ntmps75
  go_wp2_with fail
  clear p1 p2 p3 c0
  go_loopw [6, 7] (fun lst at_ wr => ∃ (a : Option Addr) (ca : Nat) (g : List GP) (A : Int), lst = .slice a g.length ca ∧ at_ = .int .i64 A ∧ (0 ≤ A ∧ A ≤ 6000) ∧ g.length ≤ 7 ∧ Hid (StG B b (k + 4 * g.length) w wr (.slice a g.length ca) g)) (fun lst _ _ => 7 - sliceLen lst)
  case atStart =>
    refine ⟨_, _, [], 0, rfl, rfl, by omega, by simp, Lib.hid ?_⟩
    exact ⟨HCur.out.alloc _, World.ownsRow_made w #[] 0 (Nat.le_refl _) (by decide) rfl, World.grownBy_alloc w _ _, hbw⟩
  case round =>
    obtain ⟨a, ca, g, A, rfl, rfl, hA, hg7, S1⟩ := hrel
    have hb1 := S1.out.cur.2.1
    by_cases hc : A < E ∧ g.length < 7
    · obtain ⟨hc1, hc2⟩ := hc
      have hc3 : (g.length : Int) < 7 := by omega
      go_wp2_with fail
      refine (among_any B b (k + 4 * g.length) wr.heap.size 6 6 [380, 390, 400, 300, 450, 0] _ (S1.out.cur.alloc _) (by omega) rfl (by omega) (by omega) (by omega) (num_cells wr 3 [380, 390, 400, 300, 450, 0] _ rfl)).mono ?_
      rintro e w2 ⟨h, _, rfl, hcu, hgr⟩
      have S2 := Lib.hid ((S1.out.alloc (.cells #[.int .i64 380, .int .i64 390, .int .i64 400, .int .i64 300, .int .i64 450, .int .i64 0] 3)).call hcu hgr)
      clear hcu hgr S1
      have hown := (S2.out.alloc (.cells #[.int .i64 A, .int .i64 h] 38)).own
      have S3 := Lib.hid (S2.out.alloc (.cells #[.int .i64 A, .int .i64 h] 38))
      have hsz := S3.out.size
      clear S2
      go_wp2_with (at_builtin; refine wpList_append_own _ rfl _ _ 27 rfl w.heap.size 38 i0 (.agg #[.int .i64 0, .int .i64 0]) 2 16 Try.underlying27 hi hz0 hz1 hz2 rfl (by decide) _ _ _ rfl hown ⟨w2.heap.size, 0, none⟩ 1 1 [.int .i64 A, .int .i64 h] rfl rfl (World.news_of_block (cs := #[.int .i64 A, .int .i64 h]) (t := 38) (fr := (0, 0)) (heap_alloc_new w2 _)) (by simp [Value.oneCell']) (by unfold maxLen; omega) (by omega) hsz ?_; intro v' w3 hown' hgrow _)
      have S4 := Lib.hid (St.app S3.out hown' hgrow)
      clear S3 hown' hgrow hown
      have hb4 := S4.out.cur.2.1
      go_wp2_with fail
      refine (among_any B b (k + 4 * g.length + 2) w3.heap.size 4 4 [30, 60, 150, 333] _ (S4.out.cur.alloc _) (by omega) rfl (by omega) (by omega) (by omega) (num_cells w3 3 [30, 60, 150, 333] _ rfl)).mono ?_
      rintro e w4 ⟨y, hy, rfl, hcu, hgr⟩
      have hyb : 30 ≤ y ∧ y ≤ 333 := by simp at hy; omega
      have S5 := Lib.hid ((S4.out.alloc (.cells #[.int .i64 30, .int .i64 60, .int .i64 150, .int .i64 333] 3)).call hcu hgr)
      clear hcu hgr S4 hy
      obtain ⟨a2, ca2, rfl⟩ : ∃ (a2 : Option Addr) (ca2 : Nat), v' = .slice a2 (g ++ [(⟨A, h⟩ : GP)]).length ca2 := by
        obtain ⟨a2, ca2, hv'⟩ := (Rs.of_own S5.out.own).shape
        exact ⟨a2, ca2, by rw [hv', List.length_append]; rfl⟩
      have S6 : Hid (StG B b (k + 4 * (g ++ [(⟨A, h⟩ : GP)]).length) w w4 (.slice a2 (g ++ [(⟨A, h⟩ : GP)]).length ca2) (g ++ [(⟨A, h⟩ : GP)])) := Lib.hid (by
        have h9 := S5.out.more (k' := k + 4 * (g ++ [(⟨A, h⟩ : GP)]).length) (by simp; omega)
        unfold StG
        rw [gps_append, gps_one]
        rw [List.length_append] at h9 ⊢
        exact h9)
      have hgl7 : (g ++ [(⟨A, h⟩ : GP)]).length = g.length + 1 := by simp
      clear S5
      generalize g ++ [(⟨A, h⟩ : GP)] = g' at *
      have s1 : IntKind.i64.wrap (A + y) = A + y := IntWalk.i64_in _ (by omega)
      go_wp2
      go_roundw
      case rel =>
        exact ⟨a2, ca2, g', A + y, by rw [hgl7], rfl, by omega, by omega, S6⟩
      case measure => simp [sliceLen]; omega
    · rcases (by omega : ¬ A < E ∨ A < E ∧ ¬ g.length < 7) with hx | ⟨hx, hy⟩
      all_goals
        first | (have hx3 : decide (A < E) = false := by (simp; omega)) | (have hy3 : ¬ (g.length : Int) < 7 := by omega) | fail
        clear hc
        go_wp2_with fail
        refine (among_any B b (k + 4 * g.length) wr.heap.size 3 3 [400, 350, 0] _ (S1.out.cur.alloc _) (by omega) rfl (by omega) (by omega) (by omega) (num_cells wr 3 [400, 350, 0] _ rfl)).mono ?_
        rintro e w2 ⟨h, _, rfl, hcu, hgr⟩
        have S2 := Lib.hid ((S1.out.alloc (.cells #[.int .i64 400, .int .i64 350, .int .i64 0] 3)).call hcu hgr)
        clear hcu hgr S1
        have hown := (S2.out.alloc (.cells #[.int .i64 E, .int .i64 h] 38)).own
        have S3 := Lib.hid (S2.out.alloc (.cells #[.int .i64 E, .int .i64 h] 38))
        have hsz := S3.out.size
        clear S2
        go_wp2_with (at_builtin; refine wpList_append_own _ rfl _ _ 27 rfl w.heap.size 38 i0 (.agg #[.int .i64 0, .int .i64 0]) 2 16 Try.underlying27 hi hz0 hz1 hz2 rfl (by decide) _ _ _ rfl hown ⟨w2.heap.size, 0, none⟩ 1 1 [.int .i64 E, .int .i64 h] rfl rfl (World.news_of_block (cs := #[.int .i64 E, .int .i64 h]) (t := 38) (fr := (0, 0)) (heap_alloc_new w2 _)) (by simp [Value.oneCell']) (by unfold maxLen; omega) (by omega) hsz ?_; intro v' w3 hown' hgrow _)
        have S5 := Lib.hid (St.app S3.out hown' hgrow)
        clear S3 hown' hgrow hown
        have S6 : Hid (StG B b (k + 30) w w3 v' (g ++ [(⟨E, h⟩ : GP)])) := Lib.hid (by
          have h9 := S5.out.more (k' := k + 30) (by omega)
          unfold StG
          rw [gps_append, gps_one, List.length_append]
          exact h9)
        have hgl7 : (g ++ [(⟨E, h⟩ : GP)]).length = g.length + 1 := by simp
        clear S5
        generalize g ++ [(⟨E, h⟩ : GP)] = g' at *
        obtain ⟨x, cap, rfl, hx1, hnc, hcm'⟩ := S6.out.shape (by omega)
        obtain ⟨n, hn'⟩ : ∃ n, g'.length = n := ⟨_, rfl⟩
        have S7 := S6.out
        unfold StG at S7
        rw [hn'] at S7 hnc hgl7 ⊢
        have SS := Lib.hid S7
        clear S6 S7
        have hn8 : n ≤ 8 := by omega
        have hn0 : 0 < n := by omega
        have hn0i : (0 : Int) < (n : Int) := by omega
        have HN := Lib.hid hn'
        clear hgl7 hn'
        go_wp2_with fail
        refine (pick_any B b (k + 30) 32 _ SS.out.cur (by omega) (by omega) (by omega)).mono ?_
        rintro e w8 ⟨r8, rfl, hr8, hcu, hgr⟩
        have S8 := Lib.hid (SS.out.call hcu hgr)
        clear SS hcu hgr
        by_cases c0 : r8 = 0
        · have t0 : ((r8 : Int) == 0) = true := by rw [beq_iff_eq]; omega
          go_wp2_with fail
          refine (among_any B b (k + 30 + 2) w8.heap.size 2 2 [0, 1] _ (S8.out.cur.alloc _) (by omega) rfl (by omega) (by omega) (by have := S8.out.cur.2.1; omega) (num_cells w8 3 [0, 1] _ rfl)).mono ?_
          rintro e w9 ⟨y, _, rfl, hcu, hgr⟩
          have S9 := Lib.hid ((S8.out.alloc (.cells #[.int .i64 0, .int .i64 1] 3)).call hcu hgr)
          clear S8 hcu hgr
          go_wp2_with fail
          refine (among_any B b (k + 30 + 2 + 2) w9.heap.size 3 3 [-1, 2000, 2001] _ (S9.out.cur.alloc _) (by omega) rfl (by omega) (by omega) (by have := S9.out.cur.2.1; omega) (num_cells w9 3 [-1, 2000, 2001] _ rfl)).mono ?_
          rintro e wa ⟨z, _, rfl, hcu, hgr⟩
          have Sa := Lib.hid ((S9.out.alloc (.cells #[.int .i64 (-1), .int .i64 2000, .int .i64 2001] 3)).call hcu hgr)
          clear S9 hcu hgr
          have hxl : (gps g').length = n * 2 := by rw [gps_len, HN.out]
          have hso := Sa.out.own
          have d0 := (hso.cellAt 0 (by omega)).trans (List.getElem?_eq_getElem (by omega))
          have d1 := (hso.cellAt 1 (by omega)).trans (List.getElem?_eq_getElem (by omega))
          have z0 := Sa.out.own.frozenAt 0
          have z1 := Sa.out.own.frozenAt 1
          have q1 := Sa.out.own.stored 0 (.int .i64 y)
          have q2 := q1.1.stored 1 (.int .i64 z)
          have hq2 := q2.1
          rw [gps_set0 (by rw [HN.out]; omega)] at hq2
          have SB := Lib.hid (St.app Sa.out hq2 ((q1.2).trans q2.2))
          clear Sa q1 q2 hq2 hso
          go_wp2
          go_ret
          have hlen : ((⟨y, z⟩ : GP) :: g'.drop 1).length = n := by rw [List.length_cons, List.length_drop, HN.out]; omega
          refine GrPost.mk (kk := 36) (g := ⟨y, z⟩ :: g'.drop 1) ?_ (by omega) (by rw [hlen]; omega)
          have h8 := SB.out
          unfold StG
          rw [hlen]
          exact h8
        · have t0 : ((r8 : Int) == 0) = false := by rw [beq_eq_false_iff_ne]; omega
          by_cases c1 : r8 = 1
          · have t1 : ((r8 : Int) == 1) = true := by rw [beq_iff_eq]; omega
            have hr1 : (1 : Int) ≤ (n : Int) := by omega
            have hr2 : (n : Int) ≤ (cap : Int) := by omega
            by_cases hcap : cap = 1
            · subst hcap
              obtain rfl : n = 1 := by omega
              have h8 := S8.out
              have HS8 := Lib.hid h8
              clear h8 S8
              go_wp2
              go_ret
              have e : (g'.drop 1).length = 0 := by rw [List.length_drop, HN.out]
              refine ⟨_, g'.drop 1, rfl, ?_, by omega, ?_, HS8.out.cur.mono (by omega), HS8.out.gr⟩
              · rw [e]; exact .inl ⟨rfl, _, _, rfl⟩
              · intro j hj
                exact HS8.out.blk j hj
            · have hcap2 : ¬ 1 = cap := fun e => hcap e.symm
              go_wp2
              go_ret
              refine ⟨_, g'.drop 1, rfl, rs_tail (cap := cap) (c := cap - 1) (Rs.of_own S8.out.own) HN.out.symm hn0 (by omega), by rw [List.length_drop, HN.out]; omega, ?_, S8.out.cur.mono (by omega), S8.out.gr⟩
              intro j hj
              exact S8.out.blk j hj
          · have t1 : ((r8 : Int) == 1) = false := by rw [beq_eq_false_iff_ne]; omega
            go_wp2
            go_ret
            refine GrPost.mk (kk := 32) (g := g') ?_ (by omega) (by rw [HN.out]; omega)
            have h8 := S8.out
            unfold StG
            rw [HN.out]
            exact h8.more (k' := k + 32) (by omega)
end Go.Proofs.Yteglekfiannncaa

namespace Go.Proofs.Yteglekfiannncaa
open Go.RowKit
set_option linter.unusedVariables false
/-- What drawing a line leaves. -/
def DlPost (w : World) (e : Ending) (w' : World) : Prop := ∃ (v : Value) (l : List Sup), e = .returned v ∧ w'.ownsRow w.heap.size 36 3 v l.length (sups l) ∧ (1 ≤ l.length ∧ l.length ≤ 9) ∧ Below w.heap.size w w'
/-- What drawing a line and a place leaves. -/
def DpPost (w : World) (e : Ending) (w' : World) : Prop := ∃ (v : Value) (l : List Sup) (p : Int), e = .returned (.tuple #[v, .int .i64 p]) ∧ (-10000 ≤ p ∧ p ≤ 10000) ∧ w'.ownsRow w.heap.size 36 3 v l.length (sups l) ∧ (1 ≤ l.length ∧ l.length ≤ 9) ∧ Below w.heap.size w w'
theorem own_mono' {w : World} {B B' e size n : Nat} {v : Value} {xs : List Value} (h : w.ownsRow B e size v n xs) (hB : B' ≤ B) : w.ownsRow B' e size v n xs := own_mono h hB
/-- What a place leaves. -/
def PlPost (B b k : Nat) (w : World) (e : Ending) (w' : World) : Prop := ∃ p : Int, e = .returned (.int .i64 p) ∧ (-10000 ≤ p ∧ p ≤ 10000) ∧ Cur B b (k + 10) w' ∧ w.grownBy w' (some b)
set_option maxHeartbeats 2000000 in
theorem placeOf_any (B b k : Nat) (v : Value) (l : List Sup) (w w0 : World) (hS : StL B b k w0 w v l) (hl : 1 ≤ l.length ∧ l.length ≤ 9) (hb : Bd l) (hk : k ≤ 800000000) :
    Calls Try.prog 87 #[.pointer (some ⟨b, 0, none⟩), v] w (PlPost B b k w) := by
  obtain ⟨g, cap, rfl, hg, hcl, hcm⟩ := hS.shape (by omega)
  have HS := Lib.hid hS
  have hbw := hS.cur.2.1
  have hgb : g ≠ b := fun e => by have h1 := (hS.own.lt g rfl).1; have h2 := hS.lt; omega
  have HCl : Hid (∀ i, i < l.length → w.cell? ⟨g, i * 3, none⟩ = some (.int .i64 (nth l i).a)) := Lib.hid (fun i hi => (hS.own.cellAt (i * 3) (by omega)).trans (sups_at l i hi).1)
  have hne : ((l.length : Int) == 0) = false := by rw [beq_eq_false_iff_ne]; omega
  clear hS
  go_enter Try.func87, Try.ntmps87
  go_wp2_with fail
  refine (one_any B b k 12 w HS.out.cur (by omega) (by omega) (by omega)).mono ?_
  rintro e w1 ⟨p, rfl, hc, hg1⟩
  have HC := Lib.hid hc
  have HG := Lib.hid hg1
  have hbw1 := hc.2.1
  clear hc hg1
  cases p with
  | true =>
    go_wp2_with fail
    refine (among_any B b (k + 2) w1.heap.size 5 5 [-1, 0, 1, 3000, 3001] _ (HC.out.alloc _) (by omega) rfl (by omega) (by omega) (by omega) (num_cells w1 3 [-1, 0, 1, 3000, 3001] _ rfl)).mono ?_
    rintro e w2 ⟨x, hx, rfl, hc, hg2⟩
    have hxb : -1 ≤ x ∧ x ≤ 3001 := by simp at hx; omega
    have HC2 := Lib.hid hc
    have HG2 := Lib.hid hg2
    clear hc hg2 hx
    go_wp2_with fail
    go_ret
    exact ⟨x, rfl, by omega, HC2.out.mono (by omega), grown_trans (grown_trans HG.out (World.grownBy_alloc w1 _ _)) HG2.out⟩
  | false =>
    go_wp2_with fail
    refine (pick_any B b (k + 2) (l.length : Int) w1 HC.out (by omega) (by omega) (by omega)).mono ?_
    rintro e w2 ⟨r, rfl, hr, hc, hg2⟩
    have hrl : r < l.length := by omega
    have c0 : w2.cell? ⟨g, r * 3, none⟩ = some (.int .i64 (nth l r).a) := grown_cell (grown_trans HG.out hg2) (HCl.out r hrl) (by simp; exact hgb)
    have hbd := hb.get hrl
    have HC2 := Lib.hid hc
    have HG2 := Lib.hid (grown_trans HG.out hg2)
    have hbw2 := hc.2.1
    clear hc hg2
    generalize (nth l r).a = A at *
    go_wp2_with fail
    refine (among_any B b (k + 2 + 2) w2.heap.size 7 7 [0, 0, 1, -1, 5, 17, -30] _ (HC2.out.alloc _) (by omega) rfl (by omega) (by omega) (by omega) (num_cells w2 3 [0, 0, 1, -1, 5, 17, -30] _ rfl)).mono ?_
    rintro e w3 ⟨x, hx, rfl, hc, hg3⟩
    have hxb : -30 ≤ x ∧ x ≤ 17 := by simp at hx; omega
    have HC3 := Lib.hid hc
    have HG3 := Lib.hid hg3
    clear hc hg3 hx
    go_wp2_with fail
    go_ret
    exact ⟨A + x, rfl, by omega, HC3.out.mono (by omega), grown_trans (grown_trans HG2.out (World.grownBy_alloc w2 _ _)) HG3.out⟩
end Go.Proofs.Yteglekfiannncaa

namespace Go.Proofs.Yteglekfiannncaa
open Go.RowKit
set_option linter.unusedVariables false
theorem rs_grown {w w' : World} {S n : Nat} {v : Value} {xs : List Value} (h : Rs w v n xs) (hg : w.grownBy w' (some S)) (hb : ∀ j, v.ownBlock = some j → j ≠ S) : Rs w' v n xs := by
  rcases h with ⟨rfl, h⟩ | ⟨b, off, cap, rfl, hlt, hm, hc⟩
  · exact .inl ⟨rfl, h⟩
  · have hne : b ≠ S := hb b rfl
    exact .inr ⟨b, off, cap, rfl, Nat.lt_of_lt_of_le hlt hg.size, hm, fun i u hi => grown_cell hg (hc i u hi) (by simp; exact hne)⟩
/-- A new cursor behind a box. -/
theorem cur_box {w : World} {a : Option Addr} {len cap : Nat} (h : ByteRow w a len) (t t2 : TypeId) (cs : Array Value) :
    Cur (w.heap.size + 1) (w.heap.size + 1) 0 ((w.alloc (.cells cs t2)).alloc (.cells #[.slice a len cap, .int .i64 0, .int .u64 0] t)) := by
  have h1 := cur_new (cap := cap) (h.below ((Below.refl _ _).alloc (Nat.le_refl _) (.cells cs t2))) t
  rwa [← aszD] at h1
theorem box_base {w W : World} {cs cs2 : Array Value} {t t2 : TypeId} (g : ((w.alloc (.cells cs t2)).alloc (.cells cs2 t)).grownBy W (some (w.heap.size + 1))) : Below w.heap.size w W :=
  ((((Below.refl w.heap.size w).alloc (Nat.le_refl _) _).alloc (by simp) _)).trans (grown_below g (by simp; omega) (fun k hk => by cases hk; omega))
theorem box_kept {w W : World} {cs cs2 : Array Value} {t t2 : TypeId} (g : ((w.alloc (.cells cs t2)).alloc (.cells cs2 t)).grownBy W (some (w.heap.size + 1))) : W.heap[w.heap.size]? = some (.cells cs t2 (0, 0)) :=
  (g.block w.heap.size (by simp; omega) (fun e => by have := Option.some.inj e; omega)).trans (old_allocD (heap_alloc_new w _))
def DcPost (w : World) (e : Ending) (w' : World) : Prop := ∃ (v : Value) (l : List Sup) (r : Rp) (vg : Value) (g : List GP), e = .returned (.tuple #[v, .agg #[.int .i64 r.w, .int .i64 r.p], vg]) ∧ Rs w' v l.length (sups l) ∧ (1 ≤ l.length ∧ l.length ≤ 9) ∧ (Rs w' vg g.length (gps g) ∧ g.length ≤ 8) ∧ Below w.heap.size w w'
def DaPost (w : World) (e : Ending) (w' : World) : Prop := ∃ (v : Value) (l : List Sup) (r : Rp) (vg : Value) (g : List GP) (p : Int), e = .returned (.tuple #[v, .agg #[.int .i64 r.w, .int .i64 r.p], vg, .int .i64 p]) ∧ Rs w' v l.length (sups l) ∧ (1 ≤ l.length ∧ l.length ≤ 9) ∧ (Rs w' vg g.length (gps g) ∧ g.length ≤ 8) ∧ (-10000 ≤ p ∧ p ≤ 10000) ∧ Below w.heap.size w w'
def DgPost (w : World) (e : Ending) (w' : World) : Prop := ∃ (v : Value) (l : List Sup) (vg : Value) (g : List GP), e = .returned (.tuple #[v, vg]) ∧ Rs w' v l.length (sups l) ∧ (1 ≤ l.length ∧ l.length ≤ 9) ∧ (Rs w' vg g.length (gps g) ∧ g.length ≤ 8) ∧ Below w.heap.size w w'
def DtPost (w : World) (e : Ending) (w' : World) : Prop := ∃ (v : Value) (l : List Sup) (r : Rp) (p : Int), e = .returned (.tuple #[v, .agg #[.int .i64 r.w, .int .i64 r.p], .int .i64 p]) ∧ Rs w' v l.length (sups l) ∧ (1 ≤ l.length ∧ l.length ≤ 9) ∧ (-10000 ≤ p ∧ p ≤ 10000) ∧ Below w.heap.size w w'
set_option maxRecDepth 100000 in
set_option maxHeartbeats 2000000 in
theorem DrawLowestClearance_any (a : Option Addr) (len cap : Nat) (w : World) (h : ByteRow w a len) :
    Calls Try.prog 16 #[.slice a len cap] w (DcPost w) := by
  have HC := Lib.hid (cur_box (cap := cap) h 104 26 #[.int .i64 0, .int .i64 0])
  clear h
  go_enter Try.func16, Try.ntmps16
  go_wp2_with fail
  refine (line_any (w.heap.size + 1) (w.heap.size + 1) 0 _ HC.out (by omega)).mono ?_
  rintro e w1 ⟨v, l, rfl, S, hl, hb⟩
  have hlt1 := S.lt
  have SS := Lib.hid S
  clear S
  go_wp2_with fail
  refine (rope_any (w.heap.size + 1) (w.heap.size + 1) (0 + 200) _ SS.out.cur (by omega)).mono ?_
  rintro e w2 ⟨r, rfl, hc, hg⟩
  have S2 := Lib.hid (SS.out.call hc hg)
  clear hc hg SS
  go_wp2_with fail
  refine (ground_any (w.heap.size + 1) (w.heap.size + 1) (0 + 200 + 4) v l w2 _ S2.out hl hb (by omega)).mono ?_
  rintro e w3 ⟨vg, g, rfl, hrg, hg8, hbl, hc, hg⟩
  have S3 := Lib.hid (S2.out.call hc hg)
  have HRG3 := Lib.hid hrg
  have HBL := Lib.hid hbl
  clear hc hg S2 hrg hbl
  have K := box_kept (w := w) (cs := #[.int .i64 0, .int .i64 0]) (t2 := 26) S3.out.gr
  have BB := Lib.hid (box_base S3.out.gr)
  have q0' := cell_of_row w3 w.heap.size 0 _ _ _ K
  have q1' := cell_of_row w3 w.heap.size 1 _ _ _ K
  have m0 := frozen_of_row w3 w.heap.size 0 _ _ K
  have m1 := frozen_of_row w3 w.heap.size 1 _ _ K
  have b0 := blk_setD (i := 0) (v := .int .i64 r.w) K
  have z0 := cell_of_row _ w.heap.size 0 _ _ _ b0
  have b1 := blk_setD (i := 1) (v := .int .i64 r.p) b0
  have z1 := cell_of_row _ w.heap.size 1 _ _ _ b1
  simp at q0' q1' z0 z1
  have Z0 := Lib.hid z0
  have Z1 := Lib.hid z1
  clear b0 b1 z0 z1 K
  have GG := Lib.hid (grown_trans (row := some w.heap.size) (grown_setCell w3 w.heap.size 0 (.int .i64 r.w)) (grown_setCell _ w.heap.size 1 (.int .i64 r.p)))
  go_wp2
  refine bodyPost_ret (v := .tuple #[v, .agg #[.int .i64 r.w, .int .i64 r.p], vg]) (by simp [results, Try.results16, go_sem, Z0.out, Z1.out]) rfl ?_
  exact ⟨_, l, r, _, g, rfl, rs_grown (Rs.of_own S3.out.own) GG.out (fun j hj => by have := S3.out.blk j hj; omega), hl, ⟨rs_grown HRG3.out GG.out (fun j hj => by have := HBL.out j hj; omega), hg8⟩, (BB.out.setCell (Nat.le_refl _) _).setCell (Nat.le_refl _) _⟩
set_option maxRecDepth 100000 in
set_option maxHeartbeats 2000000 in
theorem DrawClearanceAt_any (a : Option Addr) (len cap : Nat) (w : World) (h : ByteRow w a len) :
    Calls Try.prog 21 #[.slice a len cap] w (DaPost w) := by
  have HC := Lib.hid (cur_box (cap := cap) h 104 26 #[.int .i64 0, .int .i64 0])
  clear h
  go_enter Try.func21, Try.ntmps21
  go_wp2_with fail
  refine (line_any (w.heap.size + 1) (w.heap.size + 1) 0 _ HC.out (by omega)).mono ?_
  rintro e w1 ⟨v, l, rfl, S, hl, hb⟩
  have hlt1 := S.lt
  have SS := Lib.hid S
  clear S
  go_wp2_with fail
  refine (rope_any (w.heap.size + 1) (w.heap.size + 1) (0 + 200) _ SS.out.cur (by omega)).mono ?_
  rintro e w2 ⟨r, rfl, hc, hg⟩
  have S2 := Lib.hid (SS.out.call hc hg)
  clear hc hg SS
  go_wp2_with fail
  refine (ground_any (w.heap.size + 1) (w.heap.size + 1) (0 + 200 + 4) v l w2 _ S2.out hl hb (by omega)).mono ?_
  rintro e w3 ⟨vg, g, rfl, hrg, hg8, hbl, hc, hg⟩
  have S3 := Lib.hid (S2.out.call hc hg)
  have HRG3 := Lib.hid hrg
  have HBL := Lib.hid hbl
  clear hc hg S2 hrg hbl
  go_wp2_with fail
  refine (placeOf_any (w.heap.size + 1) (w.heap.size + 1) (0 + 200 + 4 + 50) v l w3 _ S3.out hl hb (by omega)).mono ?_
  rintro e w4 ⟨p, rfl, hp, hc, hg⟩
  have S4 := Lib.hid (S3.out.call hc hg)
  have HRG4 := Lib.hid (rs_grown HRG3.out hg (fun j hj => by have := HBL.out j hj; omega))
  clear hc hg S3 HRG3
  have K := box_kept (w := w) (cs := #[.int .i64 0, .int .i64 0]) (t2 := 26) S4.out.gr
  have BB := Lib.hid (box_base S4.out.gr)
  have q0' := cell_of_row w4 w.heap.size 0 _ _ _ K
  have q1' := cell_of_row w4 w.heap.size 1 _ _ _ K
  have m0 := frozen_of_row w4 w.heap.size 0 _ _ K
  have m1 := frozen_of_row w4 w.heap.size 1 _ _ K
  have b0 := blk_setD (i := 0) (v := .int .i64 r.w) K
  have z0 := cell_of_row _ w.heap.size 0 _ _ _ b0
  have b1 := blk_setD (i := 1) (v := .int .i64 r.p) b0
  have z1 := cell_of_row _ w.heap.size 1 _ _ _ b1
  simp at q0' q1' z0 z1
  have Z0 := Lib.hid z0
  have Z1 := Lib.hid z1
  clear b0 b1 z0 z1 K
  have GG := Lib.hid (grown_trans (row := some w.heap.size) (grown_setCell w4 w.heap.size 0 (.int .i64 r.w)) (grown_setCell _ w.heap.size 1 (.int .i64 r.p)))
  go_wp2
  refine bodyPost_ret (v := .tuple #[v, .agg #[.int .i64 r.w, .int .i64 r.p], vg, .int .i64 p]) (by simp [results, Try.results21, go_sem, Z0.out, Z1.out]) rfl ?_
  exact ⟨_, l, r, _, g, p, rfl, rs_grown (Rs.of_own S4.out.own) GG.out (fun j hj => by have := S4.out.blk j hj; omega), hl, ⟨rs_grown HRG4.out GG.out (fun j hj => by have := HBL.out j hj; omega), hg8⟩, hp, (BB.out.setCell (Nat.le_refl _) _).setCell (Nat.le_refl _) _⟩
set_option maxRecDepth 100000 in
set_option maxHeartbeats 2000000 in
theorem DrawIsGround_any (a : Option Addr) (len cap : Nat) (w : World) (h : ByteRow w a len) :
    Calls Try.prog 23 #[.slice a len cap] w (DgPost w) := by
  have HC := Lib.hid (cur_new (cap := cap) h 104)
  clear h
  go_enter Try.func23, Try.ntmps23
  go_wp2_with fail
  refine (line_any w.heap.size w.heap.size 0 _ HC.out (by omega)).mono ?_
  rintro e w1 ⟨v, l, rfl, S, hl, hb⟩
  have hlt1 := S.lt
  have SS := Lib.hid S
  clear S
  go_wp2_with fail
  refine (ground_any w.heap.size w.heap.size (0 + 200) v l w1 _ SS.out hl hb (by omega)).mono ?_
  rintro e w3 ⟨vg, g, rfl, hrg, hg8, hbl, hc, hg⟩
  have S3 := Lib.hid (SS.out.call hc hg)
  have HRG3 := Lib.hid hrg
  have HBL := Lib.hid hbl
  clear hc hg SS hrg hbl
  have BB := Lib.hid (((Below.refl w.heap.size w).alloc (Nat.le_refl _) (.cells #[.slice a len cap, .int .i64 0, .int .u64 0] 104)).trans (grown_below S3.out.gr (by simp) (fun k hk => by cases hk; exact Nat.le_refl _)))
  go_wp2_with fail
  go_ret2
  exact ⟨_, l, _, g, rfl, Rs.of_own S3.out.own, hl, ⟨HRG3.out, hg8⟩, BB.out⟩
set_option maxRecDepth 100000 in
set_option maxHeartbeats 2000000 in
theorem DrawTowerAngle_any (a : Option Addr) (len cap : Nat) (w : World) (h : ByteRow w a len) :
    Calls Try.prog 25 #[.slice a len cap] w (DtPost w) := by
  have HC := Lib.hid (cur_box (cap := cap) h 104 26 #[.int .i64 0, .int .i64 0])
  clear h
  go_enter Try.func25, Try.ntmps25
  go_wp2_with fail
  refine (line_any (w.heap.size + 1) (w.heap.size + 1) 0 _ HC.out (by omega)).mono ?_
  rintro e w1 ⟨v, l, rfl, S, hl, hb⟩
  have hlt1 := S.lt
  have SS := Lib.hid S
  clear S
  go_wp2_with fail
  refine (rope_any (w.heap.size + 1) (w.heap.size + 1) (0 + 200) _ SS.out.cur (by omega)).mono ?_
  rintro e w2 ⟨r, rfl, hc, hg⟩
  have S2 := Lib.hid (SS.out.call hc hg)
  clear hc hg SS
  obtain ⟨gv, cv, rfl, hgv, hcv, hmv⟩ := StL.shape S2.out (by omega)
  have q1 : IntKind.i64.wrap ((l.length : Int) + 1) = (l.length : Int) + 1 := IntWalk.i64_in _ (by omega)
  go_wp2_with fail
  refine (pick_any (w.heap.size + 1) (w.heap.size + 1) (0 + 200 + 4) ((l.length : Int) + 1) w2 S2.out.cur (by omega) (by omega) (by omega)).mono ?_
  rintro e w4 ⟨x, rfl, hx, hc, hg⟩
  have S4 := Lib.hid (S2.out.call hc hg)
  clear hc hg S2
  go_wp2_with fail
  refine (pick_any (w.heap.size + 1) (w.heap.size + 1) (0 + 200 + 4 + 2) 9 w4 S4.out.cur (by omega) (by omega) (by omega)).mono ?_
  rintro e w5 ⟨y, rfl, hy, hc, hg⟩
  have S5 := Lib.hid (S4.out.call hc hg)
  clear hc hg S4
  have t1 : Int.tdiv (y : Int) 8 = (y : Int) / 8 := Int.tdiv_eq_ediv_of_nonneg (by omega)
  have q2 : IntKind.i64.wrap ((y : Int) / 8) = (y : Int) / 8 := IntWalk.i64_in _ (by omega)
  have q3 : IntKind.i64.wrap ((x : Int) - (y : Int) / 8) = (x : Int) - (y : Int) / 8 := IntWalk.i64_in _ (by omega)
  have K := box_kept (w := w) (cs := #[.int .i64 0, .int .i64 0]) (t2 := 26) S5.out.gr
  have BB := Lib.hid (box_base S5.out.gr)
  have q0' := cell_of_row w5 w.heap.size 0 _ _ _ K
  have q1' := cell_of_row w5 w.heap.size 1 _ _ _ K
  have m0 := frozen_of_row w5 w.heap.size 0 _ _ K
  have m1 := frozen_of_row w5 w.heap.size 1 _ _ K
  have b0 := blk_setD (i := 0) (v := .int .i64 r.w) K
  have z0 := cell_of_row _ w.heap.size 0 _ _ _ b0
  have b1 := blk_setD (i := 1) (v := .int .i64 r.p) b0
  have z1 := cell_of_row _ w.heap.size 1 _ _ _ b1
  simp at q0' q1' z0 z1
  have Z0 := Lib.hid z0
  have Z1 := Lib.hid z1
  clear b0 b1 z0 z1 K
  have GG := Lib.hid (grown_trans (row := some w.heap.size) (grown_setCell w5 w.heap.size 0 (.int .i64 r.w)) (grown_setCell _ w.heap.size 1 (.int .i64 r.p)))
  go_wp2
  refine bodyPost_ret (v := .tuple #[.slice (some ⟨gv, 0, none⟩) l.length cv, .agg #[.int .i64 r.w, .int .i64 r.p], .int .i64 ((x : Int) - (y : Int) / 8)]) (by simp [results, Try.results25, go_sem, Z0.out, Z1.out]) rfl ?_
  exact ⟨_, l, r, (x : Int) - (y : Int) / 8, rfl, rs_grown (Rs.of_own S5.out.own) GG.out (fun j hj => by have := S5.out.blk j hj; omega), hl, by omega, (BB.out.setCell (Nat.le_refl _) _).setCell (Nat.le_refl _) _⟩
end Go.Proofs.Yteglekfiannncaa

namespace Go.Proofs.Yteglekfiannncaa
open Go.RowKit
set_option linter.unusedVariables false
/-- No place up to k is lower than the lowest one. -/
theorem lowN_min {l : List Sup} {r : Rp} {g : List GP} (hL : IsL l) (hR : isR r = true) (hG : IsG l g) : ∀ k, k ≤ endN l → ∀ p, p ≤ k → ¬ frLt (cRn l r g (p : Int)) (cRd l r g (p : Int)) (cRn l r g (lowN l r g k : Int)) (cRd l r g (lowN l r g k : Int))
  | 0, _, p, hp => by
    obtain rfl : p = 0 := by omega
    show ¬ frLt _ _ _ _
    unfold lowN frLt
    exact Int.lt_irrefl _
  | k + 1, hk, p, hp => by
    have ok : ∀ q : Nat, q ≤ endN l → 0 < cRd l r g (q : Int) := fun q hq => (cR_ok (sg_of hL hR hq) hG).2.1
    by_cases hf : frLt (cRn l r g ((k + 1 : Nat) : Int)) (cRd l r g ((k + 1 : Nat) : Int)) (cRn l r g (lowN l r g k : Int)) (cRd l r g (lowN l r g k : Int))
    · rw [lowN_yes hf]
      by_cases e : p = k + 1
      · subst e; unfold frLt; exact Int.lt_irrefl _
      · have h1 := lowN_min hL hR hG k (by omega) p (by omega)
        have hle := lowN_le l r g k
        refine frLt_trans (ok (k + 1) hk) (ok (lowN l r g k) (by omega)) (ok p (by omega)) ?_ h1
        unfold frLt at hf ⊢
        omega
    · rw [lowN_no hf]
      by_cases e : p = k + 1
      · subst e; exact hf
      · exact lowN_min hL hR hG k (by omega) p (by omega)
/-- At the line's first support the clearance is the difference of the heights. -/
theorem cl_zero {l : List Sup} {r : Rp} {g : List GP} (hL : IsL l) (hR : isR r = true) (hG : IsG l g) : rN (cRn l r g 0) (cRd l r g 0) = (nth l 0).h - (gth g 0).h ∧ rD (cRn l r g 0) (cRd l r g 0) = 1 := by
  have hon : onL l 0 = true := by have := on_of hL (k := 0) (Nat.zero_le _); simpa using this
  have hso : sgOk l r 0 = true := by have := sg_of (r := r) hL hR (k := 0) (Nat.zero_le _); simpa using this
  have hb := (cR_ok (r := r) (g := g) (p := 0) hso hG).2.1
  have hoa := onAt hon
  have hga := gAt hG hon
  have hRb := (isR_iff r).1 hR
  have e1 : spanN l 0 = 0 := spanN_eq (by have := hL.two; omega) (by have := hL.asc (i := 0) (by have := hL.two; omega); have := hL.a0; omega) (fun j hj => by omega)
  have e2 : grN g 0 = 0 := by
    cases e : grN g 0 with
    | zero => rfl
    | succ j =>
      have h1 := grN_least (g := g) (p := 0) (j := 0) (by omega)
      have h2 := hG.asc (i := 0) (by have := hG.two; omega)
      have h3 := hG.zero
      simp only [Nat.zero_add] at h1 h2
      omega
  have hs := (slen_bd hoa.line hoa.lt).1
  have hw := (gLen_bd hga).1
  have hpX : pX l 0 = 0 := by unfold pX; rw [e1, hL.a0]; rfl
  have hc0 : c0N l g 0 = ((nth l 0).h - (gth g 0).h) * c0D l g 0 := by
    unfold c0N c0D chRaw gRaw gLen slen
    rw [e1, e2, hL.a0, hG.zero]
    grind
  have hd0 : 0 < c0D l g 0 := Int.mul_pos hs hw
  have hx := r_cross (c0N l g 0) (c0D l g 0)
  have hN : cRn l r g 0 = ((nth l 0).h - (gth g 0).h) * cRd l r g 0 := by
    unfold cRn cRd
    rw [hpX, Int.zero_mul, Int.mul_zero, Int.zero_mul, Int.sub_zero]
    rw [hc0] at hx ⊢
    generalize (nth l 0).h - (gth g 0).h = H at *
    generalize c0D l g 0 = D at *
    generalize rN (H * D) D = N at *
    generalize rD (H * D) D = M at *
    have : D * N = D * (H * M) := by grind
    have := Int.eq_of_mul_eq_mul_left (by omega) this
    rw [this]
    grind
  obtain ⟨h1, h2⟩ := r_eq (n := cRn l r g 0) (d := cRd l r g 0) (n' := (nth l 0).h - (gth g 0).h) (d' := 1) hb (by omega) (by rw [hN]; grind)
  rw [h1, h2]
  exact r_unit _
/-- The lowest clearance isn't above the one at the first support. -/
theorem low_first {l : List Sup} {r : Rp} {g : List GP} (hL : IsL l) (hR : isR r = true) (hG : IsG l g) :
    rN (cRn l r g (lowN l r g (endN l) : Int)) (cRd l r g (lowN l r g (endN l) : Int)) ≤ ((nth l 0).h - (gth g 0).h) * rD (cRn l r g (lowN l r g (endN l) : Int)) (cRd l r g (lowN l r g (endN l) : Int)) := by
  have hm := lowN_min (r := r) hL hR hG (endN l) (Nat.le_refl _) 0 (Nat.zero_le _)
  have hle := lowN_le l r g (endN l)
  have h1 := (cR_ok (r := r) (sg_of hL hR hle) hG).2.1
  have h0 : 0 < cRd l r g ((0 : Nat) : Int) := (cR_ok (r := r) (sg_of hL hR (k := 0) (Nat.zero_le _)) hG).2.1
  rw [← frLt_r h0 h1] at hm
  obtain ⟨z1, z2⟩ := cl_zero (r := r) hL hR hG
  rw [show ((0 : Nat) : Int) = 0 from rfl, z1, z2] at hm
  unfold frLt at hm
  omega
end Go.Proofs.Yteglekfiannncaa

namespace Go.Proofs.Yteglekfiannncaa
open Go.RowKit
set_option linter.unusedVariables false
theorem here_cells {W : World} {x y u v : Value} {t : TypeId} {b : Nat} :
    (((W.setCell ⟨b, 0, none⟩ u).setCell ⟨b, 1, none⟩ v).alloc (.cells #[x, y] t)).cell? ⟨W.heap.size, 0, none⟩ = some x ∧ (((W.setCell ⟨b, 0, none⟩ u).setCell ⟨b, 1, none⟩ v).alloc (.cells #[x, y] t)).cell? ⟨W.heap.size, 1, none⟩ = some y := by
  have K : (((W.setCell ⟨b, 0, none⟩ u).setCell ⟨b, 1, none⟩ v).alloc (.cells #[x, y] t)).heap[W.heap.size]? = some (.cells #[x, y] t (0, 0)) := new_alloc (by rw [Go.Deep.nblk_setCell, Go.Deep.nblk_setCell])
  have p0 := cell_of_row _ W.heap.size 0 _ _ _ K
  have p1 := cell_of_row _ W.heap.size 1 _ _ _ K
  simp at p0 p1
  exact ⟨p0, p1⟩
theorem here_cellsD {W : World} {x y u v : Value} {t : TypeId} {b : Nat} :
    (((W.setCell ⟨b, 0, none⟩ u).setCell ⟨b, 1, none⟩ v).alloc (.cells #[x, y] t)).drew.cell? ⟨W.heap.size, 0, none⟩ = some x ∧ (((W.setCell ⟨b, 0, none⟩ u).setCell ⟨b, 1, none⟩ v).alloc (.cells #[x, y] t)).drew.cell? ⟨W.heap.size, 1, none⟩ = some y := here_cells
set_option maxRecDepth 100000 in
set_option maxHeartbeats 4000000 in
theorem implLowestClearance_c (v0 : Value) (l : List Sup) (r : Rp) (v1 : Value) (g : List GP) (w : World) (hr0 : Rs w v0 l.length (sups l)) (hn : l.length ≤ 1048576) (hr1 : Rs w v1 g.length (gps g)) (hng : g.length ≤ 1048576) :
    Calls Try.prog 17 #[v0, .agg #[.int .i64 r.w, .int .i64 r.p], v1] w fun e w' => e = .returned (.tuple #[.int .i64 (loP l r g), .int .i64 (loN l r g), .int .i64 (loD l r g), .bool (loOk l r g)]) ∧ Below w.heap.size w w' := by
  have HX := Lib.hid (fun W h => box_Rp w r 26 _ rfl W h)
  have HR0 := Lib.hid (hr0.below ((Below.refl _ _).alloc (Nat.le_refl _) (.cells #[.int .i64 r.w, .int .i64 r.p] 26)) rfl)
  have HR1 := Lib.hid (hr1.below ((Below.refl _ _).alloc (Nat.le_refl _) (.cells #[.int .i64 r.w, .int .i64 r.p] 26)) rfl)
  have HB0 : Hid (Below w.heap.size w (w.alloc (.cells #[.int .i64 r.w, .int .i64 r.p] 26))) := Lib.hid ((Below.refl _ _).alloc (Nat.le_refl _) _)
  have E0 := Lib.hid (fun W => implIsRope_c r W)
  have E1 := Lib.hid (fun W hW hW1 => implIsGround_c v0 l v1 g W hW hn hW1 hng)
  have hD : loOk l r g = (isR r && isG l g) := rfl
  cases hok : loOk l r g with
  | false =>
    have HV := Lib.hid (lo_no hok)
    rw [HV.out.1, HV.out.2.1, HV.out.2.2]
    rw [hok] at hD
    have HD := Lib.hid hD.symm
    clear hok HV hD hr0 hr1
    cases ho : isR r with
    | false =>
      rw [ho] at E0
      clear HD E1 ho HX
      go_enter Try.func17, Try.ntmps17
      go_wp2_with fail
      refine (E0.out _).mono ?_
      rintro e w1 ⟨rfl, b1⟩
      go_wp2
      (try simp only [Exit.inBlock, Exit.then])
      refine bodyPost_ret (results_tmp4 rfl _ _ _) rfl ?_
      exact ⟨rfl, HB0.out.trans (b1.mono HB0.out.size)⟩
    | true =>
      rw [ho] at E0
      have hq : isG l g = false := by have := HD.out; rw [ho] at this; simpa using this
      rw [hq] at E1
      clear HD ho HX
      go_enter Try.func17, Try.ntmps17
      go_wp2_with fail
      refine (E0.out _).mono ?_
      rintro e w1 ⟨rfl, b1⟩
      have B1 := Lib.hid (HB0.out.trans (b1.mono HB0.out.size))
      go_wp2_with fail
      refine (E1.out _ (HR0.out.below b1 rfl) (HR1.out.below b1 rfl)).mono ?_
      rintro e w2 ⟨rfl, b2⟩
      go_wp2
      (try simp only [Exit.inBlock, Exit.then])
      refine bodyPost_ret (results_tmp4 rfl _ _ _) rfl ?_
      exact ⟨rfl, B1.out.trans (b2.mono B1.out.size)⟩
  | true =>
    have HV := Lib.hid (lo_yes hok)
    rw [HV.out.1, HV.out.2.1, HV.out.2.2]
    rw [hok, eq_comm, Bool.and_eq_true] at hD
    obtain ⟨hR, hg⟩ := hD
    have hG := (isG_iff l g).1 hg
    have hL := hG.line
    rw [hR] at E0
    rw [hg] at E1
    obtain ⟨he1, he2⟩ := endN_eq hL
    have HCl : Hid (∀ (k : Nat), k ≤ endN l → ∀ W, Rs W v0 l.length (sups l) → Rs W v1 g.length (gps g) → Calls Try.prog 20 #[v0, .agg #[.int .i64 r.w, .int .i64 r.p], v1, .int .i64 (k : Int)] W fun e w' => e = .returned (.tuple #[.int .i64 (rN (cRn l r g k) (cRd l r g k)), .int .i64 (rD (cRn l r g k) (cRd l r g k)), .bool true]) ∧ Below W.heap.size W w') := Lib.hid (fun k hk W hW hW1 => by
      have h1 : clOk l r g (k : Int) = true := by unfold clOk; rw [sg_of hL hR hk, hg]; rfl
      obtain ⟨h2, h3⟩ := cl_yes h1
      have := implClearanceAt_c v0 l r v1 g (k : Int) W hW hn hW1 hng (by simp [Lit.wf, IntKind.min, IntKind.max, IntKind.bits, IntKind.signed]; omega)
      rw [h1, h2, h3] at this
      exact this)
    have HOK := Lib.hid (fun (k : Nat) (hk : k ≤ endN l) => cR_ok (sg_of hL hR hk) hG)
    have h2 := hL.two
    have h8 := hL.eight
    obtain ⟨a, oa, ca, rfl, hla, hm, hs⟩ := hr0.sup (by omega)
    have HA := Lib.hid hs
    obtain ⟨p1, p2, p3⟩ := pred_in l.length (by omega) (by omega)
    have hi1 : l.length - 1 < l.length := by omega
    have hi2 : (l.length : Int) - 1 < (l.length : Int) := by omega
    have HN : Hid (∀ k, lowN l r g k ≤ k) := Lib.hid (lowN_le l r g)
    have HYes : Hid (∀ k, frLt (cRn l r g ((k + 1 : Nat) : Int)) (cRd l r g ((k + 1 : Nat) : Int)) (cRn l r g (lowN l r g k : Int)) (cRd l r g (lowN l r g k : Int)) → lowN l r g (k + 1) = k + 1) := Lib.hid (fun k => lowN_yes)
    have HNo : Hid (∀ k, ¬ frLt (cRn l r g ((k + 1 : Nat) : Int)) (cRd l r g ((k + 1 : Nat) : Int)) (cRn l r g (lowN l r g k : Int)) (cRd l r g (lowN l r g k : Int)) → lowN l r g (k + 1) = lowN l r g k) := Lib.hid (fun k => lowN_no)
    have H00 : Hid (lowN l r g 0 = 0) := Lib.hid rfl
    clear hr0 hr1 hs HV hok hR hg hG hL
    generalize hE : endN l = E at *
    generalize hZ : (nth l (l.length - 1)).a = Z at *
    subst he1
    have HZ := Lib.hid hZ
    clear hZ hE
    have p4 : IntKind.i64.wrap ((E : Int) + 1) = (E : Int) + 1 := IntWalk.i64_in _ (by omega)
    go_enter Try.func17, Try.ntmps17
    go_wp2_with fail
    refine (E0.out _).mono ?_
    rintro e w1 ⟨rfl, b1⟩
    have HR01 := Lib.hid (HR0.out.below b1 rfl)
    have HR11 := Lib.hid (HR1.out.below b1 rfl)
    go_wp2_with fail
    refine (E1.out _ HR01.out HR11.out).mono ?_
    rintro e w2 ⟨rfl, b2⟩
    have HR02 := Lib.hid (HR01.out.below b2 rfl)
    have HR12 := Lib.hid (HR11.out.below b2 rfl)
    have hb2 := b1.trans (b2.mono b1.size)
    have HX2 := Lib.hid (fun W (h : Below w2.heap.size w2 W) => HX.out W ((show Below (w.heap.size + 1) _ w2 by simpa using hb2).trans (h.mono (by have := hb2.size; simpa using this))))
    have B2 := Lib.hid (HB0.out.trans (hb2.mono HB0.out.size))
    have hz2 := hb2.size
    simp at hz2
    obtain ⟨c0, _, _⟩ := (HA.out.below B2.out hla) (l.length - 1) (by omega)
    rw [HZ.out] at c0
    have hla2 : a < w2.heap.size := by omega
    clear b1 b2 hb2 HR01 HR11 HX HR0 HR1 HB0 E0 E1
    go_wp2_with fail
    clear p1 p2 p3 c0
    go_loopw [10, 35] (fun bst i wr => ∃ k : Nat, k ≤ E + 1 ∧ i = .int .i64 (k : Int) ∧ Below w2.heap.size w2 wr ∧ w2.heap.size < wr.heap.size ∧ ((k = 0 ∧ bst = .int .i64 0 ∧ Hid (wr.heap[w2.heap.size]? = some (.cells #[.int .i64 0, .int .i64 0] 109 (0, 0)))) ∨ ∃ j, k = j + 1 ∧ bst = .int .i64 (lowN l r g j : Int) ∧ Hid (wr.heap[w2.heap.size]? = some (.cells #[.int .i64 (rN (cRn l r g (lowN l r g j : Int)) (cRd l r g (lowN l r g j : Int))), .int .i64 (rD (cRn l r g (lowN l r g j : Int)) (cRd l r g (lowN l r g j : Int)))] 109 (0, 0))))) (fun _ i _ => E + 1 - (intOf i).toNat)
    case atStart => exact ⟨0, Nat.zero_le _, rfl, (Below.refl _ _).alloc (Nat.le_refl _) _, by simp, .inl ⟨rfl, rfl, Lib.hid (heap_alloc_new _ _)⟩⟩
    case round =>
      obtain ⟨k, hk, rfl, hb, hsz, hc⟩ := hrel
      have HRa := Lib.hid (HR02.out.below hb rfl)
      have HRb := Lib.hid (HR12.out.below hb rfl)
      obtain ⟨x0, x1⟩ := HX2.out wr hb
      by_cases hle : k ≤ E
      · have hki : (k : Int) < (E : Int) + 1 := by omega
        obtain ⟨⟨q1, q2⟩, q3, q4⟩ := HOK.out k hle
        obtain ⟨p4', p5, p6⟩ := succ_in k (by omega)
        have HCk := Lib.hid (HCl.out k hle wr HRa.out HRb.out)
        have n1 := rN_bd (B := 23400000000000000) q3 q1 q2
        have n2 := rD_pos (n := cRn l r g (k : Int)) q3
        have n3 := rD_le (n := cRn l r g (k : Int)) q3
        rcases hc with ⟨hk0, rfl, HK⟩ | ⟨j, hkj, rfl, HK⟩
        · have HL' : Hid (lowN l r g k = k) := Lib.hid (by rw [hk0]; exact H00.out)
          have hkz : ((k : Int) == 0) = true := by rw [beq_iff_eq]; omega
          clear hk0
          go_wp2_with fail
          refine HCk.out.mono ?_
          rintro e w4 ⟨rfl, b4⟩
          have hs4 := b4.size
          have K4 := (b4.block w2.heap.size hsz).trans HK.out
          have HK4 := Lib.hid K4
          have HB4 := Lib.hid (hb.trans (b4.mono hb.size))
          have f0 := cell_of_row w4 w2.heap.size 0 _ _ _ K4
          have f1 := cell_of_row w4 w2.heap.size 1 _ _ _ K4
          have m0 := frozen_of_row w4 w2.heap.size 0 _ _ K4
          have m1 := frozen_of_row w4 w2.heap.size 1 _ _ K4
          simp at f0 f1
          have hlt4 : w2.heap.size < w4.heap.size := by omega
          have hne4 : w2.heap.size ≠ w4.heap.size := by omega
          clear K4 x0 x1
          go_wp2_with fail
          go_region
          go_wp2
          go_roundw
          case rel =>
            refine ⟨k + 1, by omega, by go_num, (((HB4.out.setCell (Nat.le_refl _) _).setCell (Nat.le_refl _) _).alloc (by rw [Go.Deep.nblk_setCell, Go.Deep.nblk_setCell]; omega) _).drew, ?_, .inr ⟨k, rfl, by rw [HL'.out], Lib.hid ?_⟩⟩
            · show w2.heap.size < (World.alloc _ _).heap.size
              have := asz ((w4.setCell ⟨w2.heap.size, 0, none⟩ (.int .i64 (rN (cRn l r g (k : Int)) (cRd l r g (k : Int))))).setCell ⟨w2.heap.size, 1, none⟩ (.int .i64 (rD (cRn l r g (k : Int)) (cRd l r g (k : Int))))) (.cells #[.int .i64 (rN (cRn l r g (k : Int)) (cRd l r g (k : Int))), .int .i64 (rD (cRn l r g (k : Int)) (cRd l r g (k : Int)))] 109)
              rw [Go.Deep.nblk_setCell, Go.Deep.nblk_setCell] at this
              omega
            · rw [HL'.out]
              exact old_alloc (blk_set (blk_set HK4.out))
          case measure => simp [intOf]; omega
        · obtain ⟨⟨r1, r2⟩, r3, r4⟩ := HOK.out (lowN l r g j) (by have := HN.out j; omega)
          have u1 := rN_bd (B := 23400000000000000) r3 r1 r2
          have u2 := rD_pos (n := cRn l r g (lowN l r g j : Int)) r3
          have u3 := rD_le (n := cRn l r g (lowN l r g j : Int)) r3
          have HY := HYes.out j
          have HNN := HNo.out j
          rw [← hkj] at HY HNN
          have HF := Lib.hid (fun W => isLess_c (rN (cRn l r g (k : Int)) (cRd l r g (k : Int))) (rD (cRn l r g (k : Int)) (cRd l r g (k : Int))) (rN (cRn l r g (lowN l r g j : Int)) (cRd l r g (lowN l r g j : Int))) (rD (cRn l r g (lowN l r g j : Int)) (cRd l r g (lowN l r g j : Int))) W (by omega) (by omega) (by omega) (by omega))
          have hfr := frLt_r (a := cRn l r g (k : Int)) (b := cRd l r g (k : Int)) (c := cRn l r g (lowN l r g j : Int)) (d := cRd l r g (lowN l r g j : Int)) q3 r3
          rw [← hfr] at HY HNN
          have hkz : ((k : Int) == 0) = false := by rw [beq_eq_false_iff_ne]; omega
          by_cases hf : frLt (rN (cRn l r g (k : Int)) (cRd l r g (k : Int))) (rD (cRn l r g (k : Int)) (cRd l r g (k : Int))) (rN (cRn l r g (lowN l r g j : Int)) (cRd l r g (lowN l r g j : Int))) (rD (cRn l r g (lowN l r g j : Int)) (cRd l r g (lowN l r g j : Int)))
          · have HYY := Lib.hid (HY hf)
            rw [decide_eq_true hf] at HF
            clear hf HY HNN hkj hfr
            go_wp2_with fail
            refine HCk.out.mono ?_
            rintro e w4 ⟨rfl, b4⟩
            have hs4 := b4.size
            have K4 := (b4.block w2.heap.size hsz).trans HK.out
            have HK4 := Lib.hid K4
            have HB4 := Lib.hid (hb.trans (b4.mono hb.size))
            have f0 := cell_of_row w4 w2.heap.size 0 _ _ _ K4
            have f1 := cell_of_row w4 w2.heap.size 1 _ _ _ K4
            simp at f0 f1
            have hlt4 : w2.heap.size < w4.heap.size := by omega
            have hne4 : w2.heap.size ≠ w4.heap.size := by omega
            clear K4 x0 x1 b4
            go_wp2_with fail
            refine (HF.out _).mono ?_
            rintro e w6 ⟨rfl, b6⟩
            have hs6 := b6.size
            rw [← asz] at hs6
            have K6 := (b6.block w2.heap.size (by rw [← asz]; omega)).trans (old_alloc HK4.out)
            have H6 := (b6.block w4.heap.size (by rw [← asz]; omega)).trans (new_alloc rfl)
            have HB6 := Lib.hid (HB4.out.trans (((Below.refl w4.heap.size w4).alloc (Nat.le_refl _) _ |>.trans (b6.mono (by rw [← asz]; omega))).mono HB4.out.size))
            have HK6 := Lib.hid K6
            have g0 := cell_of_row w6 w2.heap.size 0 _ _ _ K6
            have g1 := cell_of_row w6 w2.heap.size 1 _ _ _ K6
            have m0 := frozen_of_row w6 w2.heap.size 0 _ _ K6
            have m1 := frozen_of_row w6 w2.heap.size 1 _ _ K6
            have d0 := cell_of_row w6 w4.heap.size 0 _ _ _ H6
            have d1 := cell_of_row w6 w4.heap.size 1 _ _ _ H6
            simp at g0 g1 d0 d1
            clear K6 H6 f0 f1 b6
            go_wp2_with fail
            go_region
            go_wp2
            go_roundw
            case rel =>
              refine ⟨k + 1, by omega, by go_num, ((HB6.out.setCell (Nat.le_refl _) _).setCell (Nat.le_refl _) _).drew, ?_, .inr ⟨k, rfl, by rw [HYY.out], Lib.hid ?_⟩⟩
              · show w2.heap.size < (World.setCell _ _ _).heap.size
                rw [Go.Deep.nblk_setCell, Go.Deep.nblk_setCell]; omega
              · rw [HYY.out]
                exact blk_set (blk_set HK6.out)
            case measure => simp [intOf]; omega
          · have HYY := Lib.hid (HNN hf)
            rw [decide_eq_false hf] at HF
            clear hf HY HNN hkj hfr
            go_wp2_with fail
            refine HCk.out.mono ?_
            rintro e w4 ⟨rfl, b4⟩
            have hs4 := b4.size
            have K4 := (b4.block w2.heap.size hsz).trans HK.out
            have HK4 := Lib.hid K4
            have HB4 := Lib.hid (hb.trans (b4.mono hb.size))
            have f0 := cell_of_row w4 w2.heap.size 0 _ _ _ K4
            have f1 := cell_of_row w4 w2.heap.size 1 _ _ _ K4
            simp at f0 f1
            have hlt4 : w2.heap.size < w4.heap.size := by omega
            have hne4 : w2.heap.size ≠ w4.heap.size := by omega
            clear K4 x0 x1 b4
            go_wp2_with fail
            refine (HF.out _).mono ?_
            rintro e w6 ⟨rfl, b6⟩
            have hs6 := b6.size
            rw [← asz] at hs6
            have HK6 := Lib.hid ((b6.block w2.heap.size (by rw [← asz]; omega)).trans (old_alloc HK4.out))
            have HB6 := Lib.hid (HB4.out.trans (((Below.refl w4.heap.size w4).alloc (Nat.le_refl _) _ |>.trans (b6.mono (by rw [← asz]; omega))).mono HB4.out.size))
            clear f0 f1 b6
            go_wp2
            go_roundw
            case rel =>
              exact ⟨k + 1, by omega, by go_num, HB6.out, by omega, .inr ⟨k, rfl, by rw [HYY.out], Lib.hid (by rw [HYY.out]; exact HK6.out)⟩⟩
            case measure => simp [intOf]; omega
      · obtain rfl : k = E + 1 := by omega
        rcases hc with ⟨h, _⟩ | ⟨j, hj, rfl, HK⟩
        · omega
        · obtain rfl : E = j := by omega
          have hki : ¬ ((E : Int) + 1 < (E : Int) + 1) := by omega
          have f0 := cell_of_row wr w2.heap.size 0 _ _ _ HK.out
          have f1 := cell_of_row wr w2.heap.size 1 _ _ _ HK.out
          simp at f0 f1
          clear x0 x1
          go_wp2
          go_quiet (fail)
          go_wp2
          (try simp only [Exit.inBlock, Exit.then])
          refine bodyPost_ret (results_tmp4 rfl _ _ _) rfl ?_
          exact ⟨rfl, below_drewN (B2.out.trans (hb.mono B2.out.size)) _⟩
end Go.Proofs.Yteglekfiannncaa

namespace Go.Proofs.Yteglekfiannncaa
open Go.RowKit
set_option linter.unusedVariables false
theorem sg_zero (l : List Sup) (r : Rp) : sgOk l r 0 = (isL l && isR r) := by
  unfold sgOk
  cases hl : isL l with
  | false => simp [onL, hl]
  | true => have := on_of (isL_yes hl) (k := 0) (Nat.zero_le _); simp at this; rw [this]
set_option maxRecDepth 100000 in
set_option maxHeartbeats 8000000 in
theorem specTowerAngle_c (v : Value) (l : List Sup) (r : Rp) (s : Int) (w : World) (hr : Rs w v l.length (sups l)) (hn : l.length ≤ 1048576) (hsw : (Lit.int .i64 s).wf = true) :
    Calls Try.prog 27 #[v, .agg #[.int .i64 r.w, .int .i64 r.p], .int .i64 s] w fun e w' => e = .returned (.tuple #[.int .i64 (taN l r s), .int .i64 (taD l r s), .bool (taOk l r s)]) ∧ Below w.heap.size w w' := by
  clear hsw
  have E2 := Lib.hid (fun W => l1In_c s 1 ((l.length : Int) - 2) W)
  have HX := Lib.hid (fun W h => box_Rp w r 26 _ rfl W h)
  have HR := Lib.hid (hr.below ((Below.refl _ _).alloc (Nat.le_refl _) (.cells #[.int .i64 r.w, .int .i64 r.p] 26)) rfl)
  have HB0 : Hid (Below w.heap.size w (w.alloc (.cells #[.int .i64 r.w, .int .i64 r.p] 26))) := Lib.hid ((Below.refl _ _).alloc (Nat.le_refl _) _)
  have E0 := Lib.hid (fun W hW => l4Asked_c v l r 0 W hW hn)
  have hD : taOk l r s = (sgOk l r 0 && inR s 1 ((l.length : Int) - 2)) := by rw [sg_zero]; rfl
  cases hok : taOk l r s with
  | false =>
    obtain ⟨e1, e2⟩ := ta_no hok
    rw [e1, e2]
    rw [hok] at hD
    have HD := Lib.hid hD.symm
    clear hok e1 e2 hD
    cases ho : sgOk l r 0 with
    | false =>
      rw [ho] at E0
      clear E2 HX HD hr ho
      go_enter Try.func27, Try.ntmps27
      go_wp2_with fail
      refine (E0.out _ HR.out).mono ?_
      rintro e w1 ⟨rfl, b1⟩
      go_wp2
      go_ret3
      exact ⟨rfl, HB0.out.trans (b1.mono HB0.out.size)⟩
    | true =>
      have hz := ho
      rw [sg_zero, Bool.and_eq_true] at hz
      have h8 := (isL_yes hz.1).eight
      have h2 := (isL_yes hz.1).two
      rw [ho] at E0 HD
      have hq : inR s 1 ((l.length : Int) - 2) = false := by simpa using HD.out
      rw [hq] at E2
      obtain ⟨a1, ca1, rfl⟩ := hr.shape
      have hlen2 : IntKind.i64.wrap ((l.length : Int) - 2) = (l.length : Int) - 2 := IntWalk.i64_in _ (by omega)
      clear HD hr HX ho hz hq
      go_enter Try.func27, Try.ntmps27
      go_wp2_with fail
      refine (E0.out _ HR.out).mono ?_
      rintro e w1 ⟨rfl, b1⟩
      go_wp2_with fail
      refine (E2.out _).mono ?_
      rintro e w3 ⟨rfl, rfl⟩
      go_wp2
      go_ret3
      exact ⟨rfl, HB0.out.trans (b1.mono HB0.out.size)⟩
  | true =>
    have hok' := hok
    rw [hD, Bool.and_eq_true] at hok'
    obtain ⟨ho, hq⟩ := hok'
    have hz := ho
    rw [sg_zero, Bool.and_eq_true] at hz
    have hL := isL_yes hz.1
    have hRb := (isR_iff r).1 hz.2
    rw [ho] at E0
    rw [hq] at E2
    have hsb := (inR_iff _ _ _).1 hq
    have h8 := hL.eight
    obtain ⟨z, hzs⟩ : ∃ z : Nat, s = ((z + 1 : Nat) : Int) := ⟨(s - 1).toNat, by omega⟩
    subst hzs
    have hzt : (((z + 1 : Nat) : Int)).toNat = z + 1 := by omega
    have hz1 : z + 1 < l.length := by omega
    have hz2 : z + 2 < l.length := by omega
    have b1 := slen_bd hL hz1
    have b2 := slen_bd (i := z + 1) hL hz2
    have b3 := srise_bd hL hz1
    have b4 := srise_bd (i := z + 1) hL hz2
    have a0 := hL.bd (i := z) (by omega)
    have a1 := hL.bd hz1
    have a2 := hL.bd hz2
    have q1 : (nth l (z + 1)).a - (nth l z).a = slen l z := rfl
    have q2 : (nth l (z + 2)).a - (nth l (z + 1)).a = slen l (z + 1) := rfl
    have q3 : (nth l (z + 1)).h - (nth l z).h = srise l z := rfl
    have q4 : (nth l (z + 2)).h - (nth l (z + 1)).h = srise l (z + 1) := rfl
    have HA : taA l r (z + 1) = (srise l z * slen l (z + 1) + -srise l (z + 1) * slen l z) * (2 * r.p) + r.w * (slen l z + slen l (z + 1)) * (slen l z * slen l (z + 1)) := rfl
    have HBb : taB l r (z + 1) = slen l z * slen l (z + 1) * (2 * r.p) := rfl
    have HV : taN l r ((z + 1 : Nat) : Int) = rN (taA l r (z + 1)) (taB l r (z + 1)) ∧ taD l r ((z + 1 : Nat) : Int) = rD (taA l r (z + 1)) (taB l r (z + 1)) := ⟨by simp only [taN, hok, hzt]; rfl, by simp only [taD, hok, hzt]; rfl⟩
    obtain ⟨a, oa, ca, rfl, hla, hm, hs⟩ := hr.sup (by omega)
    have HS := Lib.hid hs
    rw [HV.1, HV.2]
    rw [HA, HBb]
    clear HA HBb HV hok hD ho hz hL hq hr hs hzt
    generalize slen l z = B at *
    generalize slen l (z + 1) = D at *
    generalize srise l z = A at *
    generalize srise l (z + 1) = C at *
    have m1 := mulBd (A := 200) (B := 6000) (by omega : 0 ≤ r.w) hRb.1.2 (by omega : 0 ≤ B + D) (by omega)
    have m2 := absMul (A := 2000) (B := 3000) b3.1 b3.2 (by omega : 0 ≤ D) b2.2
    have m3 := absMul (A := 2000) (B := 3000) b4.1 b4.2 (by omega : 0 ≤ B) b1.2
    have m4 := mulBd (A := 3000) (B := 3000) (by omega : 0 ≤ B) b1.2 (by omega : 0 ≤ D) b2.2
    have m5 := Int.mul_pos b1.1 b2.1
    have eC : A * D - C * B = A * D + -C * B := by rw [Int.neg_mul]; omega
    obtain ⟨k1, k2⟩ := r_add (a := A * D + -C * B) (b := B * D) (c := r.w * (B + D)) (d := 2 * r.p) m5 (by omega)
    rw [← k1, ← k2]
    have HRed := Lib.hid (fun W => l2Reduce_g (A * D + -C * B) (B * D) W (by rw [← eC]; omega) (by rw [← eC]; omega) m5 (by omega))
    have n1 := rN_bd (n := A * D + -C * B) (d := B * D) (B := 12000000) m5 (by rw [← eC]; omega) (by rw [← eC]; omega)
    have n2 := rD_pos (n := A * D + -C * B) m5
    have n3 := rD_le (n := A * D + -C * B) m5
    have s1 : IntKind.i64.wrap (A * D) = A * D := IntWalk.i64_in _ (by omega)
    have s2 : IntKind.i64.wrap (C * B) = C * B := IntWalk.i64_in _ (by omega)
    have s3 : IntKind.i64.wrap (A * D - C * B) = A * D + -C * B := by rw [eC, ← eC]; exact IntWalk.i64_in _ (by omega)
    clear eC k1 k2 m2 m3
    generalize A * D + -C * B = CN at *
    generalize hCD : B * D = CD at *
    have s4 : IntKind.i64.wrap (B * D) = CD := by rw [hCD]; exact IntWalk.i64_in _ (by omega)
    clear hCD
    generalize rN CN CD = N1 at *
    generalize rD CN CD = D1 at *
    have m6 := absMul (A := 12000000) (B := 200000) n1.1 n1.2 (by omega : 0 ≤ 2 * r.p) (by omega)
    have m7 := mulBd (A := 1200000) (B := 9000000) m1.1 (by omega) (by omega : 0 ≤ D1) (by omega)
    have m8 := mulBd (A := 9000000) (B := 200000) (by omega : 0 ≤ D1) (by omega) (by omega : 0 ≤ 2 * r.p) (by omega)
    have m9 := Int.mul_pos n2 (by omega : 0 < 2 * r.p)
    have c1 : N1 * 2 * r.p = N1 * (2 * r.p) := Int.mul_assoc _ _ _
    have c2 : D1 * 2 * r.p = D1 * (2 * r.p) := Int.mul_assoc _ _ _
    have s5 : IntKind.i64.wrap (N1 * 2) = N1 * 2 := IntWalk.i64_in _ (by omega)
    have s6 : IntKind.i64.wrap (N1 * 2 * r.p) = N1 * (2 * r.p) := by rw [c1]; exact IntWalk.i64_in _ (by omega)
    have s7 : IntKind.i64.wrap (B + D) = B + D := IntWalk.i64_in _ (by omega)
    have s8 : IntKind.i64.wrap (r.w * (B + D)) = r.w * (B + D) := IntWalk.i64_in _ (by omega)
    have s9 : IntKind.i64.wrap (r.w * (B + D) * D1) = r.w * (B + D) * D1 := IntWalk.i64_in _ (by omega)
    have s10 : IntKind.i64.wrap (N1 * (2 * r.p) + r.w * (B + D) * D1) = N1 * (2 * r.p) + r.w * (B + D) * D1 := IntWalk.i64_in _ (by omega)
    have s11 : IntKind.i64.wrap (D1 * 2) = D1 * 2 := IntWalk.i64_in _ (by omega)
    have s12 : IntKind.i64.wrap (D1 * 2 * r.p) = D1 * (2 * r.p) := by rw [c2]; exact IntWalk.i64_in _ (by omega)
    have HRed2 := Lib.hid (fun W => l2Reduce_g (N1 * (2 * r.p) + r.w * (B + D) * D1) (D1 * (2 * r.p)) W (by omega) (by omega) m9 (by omega))
    have t1 : IntKind.i64.wrap ((nth l (z + 1)).a - (nth l z).a) = B := by rw [q1]; exact IntWalk.i64_in _ (by omega)
    have t2 : IntKind.i64.wrap ((nth l (z + 2)).a - (nth l (z + 1)).a) = D := by rw [q2]; exact IntWalk.i64_in _ (by omega)
    have t3 : IntKind.i64.wrap ((nth l (z + 1)).h - (nth l z).h) = A := by rw [q3]; exact IntWalk.i64_in _ (by omega)
    have t4 : IntKind.i64.wrap ((nth l (z + 2)).h - (nth l (z + 1)).h) = C := by rw [q4]; exact IntWalk.i64_in _ (by omega)
    clear c1 c2 q1 q2 q3 q4 m1 m4 m5 m6 m7 m8 m9 n1 n2 n3 a0 a1 a2
    obtain ⟨p1, p2, p3⟩ := succ_in z (by omega)
    have p4 : IntKind.i64.wrap ((z : Int) + 1 - 1) = (z : Int) := by rw [show (z : Int) + 1 - 1 = (z : Int) by omega]; exact IntWalk.i64_in _ (by omega)
    have p5 : IntKind.i64.wrap (z : Int) = (z : Int) := IntWalk.i64_in _ (by omega)
    have p6 : (z : Int) < (l.length : Int) := by omega
    have p7 : (z : Int) + 1 < (l.length : Int) := by omega
    have p8 : IntKind.i64.wrap ((z : Int) + 1 + 1) = (z : Int) + 2 := by rw [show (z : Int) + 1 + 1 = (z : Int) + 2 by omega]; exact IntWalk.i64_in _ (by omega)
    have p9 : (z : Int) + 2 < (l.length : Int) := by omega
    have p10 : ((z : Int) + 2).toNat = z + 2 := by omega
    have p11 : 0 ≤ (z : Int) + 2 := by omega
    have i0 : z < l.length := by omega
    have hlen2 : IntKind.i64.wrap ((l.length : Int) - 2) = (l.length : Int) - 2 := IntWalk.i64_in _ (by omega)
    go_enter Try.func27, Try.ntmps27
    go_wp2_with fail
    refine (E0.out _ HR.out).mono ?_
    rintro e w1 ⟨rfl, b1'⟩
    have B1 := Lib.hid (HB0.out.trans (b1'.mono HB0.out.size))
    obtain ⟨k0, k1⟩ := HX.out w1 (by simpa using b1')
    have hz1' : w.heap.size < w1.heap.size := by have := b1'.size; simp at this; omega
    obtain ⟨x0, x1, x2⟩ := (HS.out.below B1.out hla) z (by omega)
    obtain ⟨y0, y1, y2⟩ := (HS.out.below B1.out hla) (z + 1) (by omega)
    obtain ⟨v0, v1, v2⟩ := (HS.out.below B1.out hla) (z + 2) (by omega)
    have hla1 : a < w1.heap.size := by omega
    have hd0 : a ≠ w1.heap.size := by omega
    have hd1 : a ≠ w1.heap.size + 1 := by omega
    have hd2 : a ≠ w1.heap.size + 1 + 1 := by omega
    have hd3 : w.heap.size ≠ w1.heap.size := by omega
    have hd6 : w.heap.size < w1.heap.size + 1 := by omega
    have hd7 : w.heap.size < w1.heap.size + 1 + 1 := by omega
    have hd4 : w.heap.size ≠ w1.heap.size + 1 := by omega
    have hd5 : w.heap.size ≠ w1.heap.size + 1 + 1 := by omega
    have HS3 : Hid (∀ W, Below w1.heap.size w1 W → W.cell? ⟨a, oa + z * 3, none⟩ = some (.int .i64 (nth l z).a) ∧ W.cell? ⟨a, oa + z * 3 + 1, none⟩ = some (.int .i64 (nth l z).h) ∧ W.cell? ⟨a, oa + z * 3 + 2, none⟩ = some (.bool (nth l z).s) ∧ W.cell? ⟨a, oa + (z + 1) * 3, none⟩ = some (.int .i64 (nth l (z + 1)).a) ∧ W.cell? ⟨a, oa + (z + 1) * 3 + 1, none⟩ = some (.int .i64 (nth l (z + 1)).h) ∧ W.cell? ⟨a, oa + (z + 1) * 3 + 2, none⟩ = some (.bool (nth l (z + 1)).s) ∧ W.cell? ⟨a, oa + (z + 2) * 3, none⟩ = some (.int .i64 (nth l (z + 2)).a) ∧ W.cell? ⟨a, oa + (z + 2) * 3 + 1, none⟩ = some (.int .i64 (nth l (z + 2)).h) ∧ W.cell? ⟨a, oa + (z + 2) * 3 + 2, none⟩ = some (.bool (nth l (z + 2)).s)) := Lib.hid (fun W hW => by
      have hs3 := (HS.out.below B1.out hla).below hW hla1
      obtain ⟨x0, x1, x2⟩ := hs3 z (by omega)
      obtain ⟨y0, y1, y2⟩ := hs3 (z + 1) (by omega)
      obtain ⟨v0, v1, v2⟩ := hs3 (z + 2) (by omega)
      exact ⟨x0, x1, x2, y0, y1, y2, v0, v1, v2⟩)
    clear b1' HX HB0 HR HS
    generalize nth l z = U0 at *
    generalize nth l (z + 1) = U1 at *
    generalize nth l (z + 2) = U2 at *
    go_wp2_with fail
    refine (E2.out _).mono ?_
    rintro e w3 ⟨rfl, rfl⟩
    go_wp2_with fail
    go_region_held3 (fun w' => w'.cell? ⟨a, oa + z * 3, none⟩ = some (.int .i64 U0.a) ∧ w'.cell? ⟨a, oa + z * 3 + 1, none⟩ = some (.int .i64 U0.h) ∧ w'.cell? ⟨a, oa + z * 3 + 2, none⟩ = some (.bool U0.s) ∧
      w'.cell? ⟨a, oa + (z + 1) * 3, none⟩ = some (.int .i64 U1.a) ∧ w'.cell? ⟨a, oa + (z + 1) * 3 + 1, none⟩ = some (.int .i64 U1.h) ∧ w'.cell? ⟨a, oa + (z + 1) * 3 + 2, none⟩ = some (.bool U1.s) ∧
      w'.cell? ⟨a, oa + (z + 2) * 3, none⟩ = some (.int .i64 U2.a) ∧ w'.cell? ⟨a, oa + (z + 2) * 3 + 1, none⟩ = some (.int .i64 U2.h) ∧ w'.cell? ⟨a, oa + (z + 2) * 3 + 2, none⟩ = some (.bool U2.s)) (exact HS3.out _ (by repeat (first | with_reducible exact Below.refl _ _ | with_reducible exact below_drewN (Below.refl _ _) _ | with_reducible refine Below.alloc ?_ (by simp; try omega) _ | with_reducible refine below_drewN ?_ _ | with_reducible refine Below.drew ?_))) (fail)
    all_goals clear p1 p2 p3 p4 p5 p8 p10 p11
    all_goals (go_wp2_with fail)
    all_goals (go_quiet (fail))
    all_goals (go_wp2_with fail)
    all_goals refine (HRed.out _).mono ?_
    all_goals rintro e w9 ⟨rfl, ⟨n9, rfl⟩⟩
    all_goals (go_wp2_with fail)
    all_goals refine (HRed2.out _).mono ?_
    all_goals rintro e w10 ⟨rfl, ⟨n10, rfl⟩⟩
    all_goals (go_wp2; go_ret3)
    all_goals refine ⟨rfl, ?_⟩
    all_goals refine Below.trans B1.out (Below.mono (B := w3.heap.size) ?_ B1.out.size)
    all_goals repeat (first | with_reducible exact Below.refl _ _ | with_reducible refine Below.alloc ?_ (by simp; try omega) _ | with_reducible refine below_drewN ?_ _ | with_reducible refine Below.drew ?_)
end Go.Proofs.Yteglekfiannncaa

namespace Go.Proofs.Yteglekfiannncaa
open Go.RowKit
set_option linter.unusedVariables false
set_option maxRecDepth 100000 in
set_option maxHeartbeats 8000000 in
theorem FnClearances_walk (a : Option Addr) (len cap : Nat) (w : World) (h : ByteRow w a len) :
    Calls Try.prog 3 #[.slice a len cap] w fun e w' => e = .returned (.bool true) ∧ Below w.heap.size w w' := by
  have hm := h.1
  have HC := Lib.hid h
  clear h
  by_cases hbig : 65536 < len
  · go_enter Try.func3, Try.ntmps3
    go_wp2_with fail
    refine (vBig_yes a len cap _ hbig hm).mono ?_
    rintro e w' ⟨rfl, rfl⟩
    go_wp2_with fail
    go_ret
    exact ⟨rfl, Below.refl _ _⟩
  · go_enter Try.func3, Try.ntmps3
    go_wp2_with fail
    refine (vBig_no a len cap _ (by omega)).mono ?_
    rintro e w' ⟨rfl, rfl⟩
    have T0 := Lib.hid (Below.refl w.heap.size w)
    go_wp2_with fail
    refine (DrawLowestClearance_any a len cap _ HC.out).mono ?_
    rintro e V1 ⟨v, l, r, vg, g, rfl, hrl, hl, ⟨hrg, hg8⟩, b1⟩
    have T1 := Lib.hid b1
    clear b1
    have RL := Lib.hid hrl
    have RG := Lib.hid hrg
    clear hrl hrg
    go_wp2_with fail
    have HX2 := Lib.hid (fun U hU => box_Rp V1 r 26 _ rfl U hU)
    have HB2 : Hid (Below V1.heap.size V1 (V1.alloc (.cells #[.int .i64 r.w, .int .i64 r.p] 26))) := Lib.hid ((Below.refl _ _).alloc (Nat.le_refl _) _)
    generalize hV2 : V1.alloc (.cells #[.int .i64 r.w, .int .i64 r.p] 26) = V2 at *
    have hs2 : V2.heap.size = V1.heap.size + 1 := by rw [← hV2]; simp
    clear hV2
    rw [← hs2] at HX2
    have T2 := Lib.hid (T1.out.trans (HB2.out.mono T1.out.size))
    have RL := Lib.hid (RL.out.below HB2.out rfl)
    have RG := Lib.hid (RG.out.below HB2.out rfl)
    have D2 := Lib.hid (Below.refl V2.heap.size V2)
    refine (implLowestClearance_c v l r vg g _ RL.out (by omega) RG.out (by omega)).mono ?_
    rintro e V3 ⟨rfl, b3⟩
    have T3 := Lib.hid (T2.out.trans (b3.mono T2.out.size))
    have RL := Lib.hid (RL.out.below b3 rfl)
    have RG := Lib.hid (RG.out.below b3 rfl)
    have D3 := Lib.hid (D2.out.trans (b3.mono D2.out.size))
    clear b3
    obtain ⟨y0, y1⟩ := HX2.out _ D3.out
    go_wp2_with fail
    refine (specLowestClearance_c v l r vg g _ RL.out (by omega) RG.out (by omega)).mono ?_
    rintro e V4 ⟨rfl, b4⟩
    have T4 := Lib.hid (T3.out.trans (b4.mono T3.out.size))
    have RL := Lib.hid (RL.out.below b4 rfl)
    have RG := Lib.hid (RG.out.below b4 rfl)
    have D4 := Lib.hid (D3.out.trans (b4.mono D3.out.size))
    clear b4
    clear y0 y1
    cases hok : loOk l r g with
    | false =>
      clear hok RL RG
      have HCode4 := Lib.hid (HC.out.below T4.out)
      go_wp2_with fail
      refine (DrawClearanceAt_any a len cap _ HCode4.out).mono ?_
      rintro e V5 ⟨vx, lx, rx, vgx, gx, p, rfl, hrx, hlx, ⟨hrgx, hgx8⟩, hp, b5⟩
      have T5 := Lib.hid (T4.out.trans (b5.mono T4.out.size))
      clear b5
      have RX := Lib.hid hrx
      have RGX := Lib.hid hrgx
      clear hrx hrgx
      have HP := Lib.hid (WalkArith.wf_i64 (n := p) (by omega))
      go_wp2_with fail
      have HX6 := Lib.hid (fun U hU => box_Rp V5 rx 26 _ rfl U hU)
      have HB6 : Hid (Below V5.heap.size V5 (V5.alloc (.cells #[.int .i64 rx.w, .int .i64 rx.p] 26))) := Lib.hid ((Below.refl _ _).alloc (Nat.le_refl _) _)
      generalize hV6 : V5.alloc (.cells #[.int .i64 rx.w, .int .i64 rx.p] 26) = V6 at *
      have hs6 : V6.heap.size = V5.heap.size + 1 := by rw [← hV6]; simp
      clear hV6
      rw [← hs6] at HX6
      have T6 := Lib.hid (T5.out.trans (HB6.out.mono T5.out.size))
      have RX := Lib.hid (RX.out.below HB6.out rfl)
      have RGX := Lib.hid (RGX.out.below HB6.out rfl)
      have D6 := Lib.hid (Below.refl V6.heap.size V6)
      refine (implClearanceAt_c vx lx rx vgx gx p _ RX.out (by omega) RGX.out (by omega) HP.out).mono ?_
      rintro e V7 ⟨rfl, b7⟩
      have T7 := Lib.hid (T6.out.trans (b7.mono T6.out.size))
      have RX := Lib.hid (RX.out.below b7 rfl)
      have RGX := Lib.hid (RGX.out.below b7 rfl)
      have D7 := Lib.hid (D6.out.trans (b7.mono D6.out.size))
      clear b7
      obtain ⟨y0, y1⟩ := HX6.out _ D7.out
      go_wp2_with fail
      refine (specClearanceAt_c vx lx rx vgx gx p _ RX.out (by omega) RGX.out (by omega) HP.out).mono ?_
      rintro e V8 ⟨rfl, b8⟩
      have T8 := Lib.hid (T7.out.trans (b8.mono T7.out.size))
      have RX := Lib.hid (RX.out.below b8 rfl)
      have RGX := Lib.hid (RGX.out.below b8 rfl)
      have D8 := Lib.hid (D7.out.trans (b8.mono D7.out.size))
      clear b8
      clear y0 y1
      clear RX RGX
      have HCode8 := Lib.hid (HC.out.below T8.out)
      go_wp2_with fail
      refine (DrawIsGround_any a len cap _ HCode8.out).mono ?_
      rintro e V9 ⟨vy, ly, vgy, gy, rfl, hry, hly, ⟨hrgy, hgy8⟩, b9⟩
      have T9 := Lib.hid (T8.out.trans (b9.mono T8.out.size))
      clear b9
      have RY := Lib.hid hry
      have RGY := Lib.hid hrgy
      clear hry hrgy
      go_wp2_with fail
      refine (implIsGround_c vy ly vgy gy _ RY.out (by omega) RGY.out (by omega)).mono ?_
      rintro e V10 ⟨rfl, b10⟩
      have T10 := Lib.hid (T9.out.trans (b10.mono T9.out.size))
      have RY := Lib.hid (RY.out.below b10 rfl)
      have RGY := Lib.hid (RGY.out.below b10 rfl)
      clear b10
      go_wp2_with fail
      refine (specIsGround_c vy ly vgy gy _ RY.out (by omega) RGY.out (by omega)).mono ?_
      rintro e V11 ⟨rfl, b11⟩
      have T11 := Lib.hid (T10.out.trans (b11.mono T10.out.size))
      clear b11
      clear RY RGY
      have HCode11 := Lib.hid (HC.out.below T11.out)
      go_wp2_with fail
      refine (DrawTowerAngle_any a len cap _ HCode11.out).mono ?_
      rintro e V12 ⟨vz, lz, rz, s, rfl, hrz, hlz, hs, b12⟩
      have T12 := Lib.hid (T11.out.trans (b12.mono T11.out.size))
      clear b12
      have RZ := Lib.hid hrz
      clear hrz
      have HS := Lib.hid (WalkArith.wf_i64 (n := s) (by omega))
      go_wp2_with fail
      have HX13 := Lib.hid (fun U hU => box_Rp V12 rz 26 _ rfl U hU)
      have HB13 : Hid (Below V12.heap.size V12 (V12.alloc (.cells #[.int .i64 rz.w, .int .i64 rz.p] 26))) := Lib.hid ((Below.refl _ _).alloc (Nat.le_refl _) _)
      generalize hV13 : V12.alloc (.cells #[.int .i64 rz.w, .int .i64 rz.p] 26) = V13 at *
      have hs13 : V13.heap.size = V12.heap.size + 1 := by rw [← hV13]; simp
      clear hV13
      rw [← hs13] at HX13
      have T13 := Lib.hid (T12.out.trans (HB13.out.mono T12.out.size))
      have RZ := Lib.hid (RZ.out.below HB13.out rfl)
      have D13 := Lib.hid (Below.refl V13.heap.size V13)
      refine (implTowerAngle_c vz lz rz s _ RZ.out (by omega) HS.out).mono ?_
      rintro e V14 ⟨rfl, b14⟩
      have T14 := Lib.hid (T13.out.trans (b14.mono T13.out.size))
      have RZ := Lib.hid (RZ.out.below b14 rfl)
      have D14 := Lib.hid (D13.out.trans (b14.mono D13.out.size))
      clear b14
      obtain ⟨y0, y1⟩ := HX13.out _ D14.out
      go_wp2_with fail
      refine (specTowerAngle_c vz lz rz s _ RZ.out (by omega) HS.out).mono ?_
      rintro e V15 ⟨rfl, b15⟩
      have T15 := Lib.hid (T14.out.trans (b15.mono T14.out.size))
      have D15 := Lib.hid (D14.out.trans (b15.mono D14.out.size))
      clear b15
      clear y0 y1
      go_wp2
      go_ret
      exact ⟨rfl, T15.out⟩
    | true =>
      have hD : (isR r && isG l g) = true := hok
      rw [Bool.and_eq_true] at hD
      obtain ⟨hR, hg⟩ := hD
      have hG := (isG_iff l g).1 hg
      have hL := hG.line
      obtain ⟨w1, w2, w3⟩ := lo_yes hok
      have he := endN_eq hL
      have hle := lowN_le l r g (endN l)
      have hsl := sg_of (r := r) hL hR hle
      have hs0 := sg_of (r := r) hL hR (k := 0) (Nat.zero_le _)
      have c1 : clOk l r g (lowN l r g (endN l) : Int) = true := by unfold clOk; rw [hsl, hg]; rfl
      have c0 : clOk l r g 0 = true := by have h0 : sgOk l r 0 = true := by simpa using hs0
                                          unfold clOk; rw [h0, hg]; rfl
      have hcl := cl_yes c1
      have hcl0 := cl_yes c0
      obtain ⟨z1, z2⟩ := cl_zero (r := r) hL hR hG
      have hmin := low_first (r := r) hL hR hG
      have hcb := cR_ok (r := r) hsl hG
      have n1 := rN_bd (B := 23400000000000000) hcb.2.1 hcb.1.1 hcb.1.2
      have n2 := rD_pos (n := cRn l r g (lowN l r g (endN l) : Int)) hcb.2.1
      have n3 := rD_le (n := cRn l r g (lowN l r g (endN l) : Int)) hcb.2.1
      rw [← w2, ← w3] at hmin
      rw [← w2] at n1
      rw [← w3] at n2 n3
      have hP : 0 ≤ loP l r g ∧ loP l r g ≤ 3000 := by rw [w1]; omega
      have HV1 : Hid (clN l r g (loP l r g) = loN l r g ∧ clD l r g (loP l r g) = loD l r g ∧ clOk l r g (loP l r g) = true) := Lib.hid ⟨by rw [w1, w2, hcl.1], by rw [w1, w3, hcl.2], by rw [w1]; exact c1⟩
      have HV0 : Hid (clN l r g 0 = (nth l 0).h - (gth g 0).h ∧ clD l r g 0 = 1 ∧ clOk l r g 0 = true) := Lib.hid ⟨by rw [hcl0.1, z1], by rw [hcl0.2, z2], c0⟩
      have hb0 := hL.bd (i := 0) (by have := hL.two; omega)
      have hg0 := hG.bd (i := 0) (by have := hG.two; omega)
      have hl2 := hL.two
      have hg2 := hG.two
      obtain ⟨aa, oa, ca, rfl, hla, hml, _⟩ := RL.out.sup (by omega)
      obtain ⟨ga, go, gc, rfl, hga, hmg, _⟩ := RG.out.at_GP (by omega)
      have mH := absMul (x := (nth l 0).h - (gth g 0).h) (A := 2000) (y := loD l r g) (B := 1800000000000) (by omega) (by omega) (by omega) (by omega)
      have s1 : IntKind.i64.wrap ((nth l 0).h - (gth g 0).h) = (nth l 0).h - (gth g 0).h := IntWalk.i64_in _ (by omega)
      have s2 : IntKind.i64.wrap (((nth l 0).h - (gth g 0).h) * loD l r g) = ((nth l 0).h - (gth g 0).h) * loD l r g := IntWalk.i64_in _ (by omega)
      have s3 : decide (((nth l 0).h - (gth g 0).h) * loD l r g < loN l r g) = false := by rw [decide_eq_false_iff_not]; omega
      have i1 : 0 < l.length := by omega
      have i2 : (0 : Int) < (l.length : Int) := by omega
      have i3 : 0 < g.length := by omega
      have i4 : (0 : Int) < (g.length : Int) := by omega
      have HWP := Lib.hid (WalkArith.wf_i64 (n := loP l r g) (by omega))
      clear hok w1 w2 w3 he hle hsl hs0 c1 c0 hcl hcl0 z1 z2 hmin hcb n1 n2 n3 hR hG hL hP hl2 hg2 mH hb0 hg0
      have HIG := Lib.hid (fun U hU hU1 => implIsGround_c (.slice (some ⟨aa, oa, none⟩) l.length ca) l (.slice (some ⟨ga, go, none⟩) g.length gc) g U hU (by omega) hU1 (by omega))
      rw [hg] at HIG
      clear hg
      go_wp2_with fail
      refine (HIG.out _ RL.out RG.out).mono ?_
      rintro e V16 ⟨rfl, b16⟩
      have T16 := Lib.hid (T4.out.trans (b16.mono T4.out.size))
      have RL := Lib.hid (RL.out.below b16 rfl)
      have RG := Lib.hid (RG.out.below b16 rfl)
      have D16 := Lib.hid (D4.out.trans (b16.mono D4.out.size))
      clear b16
      obtain ⟨y0, y1⟩ := HX2.out _ D16.out
      go_wp2_with fail
      refine (implClearanceAt_c (.slice (some ⟨aa, oa, none⟩) l.length ca) l r (.slice (some ⟨ga, go, none⟩) g.length gc) g (loP l r g) _ RL.out (by omega) RG.out (by omega) HWP.out).mono ?_
      rw [HV1.out.1, HV1.out.2.1, HV1.out.2.2]
      rintro e V17 ⟨rfl, b17⟩
      have T17 := Lib.hid (T16.out.trans (b17.mono T16.out.size))
      have RL := Lib.hid (RL.out.below b17 rfl)
      have RG := Lib.hid (RG.out.below b17 rfl)
      have D17 := Lib.hid (D16.out.trans (b17.mono D16.out.size))
      clear b17
      clear y0 y1
      obtain ⟨y0, y1⟩ := HX2.out _ D17.out
      go_wp2_with fail
      refine (implClearanceAt_c (.slice (some ⟨aa, oa, none⟩) l.length ca) l r (.slice (some ⟨ga, go, none⟩) g.length gc) g 0 _ RL.out (by omega) RG.out (by omega) rfl).mono ?_
      rw [HV0.out.1, HV0.out.2.1, HV0.out.2.2]
      rintro e V18 ⟨rfl, b18⟩
      have T18 := Lib.hid (T17.out.trans (b18.mono T17.out.size))
      have RL := Lib.hid (RL.out.below b18 rfl)
      have RG := Lib.hid (RG.out.below b18 rfl)
      have D18 := Lib.hid (D17.out.trans (b18.mono D17.out.size))
      clear b18
      clear y0 y1
      have RL' := RL.out
      have RG' := RG.out
      obtain ⟨aa', oa', ca', hv, hla', _, hat⟩ := RL'.sup (by omega)
      simp only [Value.slice.injEq, Option.some.injEq, Addr.mk.injEq, and_true, true_and] at hv
      obtain ⟨⟨rfl, rfl⟩, rfl⟩ := hv
      obtain ⟨ga', go', gc', hv, hga', _, hgt⟩ := RG'.at_GP (by omega)
      simp only [Value.slice.injEq, Option.some.injEq, Addr.mk.injEq, and_true, true_and] at hv
      obtain ⟨⟨rfl, rfl⟩, rfl⟩ := hv
      obtain ⟨_, e1, _⟩ := hat.zero (by omega)
      obtain ⟨_, e2⟩ := hgt.zero (by omega)
      clear RL' RG' hat hgt RL RG HV0 HV1 HWP HIG
      generalize (nth l 0).h = H0 at *
      generalize (gth g 0).h = G0 at *
      generalize loN l r g = N at *
      generalize loD l r g = D at *
      generalize loP l r g = P at *
      go_wp2_with fail
      go_quiet (fail)
      have T19 := Lib.hid (below_drewN T18.out nq)
      generalize V18.drewN nq = V19 at *
      clear e1 e2 s1 s2 s3 i2 i4 hla hga
      have HCode19 := Lib.hid (HC.out.below T19.out)
      go_wp2_with fail
      refine (DrawClearanceAt_any a len cap _ HCode19.out).mono ?_
      rintro e V20 ⟨vx, lx, rx, vgx, gx, p, rfl, hrx, hlx, ⟨hrgx, hgx8⟩, hp, b20⟩
      have T20 := Lib.hid (T19.out.trans (b20.mono T19.out.size))
      clear b20
      have RX := Lib.hid hrx
      have RGX := Lib.hid hrgx
      clear hrx hrgx
      have HP := Lib.hid (WalkArith.wf_i64 (n := p) (by omega))
      go_wp2_with fail
      have HX21 := Lib.hid (fun U hU => box_Rp V20 rx 26 _ rfl U hU)
      have HB21 : Hid (Below V20.heap.size V20 (V20.alloc (.cells #[.int .i64 rx.w, .int .i64 rx.p] 26))) := Lib.hid ((Below.refl _ _).alloc (Nat.le_refl _) _)
      generalize hV21 : V20.alloc (.cells #[.int .i64 rx.w, .int .i64 rx.p] 26) = V21 at *
      have hs21 : V21.heap.size = V20.heap.size + 1 := by rw [← hV21]; simp
      clear hV21
      rw [← hs21] at HX21
      have T21 := Lib.hid (T20.out.trans (HB21.out.mono T20.out.size))
      have RX := Lib.hid (RX.out.below HB21.out rfl)
      have RGX := Lib.hid (RGX.out.below HB21.out rfl)
      have D21 := Lib.hid (Below.refl V21.heap.size V21)
      refine (implClearanceAt_c vx lx rx vgx gx p _ RX.out (by omega) RGX.out (by omega) HP.out).mono ?_
      rintro e V22 ⟨rfl, b22⟩
      have T22 := Lib.hid (T21.out.trans (b22.mono T21.out.size))
      have RX := Lib.hid (RX.out.below b22 rfl)
      have RGX := Lib.hid (RGX.out.below b22 rfl)
      have D22 := Lib.hid (D21.out.trans (b22.mono D21.out.size))
      clear b22
      obtain ⟨y0, y1⟩ := HX21.out _ D22.out
      go_wp2_with fail
      refine (specClearanceAt_c vx lx rx vgx gx p _ RX.out (by omega) RGX.out (by omega) HP.out).mono ?_
      rintro e V23 ⟨rfl, b23⟩
      have T23 := Lib.hid (T22.out.trans (b23.mono T22.out.size))
      have RX := Lib.hid (RX.out.below b23 rfl)
      have RGX := Lib.hid (RGX.out.below b23 rfl)
      have D23 := Lib.hid (D22.out.trans (b23.mono D22.out.size))
      clear b23
      clear y0 y1
      clear RX RGX
      have HCode23 := Lib.hid (HC.out.below T23.out)
      go_wp2_with fail
      refine (DrawIsGround_any a len cap _ HCode23.out).mono ?_
      rintro e V24 ⟨vy, ly, vgy, gy, rfl, hry, hly, ⟨hrgy, hgy8⟩, b24⟩
      have T24 := Lib.hid (T23.out.trans (b24.mono T23.out.size))
      clear b24
      have RY := Lib.hid hry
      have RGY := Lib.hid hrgy
      clear hry hrgy
      go_wp2_with fail
      refine (implIsGround_c vy ly vgy gy _ RY.out (by omega) RGY.out (by omega)).mono ?_
      rintro e V25 ⟨rfl, b25⟩
      have T25 := Lib.hid (T24.out.trans (b25.mono T24.out.size))
      have RY := Lib.hid (RY.out.below b25 rfl)
      have RGY := Lib.hid (RGY.out.below b25 rfl)
      clear b25
      go_wp2_with fail
      refine (specIsGround_c vy ly vgy gy _ RY.out (by omega) RGY.out (by omega)).mono ?_
      rintro e V26 ⟨rfl, b26⟩
      have T26 := Lib.hid (T25.out.trans (b26.mono T25.out.size))
      clear b26
      clear RY RGY
      have HCode26 := Lib.hid (HC.out.below T26.out)
      go_wp2_with fail
      refine (DrawTowerAngle_any a len cap _ HCode26.out).mono ?_
      rintro e V27 ⟨vz, lz, rz, s, rfl, hrz, hlz, hs, b27⟩
      have T27 := Lib.hid (T26.out.trans (b27.mono T26.out.size))
      clear b27
      have RZ := Lib.hid hrz
      clear hrz
      have HS := Lib.hid (WalkArith.wf_i64 (n := s) (by omega))
      go_wp2_with fail
      have HX28 := Lib.hid (fun U hU => box_Rp V27 rz 26 _ rfl U hU)
      have HB28 : Hid (Below V27.heap.size V27 (V27.alloc (.cells #[.int .i64 rz.w, .int .i64 rz.p] 26))) := Lib.hid ((Below.refl _ _).alloc (Nat.le_refl _) _)
      generalize hV28 : V27.alloc (.cells #[.int .i64 rz.w, .int .i64 rz.p] 26) = V28 at *
      have hs28 : V28.heap.size = V27.heap.size + 1 := by rw [← hV28]; simp
      clear hV28
      rw [← hs28] at HX28
      have T28 := Lib.hid (T27.out.trans (HB28.out.mono T27.out.size))
      have RZ := Lib.hid (RZ.out.below HB28.out rfl)
      have D28 := Lib.hid (Below.refl V28.heap.size V28)
      refine (implTowerAngle_c vz lz rz s _ RZ.out (by omega) HS.out).mono ?_
      rintro e V29 ⟨rfl, b29⟩
      have T29 := Lib.hid (T28.out.trans (b29.mono T28.out.size))
      have RZ := Lib.hid (RZ.out.below b29 rfl)
      have D29 := Lib.hid (D28.out.trans (b29.mono D28.out.size))
      clear b29
      obtain ⟨y0, y1⟩ := HX28.out _ D29.out
      go_wp2_with fail
      refine (specTowerAngle_c vz lz rz s _ RZ.out (by omega) HS.out).mono ?_
      rintro e V30 ⟨rfl, b30⟩
      have T30 := Lib.hid (T29.out.trans (b30.mono T29.out.size))
      have D30 := Lib.hid (D29.out.trans (b30.mono D29.out.size))
      clear b30
      clear y0 y1
      go_wp2
      go_ret
      exact ⟨rfl, T30.out⟩
end Go.Proofs.Yteglekfiannncaa
