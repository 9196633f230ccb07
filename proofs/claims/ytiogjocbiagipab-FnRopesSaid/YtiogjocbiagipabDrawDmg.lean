/- The drawn damage. Condition: sizes. -/
import Derived.Test.YtiogjocbiagipabDrawKind
import Derived.Test.YtiogjocbiagipabDmgS
import Derived.Deep.DeepCutAuto
import Derived.Deep.RegionHeld3
import Derived.WalkArith
namespace Go.Proofs.Ytiogjocbiagipab
open Go.RowKit
set_option linter.unusedVariables false
theorem Cur.drewD {B b k : Nat} {w : World} (h : Cur B b k w) (n : Nat) : Cur B b k (w.drewN n) := h.grown (row := none) (grown_drew w n none) (fun j hj => by cases hj)
theorem lit_cells {W : World} {t : TypeId} {l : List Int} {cs : Array Value} {g : Nat} (hcs : cs = (l.map (Value.int .i64)).toArray) (h : W.heap[g]? = some (.cells cs t (0, 0))) :
    ∀ (i : Nat) (hi : i < l.length), W.cell? ⟨g, i, none⟩ = some (.int .i64 l[i]) := by
  intro i hi
  subst hcs
  simp [World.cell?, h, hi]
theorem nalD {W : World} {o : Obj} {g : Nat} (hg : g = W.heap.size) : (W.alloc o).heap[g]? = some o := by subst hg; exact heap_alloc_new W o
theorem odrewD {W : World} {o : Obj} {g n : Nat} (h : W.heap[g]? = some o) : (W.drewN n).heap[g]? = some o := h
theorem odrewD1 {W : World} {o : Obj} {g : Nat} (h : W.heap[g]? = some o) : W.drew.heap[g]? = some o := h
theorem keepD {W W' : World} {b g : Nat} {o : Obj} (hg : W.grownBy W' (some b)) (hne : g ≠ b) (h : W.heap[g]? = some o) : W'.heap[g]? = some o :=
  (hg.block g ((Array.getElem?_eq_some_iff.1 h).1) (fun e => hne (Option.some.inj e))).trans h
theorem Cur.setD {B b k T i : Nat} {W : World} {v : Value} (h : Cur B b k W) (hT : b < T) : Cur B b k (W.setCell ⟨T, i, none⟩ v) := h.grown (grown_setCell W T i v) (fun j hj => by cases hj; exact hT)
theorem box3 {W : World} {g : Nat} {x y z : Value} {t : TypeId} (K : W.heap[g]? = some (.cells #[x, y, z] t (0, 0))) :
    (W.cell? ⟨g, 0, none⟩ = some x ∧ W.cell? ⟨g, 1, none⟩ = some y ∧ W.cell? ⟨g, 2, none⟩ = some z) ∧ W.frozen? ⟨g, 0, none⟩ = false ∧ W.frozen? ⟨g, 1, none⟩ = false ∧ W.frozen? ⟨g, 2, none⟩ = false := by
  have p0 := cell_of_row W g 0 _ _ _ K
  have p1 := cell_of_row W g 1 _ _ _ K
  have p2 := cell_of_row W g 2 _ _ _ K
  have m0 := frozen_of_row W g 0 _ _ K
  have m1 := frozen_of_row W g 1 _ _ K
  have m2 := frozen_of_row W g 2 _ _ K
  simp at p0 p1 p2
  exact ⟨⟨p0, p1, p2⟩, m0, m1, m2⟩
/-- What drawing a damage leaves. -/
def DmPost (B b k : Nat) (w : World) (e : Ending) (w' : World) : Prop := ∃ x : Dmg, e = .returned (.agg #[.int .i64 x.a, .int .i64 x.s, .int .i64 x.w]) ∧ Cur B b (k + 20) w' ∧ w.grownBy w' (some b) ∧ x.wf
set_option maxRecDepth 100000 in
set_option maxHeartbeats 8000000 in
theorem damage_any (B b k : Nat) (x : RK) (w : World) (h : Cur B b k w) (hk : k ≤ 800000000) (hx : (0 ≤ x.s ∧ x.s ≤ 9) ∧ (0 ≤ x.w ∧ x.w ≤ 41)) :
    Calls Try.prog 90 #[.pointer (some ⟨b, 0, none⟩), .agg #[.int .i64 x.i, .int .i64 x.s, .int .i64 x.w, .int .i64 x.g, .int .i64 x.p]] w (DmPost B b k w) := by
  have HH := Lib.hid h
  have hb := h.2.1
  clear h
  go_enter Try.func90, Try.ntmps90
  go_upto_region 1 with fail
  have KK := Lib.hid (old_allocD (o' := .cells #[.int .i64 0, .int .i64 0, .int .i64 0] 34) (heap_alloc_new w (.cells #[.int .i64 x.i, .int .i64 x.s, .int .i64 x.w, .int .i64 x.g, .int .i64 x.p] 25)))
  have RR : Hid (((w.alloc (.cells #[.int .i64 x.i, .int .i64 x.s, .int .i64 x.w, .int .i64 x.g, .int .i64 x.p] 25)).alloc (.cells #[.int .i64 0, .int .i64 0, .int .i64 0] 34)).heap[w.heap.size + 1]? = some (.cells #[.int .i64 0, .int .i64 0, .int .i64 0] 34 (0, 0))) := Lib.hid (nalD (aszD _ _))
  have C0 := Lib.hid ((HH.out.alloc (.cells #[.int .i64 x.i, .int .i64 x.s, .int .i64 x.w, .int .i64 x.g, .int .i64 x.p] 25)).alloc (.cells #[.int .i64 0, .int .i64 0, .int .i64 0] 34))
  have G0 := Lib.hid (grown_trans (World.grownBy_alloc w (.cells #[.int .i64 x.i, .int .i64 x.s, .int .i64 x.w, .int .i64 x.g, .int .i64 x.p] 25) (some b)) (World.grownBy_alloc _ (.cells #[.int .i64 0, .int .i64 0, .int .i64 0] 34) (some b)))
  have hz0 : ((w.alloc (.cells #[.int .i64 x.i, .int .i64 x.s, .int .i64 x.w, .int .i64 x.g, .int .i64 x.p] 25)).alloc (.cells #[.int .i64 0, .int .i64 0, .int .i64 0] 34)).heap.size = w.heap.size + 2 := by simp
  generalize hw0 : (w.alloc (.cells #[.int .i64 x.i, .int .i64 x.s, .int .i64 x.w, .int .i64 x.g, .int .i64 x.p] 25)).alloc (.cells #[.int .i64 0, .int .i64 0, .int .i64 0] 34) = w0 at *
  clear hw0 HH
  have hz1 : w.heap.size + 1 < w0.heap.size := by omega
  clear hz0
  have HK1 : Hid (∀ W, w0.grownBy W (some b) → W.cell? ⟨w.heap.size, 1, none⟩ = some (.int .i64 x.s)) := Lib.hid (fun W hW => by
    have := cell_of_row W w.heap.size 1 _ _ _ (keepD hW (by omega) KK.out)
    simpa using this)
  have hmx : 1 ≤ imaxD 1 x.s ∧ imaxD 1 x.s ≤ 9 := by unfold imaxD; split <;> omega
  have hmn : 0 ≤ imaxD 1 x.s := by omega
  go_cut [5] from 6 to 17 (fun pd wx => ∃ (T : Nat) (u v y : Int), pd = .pointer (some ⟨T, 0, none⟩) ∧ w.heap.size + 1 < T ∧ Hid (wx.heap[T]? = some (.cells #[.int .i64 u, .int .i64 v, .int .i64 y] 34 (0, 0))) ∧ Hid (Cur B b (k + 6) wx) ∧ Hid (w0.grownBy wx (some b)) ∧ Hid ((-1000000 ≤ u ∧ u ≤ 1000000) ∧ (-1000000 ≤ v ∧ v ≤ 1000000) ∧ (-1000000 ≤ y ∧ y ≤ 1000000)))
  case first =>
    have g00 : w0.grownBy w0 (some b) := grown_drew w0 0 (some b)
    have gd : ∀ (W : World), w0.grownBy W (some b) → w0.grownBy W.drew (some b) := fun W hW => grown_trans hW ⟨rfl, rfl, rfl, Nat.le_refl _, fun _ _ _ => rfl⟩
    have cdr : ∀ (W : World) {j : Nat}, Cur B b j W → Cur B b j W.drew := fun W j hW => hW.drewD 1
    have c0 := C0.out
    obtain y1 := HK1.out w0 g00
    have hk1 := HK1.out
    have A1 : Hid (∀ W g, Cur B b (k) W → g ≠ b → W.heap[g]? = some (.cells #[.int .i64 0, .int .i64 5, .int .i64 9, .int .i64 10, .int .i64 14, .int .i64 60, .int .i64 103, .int .i64 3000] 3 (0, 0)) → Calls Try.prog 58 #[.pointer (some ⟨b, 0, none⟩), .slice (some ⟨g, 0, none⟩) 8 8] W (AmPost B b (k) [0, 5, 9, 10, 14, 60, 103, 3000] W)) := Lib.hid (fun W g hW hg hc => among_any B b (k) g 8 8 [0, 5, 9, 10, 14, 60, 103, 3000] W hW (by omega) rfl (by omega) (by omega) hg (lit_cells (cs := #[.int .i64 0, .int .i64 5, .int .i64 9, .int .i64 10, .int .i64 14, .int .i64 60, .int .i64 103, .int .i64 3000]) rfl hc))
    have A4 : Hid (∀ W g, Cur B b (k + 2 + 2) W → g ≠ b → W.heap[g]? = some (.cells #[.int .i64 1, .int .i64 1, .int .i64 2, .int .i64 3, .int .i64 4] 3 (0, 0)) → Calls Try.prog 58 #[.pointer (some ⟨b, 0, none⟩), .slice (some ⟨g, 0, none⟩) 5 5] W (AmPost B b (k + 2 + 2) [1, 1, 2, 3, 4] W)) := Lib.hid (fun W g hW hg hc => among_any B b (k + 2 + 2) g 5 5 [1, 1, 2, 3, 4] W hW (by omega) rfl (by omega) (by omega) hg (lit_cells (cs := #[.int .i64 1, .int .i64 1, .int .i64 2, .int .i64 3, .int .i64 4]) rfl hc))
    have A3 : Hid (∀ W, Cur B b (k + 2) W → Calls Try.prog 59 #[.pointer (some ⟨b, 0, none⟩), .int .i64 (imaxD 1 x.s)] W (PickPost B b (k + 2) (imaxD 1 x.s) W)) := Lib.hid (fun W hW => pick_any B b (k + 2) (imaxD 1 x.s) W hW (by omega) hmx.1 (by omega))
    have A2 := Lib.hid (fun W => l1MostD 1 x.s W)
    generalize imaxD 1 x.s = mx at *
    have hb0 : ∀ n : Nat, w0.heap.size ≤ n → n ≠ b := fun n hn => by omega
    have hbT : ∀ n : Nat, w0.heap.size ≤ n → b < n := fun n hn => by omega
    have HZ := Lib.hid hz1
    have HMX := Lib.hid hmx
    clear hx hmx hmn hk hz1 C0 G0 KK RR HK1 hb
    go_region_held3 (fun w' => w'.cell? ⟨w.heap.size, 1, none⟩ = some (.int .i64 x.s)) (first | with_reducible exact hk1 _ g3 | with_reducible exact hk1 _ g2 | with_reducible exact hk1 _ g1 | exact hk1 _ (by repeat (first | with_reducible exact g3 | with_reducible exact g2 | with_reducible exact g1 | with_reducible exact g00 | with_reducible refine grown_trans ?_ (World.grownBy_alloc _ _ _) | with_reducible refine grown_trans ?_ (grown_drew _ _ _) | with_reducible refine gd _ ?_ | with_reducible refine grown_past ?_ (grown_setCell _ _ _ _) (by first | omega | (simp; done) | (simp; omega)))))
      (first
        | (go_at_call 58; (with_reducible (show Calls _ _ #[_, Value.slice _ 8 _] _ _)); refine (A1.out _ _ (by repeat (first | with_reducible exact c0 | with_reducible refine Cur.alloc ?_ _ | with_reducible refine Cur.drewD ?_ _ | (with_reducible refine cdr _ ?_))) (hb0 _ (by first | omega | (simp; done) | (simp; omega))) (by (repeat (first | with_reducible exact nalD (by first | (simp; done) | omega | fail) | with_reducible refine old_allocD ?_ | with_reducible refine odrewD ?_ | with_reducible refine odrewD1 ?_)); first | done | fail)).mono ?_; rintro e w1 ⟨u, hu, rfl, hc1, hg1⟩; have BU : Hid (-1000000 ≤ u ∧ u ≤ 1000000) := Lib.hid (by simp at hu; omega); have g1 : w0.grownBy w1 (some b) := grown_trans (by repeat (first | with_reducible exact g00 | with_reducible refine grown_trans ?_ (World.grownBy_alloc _ _ _) | with_reducible refine grown_trans ?_ (grown_drew _ _ _) | with_reducible refine gd _ ?_ | with_reducible refine grown_past ?_ (grown_setCell _ _ _ _) (by first | omega | (simp; done) | (simp; omega)))) hg1; have z1 := g1.size)
        | (go_at_call 100; refine (A2.out _).mono ?_; rintro e w' ⟨rfl, hw'⟩; subst hw')
        | (go_at_call 59; refine (A3.out _ (by repeat (first | with_reducible exact hc1 | with_reducible refine Cur.alloc ?_ _ | with_reducible refine Cur.drewD ?_ _ | (with_reducible refine cdr _ ?_)))).mono ?_; rintro e w2 ⟨v, rfl, hv, hc2, hg2⟩; have BV : Hid (-1000000 ≤ (v : Int) ∧ (v : Int) ≤ 1000000) := Lib.hid (by have := HMX.out; omega); have g2 : w0.grownBy w2 (some b) := grown_trans (by repeat (first | with_reducible exact g1 | with_reducible refine grown_trans ?_ (World.grownBy_alloc _ _ _) | with_reducible refine grown_trans ?_ (grown_drew _ _ _) | with_reducible refine gd _ ?_ | with_reducible refine grown_past ?_ (grown_setCell _ _ _ _) (by first | omega | (simp; done) | (simp; omega)))) hg2; have z2 := g2.size)
        | (go_at_call 58; (with_reducible (show Calls _ _ #[_, Value.slice _ 5 _] _ _)); refine (A4.out _ _ (by repeat (first | with_reducible exact hc2 | with_reducible refine Cur.alloc ?_ _ | with_reducible refine Cur.drewD ?_ _ | (with_reducible refine cdr _ ?_))) (hb0 _ (by first | omega | (simp; done) | (simp; omega))) (by (repeat (first | with_reducible exact nalD (by first | (simp; done) | omega | fail) | with_reducible refine old_allocD ?_ | with_reducible refine odrewD ?_ | with_reducible refine odrewD1 ?_ | with_reducible refine keepD hg2 (hb0 _ (by first | omega | (simp; done) | (simp; omega))) ?_ | with_reducible refine keepD hg1 (hb0 _ (by first | omega | (simp; done) | (simp; omega))) ?_)); first | done | fail)).mono ?_; rintro e w3 ⟨y, hy, rfl, hc3, hg3⟩; have BY : Hid (-1000000 ≤ y ∧ y ≤ 1000000) := Lib.hid (by simp at hy; omega); have g3 : w0.grownBy w3 (some b) := grown_trans (by repeat (first | with_reducible exact g2 | with_reducible refine grown_trans ?_ (World.grownBy_alloc _ _ _) | with_reducible refine grown_trans ?_ (grown_drew _ _ _) | with_reducible refine gd _ ?_ | with_reducible refine grown_past ?_ (grown_setCell _ _ _ _) (by first | omega | (simp; done) | (simp; omega)))) hg3; have z3 := g3.size; (first | (have ub : w3.heap[w2.heap.size + 1]? = some (.cells #[.int .i64 0, .int .i64 0, .int .i64 0] 34 (0, 0)) := keepD hg3 (hb0 _ (by first | omega | (simp; done) | (simp; omega))) (by (repeat (first | with_reducible exact nalD (by first | (simp; done) | omega | fail) | with_reducible refine old_allocD ?_ | with_reducible refine odrewD ?_ | with_reducible refine odrewD1 ?_ | with_reducible refine keepD hg2 (hb0 _ (by first | omega | (simp; done) | (simp; omega))) ?_ | with_reducible refine keepD hg1 (hb0 _ (by first | omega | (simp; done) | (simp; omega))) ?_)); first | done | fail); obtain ⟨⟨u0, u1, u2⟩, u3, u4, u5⟩ := box3 ub) | (have ub : w3.heap[w2.heap.size]? = some (.cells #[.int .i64 0, .int .i64 0, .int .i64 0] 34 (0, 0)) := keepD hg3 (hb0 _ (by first | omega | (simp; done) | (simp; omega))) (by (repeat (first | with_reducible exact nalD (by first | (simp; done) | omega | fail) | with_reducible refine old_allocD ?_ | with_reducible refine odrewD ?_ | with_reducible refine odrewD1 ?_ | with_reducible refine keepD hg2 (hb0 _ (by first | omega | (simp; done) | (simp; omega))) ?_ | with_reducible refine keepD hg1 (hb0 _ (by first | omega | (simp; done) | (simp; omega))) ?_)); first | done | fail); obtain ⟨⟨u0, u1, u2⟩, u3, u4, u5⟩ := box3 ub) | (have ub : w3.heap[w1.heap.size + 1]? = some (.cells #[.int .i64 0, .int .i64 0, .int .i64 0] 34 (0, 0)) := keepD hg3 (hb0 _ (by first | omega | (simp; done) | (simp; omega))) (by (repeat (first | with_reducible exact nalD (by first | (simp; done) | omega | fail) | with_reducible refine old_allocD ?_ | with_reducible refine odrewD ?_ | with_reducible refine odrewD1 ?_ | with_reducible refine keepD hg2 (hb0 _ (by first | omega | (simp; done) | (simp; omega))) ?_ | with_reducible refine keepD hg1 (hb0 _ (by first | omega | (simp; done) | (simp; omega))) ?_)); first | done | fail); obtain ⟨⟨u0, u1, u2⟩, u3, u4, u5⟩ := box3 ub) | (have ub : w3.heap[w1.heap.size]? = some (.cells #[.int .i64 0, .int .i64 0, .int .i64 0] 34 (0, 0)) := keepD hg3 (hb0 _ (by first | omega | (simp; done) | (simp; omega))) (by (repeat (first | with_reducible exact nalD (by first | (simp; done) | omega | fail) | with_reducible refine old_allocD ?_ | with_reducible refine odrewD ?_ | with_reducible refine odrewD1 ?_ | with_reducible refine keepD hg2 (hb0 _ (by first | omega | (simp; done) | (simp; omega))) ?_ | with_reducible refine keepD hg1 (hb0 _ (by first | omega | (simp; done) | (simp; omega))) ?_)); first | done | fail); obtain ⟨⟨u0, u1, u2⟩, u3, u4, u5⟩ := box3 ub) | (have ub : w3.heap[w0.heap.size + 2]? = some (.cells #[.int .i64 0, .int .i64 0, .int .i64 0] 34 (0, 0)) := keepD hg3 (hb0 _ (by first | omega | (simp; done) | (simp; omega))) (by (repeat (first | with_reducible exact nalD (by first | (simp; done) | omega | fail) | with_reducible refine old_allocD ?_ | with_reducible refine odrewD ?_ | with_reducible refine odrewD1 ?_ | with_reducible refine keepD hg2 (hb0 _ (by first | omega | (simp; done) | (simp; omega))) ?_ | with_reducible refine keepD hg1 (hb0 _ (by first | omega | (simp; done) | (simp; omega))) ?_)); first | done | fail); obtain ⟨⟨u0, u1, u2⟩, u3, u4, u5⟩ := box3 ub) | (have ub : w3.heap[w0.heap.size + 1]? = some (.cells #[.int .i64 0, .int .i64 0, .int .i64 0] 34 (0, 0)) := keepD hg3 (hb0 _ (by first | omega | (simp; done) | (simp; omega))) (by (repeat (first | with_reducible exact nalD (by first | (simp; done) | omega | fail) | with_reducible refine old_allocD ?_ | with_reducible refine odrewD ?_ | with_reducible refine odrewD1 ?_ | with_reducible refine keepD hg2 (hb0 _ (by first | omega | (simp; done) | (simp; omega))) ?_ | with_reducible refine keepD hg1 (hb0 _ (by first | omega | (simp; done) | (simp; omega))) ?_)); first | done | fail); obtain ⟨⟨u0, u1, u2⟩, u3, u4, u5⟩ := box3 ub) | (have ub : w3.heap[w0.heap.size]? = some (.cells #[.int .i64 0, .int .i64 0, .int .i64 0] 34 (0, 0)) := keepD hg3 (hb0 _ (by first | omega | (simp; done) | (simp; omega))) (by (repeat (first | with_reducible exact nalD (by first | (simp; done) | omega | fail) | with_reducible refine old_allocD ?_ | with_reducible refine odrewD ?_ | with_reducible refine odrewD1 ?_ | with_reducible refine keepD hg2 (hb0 _ (by first | omega | (simp; done) | (simp; omega))) ?_ | with_reducible refine keepD hg1 (hb0 _ (by first | omega | (simp; done) | (simp; omega))) ?_)); first | done | fail); obtain ⟨⟨u0, u1, u2⟩, u3, u4, u5⟩ := box3 ub) | skip))
        | fail)
    all_goals (go_wp2_with fail)
    all_goals go_meet
    all_goals (case rel => exact ⟨_, u, v, y, rfl, (by have := HZ.out; first | omega | (simp; omega)), Lib.hid (by first | exact blk_setD (blk_setD (blk_setD ub)) | (repeat (first | with_reducible exact nalD (by first | (simp; done) | omega | fail) | with_reducible refine odrewD ?_ | with_reducible refine odrewD1 ?_))), Lib.hid (by repeat (first | with_reducible exact hc3 | with_reducible refine Cur.alloc ?_ _ | with_reducible refine Cur.drewD ?_ _ | (with_reducible refine cdr _ ?_) | with_reducible refine Cur.setD ?_ (hbT _ (by first | omega | (simp; done) | (simp; omega))))), Lib.hid (by repeat (first | with_reducible exact g3 | with_reducible refine grown_trans ?_ (World.grownBy_alloc _ _ _) | with_reducible refine grown_trans ?_ (grown_drew _ _ _) | with_reducible refine gd _ ?_ | with_reducible refine grown_past ?_ (grown_setCell _ _ _ _) (by first | omega | (simp; done) | (simp; omega)))), Lib.hid ⟨BU.out, BV.out, BY.out⟩⟩)
  case rest =>
    obtain ⟨T, u, v, y, rfl, hTl, HT, HCu, HGr, HBB⟩ := hcut
    have hszc := HGr.out.size
    have TT := Lib.hid HT.out
    have KKc := Lib.hid (keepD HGr.out (by omega) KK.out)
    have RRc := Lib.hid (keepD HGr.out (by omega) RR.out)
    have Gc := Lib.hid (grown_trans G0.out HGr.out)
    have hTc := (Array.getElem?_eq_some_iff.1 HT.out).1
    have hTb : T ≠ b := by omega
    clear HK1 hmx hmn KK RR C0 G0 HT HGr
    go_wp2_with fail
    refine (pick_any B b (k + 6) 60 wc HCu.out (by omega) (by omega) (by omega)).mono ?_
    rintro e w6 ⟨r, rfl, hr, hc, hg⟩
    have T6 := Lib.hid (keepD hg hTb TT.out)
    have K6 := Lib.hid (keepD hg (by omega) KKc.out)
    have R6 := Lib.hid (keepD hg (by omega) RRc.out)
    have G6 := Lib.hid (grown_trans Gc.out hg)
    have C6 := Lib.hid hc
    have hz6 := hg.size
    clear hc hg TT KKc RRc Gc HCu
    by_cases e0 : r = 0
    · have t0 : ((r : Int) == 0) = true := by rw [beq_iff_eq]; omega
      go_wp2_with fail
      refine (among_any B b (k + 6 + 2) w6.heap.size 2 2 [-1, 3001] _ (C6.out.alloc _) (by omega) rfl (by omega) (by omega) (by omega) (num_cells w6 3 [-1, 3001] _ rfl)).mono ?_
      rintro e w7 ⟨q, hq, rfl, hc, hg⟩
      have T7 := Lib.hid (keepD hg (by omega) (old_allocD (o' := .cells #[.int .i64 (-1), .int .i64 3001] 3) T6.out))
      have R7 := Lib.hid (keepD hg (by omega) (old_allocD (o' := .cells #[.int .i64 (-1), .int .i64 3001] 3) R6.out))
      have G7 := Lib.hid (grown_trans (grown_trans G6.out (World.grownBy_alloc _ (.cells #[.int .i64 (-1), .int .i64 3001] 3) (some b))) hg)
      have bq : -1000000 ≤ q ∧ q ≤ 1000000 := by simp at hq; omega
      have C7 := Lib.hid hc
      have hz7 := hg.size
      simp at hz7
      clear hc hg hq
      have q0 := cell_of_row w7 T 0 _ _ _ T7.out
      have q9 := frozen_of_row w7 T 0 _ _ T7.out
      simp at q0
      have T8 := Lib.hid (blk_setD (i := 0) (v := .int .i64 q) T7.out)
      have R8 : Hid ((w7.setCell ⟨T, 0, none⟩ (.int .i64 q)).heap[w.heap.size + 1]? = some (.cells #[.int .i64 0, .int .i64 0, .int .i64 0] 34 (0, 0))) := Lib.hid (by simp only [World.setCell, Array.getElem?_modify]; rw [if_neg (by show ¬ T = w.heap.size + 1; omega)]; exact R7.out)
      have G8 := Lib.hid (grown_past G7.out (grown_setCell w7 T 0 (.int .i64 q)) (by omega))
      have C8 := Lib.hid (C7.out.setD (T := T) (i := 0) (v := .int .i64 q) (by omega))
      go_upto_region 9 with fail
      generalize hw8 : w7.setCell ⟨T, 0, none⟩ (.int .i64 q) = w8 at *
      clear hw8 q0 q9
      have tt := T8.out
      have rr := R8.out
      have a0 := cell_of_row w8 T 0 _ _ _ tt
      have a1 := cell_of_row w8 T 1 _ _ _ tt
      have a2 := cell_of_row w8 T 2 _ _ _ tt
      have c0 := cell_of_row w8 (w.heap.size + 1) 0 _ _ _ rr
      have c1 := cell_of_row w8 (w.heap.size + 1) 1 _ _ _ rr
      have c2 := cell_of_row w8 (w.heap.size + 1) 2 _ _ _ rr
      have d0 := frozen_of_row w8 (w.heap.size + 1) 0 _ _ rr
      have d1 := frozen_of_row w8 (w.heap.size + 1) 1 _ _ rr
      have d2 := frozen_of_row w8 (w.heap.size + 1) 2 _ _ rr
      have s0 := blk_setD (i := 0) (v := .int .i64 q) rr
      have z0 := cell_of_row _ (w.heap.size + 1) 0 _ _ _ s0
      have s1 := blk_setD (i := 1) (v := .int .i64 v) s0
      have z1 := cell_of_row _ (w.heap.size + 1) 1 _ _ _ s1
      have s2 := blk_setD (i := 2) (v := .int .i64 y) s1
      have z2 := cell_of_row _ (w.heap.size + 1) 2 _ _ _ s2
      simp at a0 a1 a2 c0 c1 c2 z0 z1 z2
      have Z0 := Lib.hid z0
      have Z1 := Lib.hid z1
      have Z2 := Lib.hid z2
      clear tt rr s0 s1 s2 z0 z1 z2
      have GG := Lib.hid (grown_trans (grown_trans (grown_setCell w8 (w.heap.size + 1) 0 (.int .i64 q)) (grown_setCell _ (w.heap.size + 1) 1 (.int .i64 v))) (grown_setCell _ (w.heap.size + 1) 2 (.int .i64 y)))
      go_wp2
      refine bodyPost_ret (v := .agg #[.int .i64 q, .int .i64 v, .int .i64 y]) (by simp [results, Try.results90, go_sem, Z0.out, Z1.out, Z2.out]) rfl ⟨⟨q, v, y⟩, rfl, (C8.out.grown GG.out (fun j hj => by cases hj; omega)).mono (by omega), grown_past G8.out GG.out (by omega), (by have hb9 := HBB.out; exact ⟨WalkArith.wf_i64 (n := q) (by omega), WalkArith.wf_i64 (n := v) (by omega), WalkArith.wf_i64 (n := y) (by omega)⟩)⟩
    · have t0 : ((r : Int) == 0) = false := by rw [beq_eq_false_iff_ne]; omega
      by_cases e1 : r = 1
      · have t1 : ((r : Int) == 1) = true := by rw [beq_iff_eq]; omega
        have k1 := cell_of_row w6 w.heap.size 1 _ _ _ K6.out
        have k2 := cell_of_row w6 w.heap.size 2 _ _ _ K6.out
        simp at k1 k2
        go_wp2_with fail
        refine (among_any B b (k + 6 + 2) w6.heap.size 2 2 [-1, x.s] _ (C6.out.alloc _) (by omega) rfl (by omega) (by omega) (by omega) (num_cells w6 3 [-1, x.s] _ rfl)).mono ?_
        rintro e w7 ⟨q, hq, rfl, hc, hg⟩
        have T7 := Lib.hid (keepD hg (by omega) (old_allocD (o' := .cells #[.int .i64 (-1), .int .i64 x.s] 3) T6.out))
        have R7 := Lib.hid (keepD hg (by omega) (old_allocD (o' := .cells #[.int .i64 (-1), .int .i64 x.s] 3) R6.out))
        have G7 := Lib.hid (grown_trans (grown_trans G6.out (World.grownBy_alloc _ (.cells #[.int .i64 (-1), .int .i64 x.s] 3) (some b))) hg)
        have bq : -1000000 ≤ q ∧ q ≤ 1000000 := by simp at hq; omega
        have C7 := Lib.hid hc
        have hz7 := hg.size
        simp at hz7
        clear hc hg hq k1 k2
        have q0 := cell_of_row w7 T 1 _ _ _ T7.out
        have q9 := frozen_of_row w7 T 1 _ _ T7.out
        simp at q0
        have T8 := Lib.hid (blk_setD (i := 1) (v := .int .i64 q) T7.out)
        have R8 : Hid ((w7.setCell ⟨T, 1, none⟩ (.int .i64 q)).heap[w.heap.size + 1]? = some (.cells #[.int .i64 0, .int .i64 0, .int .i64 0] 34 (0, 0))) := Lib.hid (by simp only [World.setCell, Array.getElem?_modify]; rw [if_neg (by show ¬ T = w.heap.size + 1; omega)]; exact R7.out)
        have G8 := Lib.hid (grown_past G7.out (grown_setCell w7 T 1 (.int .i64 q)) (by omega))
        have C8 := Lib.hid (C7.out.setD (T := T) (i := 1) (v := .int .i64 q) (by omega))
        go_upto_region 9 with fail
        generalize hw8 : w7.setCell ⟨T, 1, none⟩ (.int .i64 q) = w8 at *
        clear hw8 q0 q9
        have tt := T8.out
        have rr := R8.out
        have a0 := cell_of_row w8 T 0 _ _ _ tt
        have a1 := cell_of_row w8 T 1 _ _ _ tt
        have a2 := cell_of_row w8 T 2 _ _ _ tt
        have c0 := cell_of_row w8 (w.heap.size + 1) 0 _ _ _ rr
        have c1 := cell_of_row w8 (w.heap.size + 1) 1 _ _ _ rr
        have c2 := cell_of_row w8 (w.heap.size + 1) 2 _ _ _ rr
        have d0 := frozen_of_row w8 (w.heap.size + 1) 0 _ _ rr
        have d1 := frozen_of_row w8 (w.heap.size + 1) 1 _ _ rr
        have d2 := frozen_of_row w8 (w.heap.size + 1) 2 _ _ rr
        have s0 := blk_setD (i := 0) (v := .int .i64 u) rr
        have z0 := cell_of_row _ (w.heap.size + 1) 0 _ _ _ s0
        have s1 := blk_setD (i := 1) (v := .int .i64 q) s0
        have z1 := cell_of_row _ (w.heap.size + 1) 1 _ _ _ s1
        have s2 := blk_setD (i := 2) (v := .int .i64 y) s1
        have z2 := cell_of_row _ (w.heap.size + 1) 2 _ _ _ s2
        simp at a0 a1 a2 c0 c1 c2 z0 z1 z2
        have Z0 := Lib.hid z0
        have Z1 := Lib.hid z1
        have Z2 := Lib.hid z2
        clear tt rr s0 s1 s2 z0 z1 z2
        have GG := Lib.hid (grown_trans (grown_trans (grown_setCell w8 (w.heap.size + 1) 0 (.int .i64 u)) (grown_setCell _ (w.heap.size + 1) 1 (.int .i64 q))) (grown_setCell _ (w.heap.size + 1) 2 (.int .i64 y)))
        go_wp2
        refine bodyPost_ret (v := .agg #[.int .i64 u, .int .i64 q, .int .i64 y]) (by simp [results, Try.results90, go_sem, Z0.out, Z1.out, Z2.out]) rfl ⟨⟨u, q, y⟩, rfl, (C8.out.grown GG.out (fun j hj => by cases hj; omega)).mono (by omega), grown_past G8.out GG.out (by omega), (by have hb9 := HBB.out; exact ⟨WalkArith.wf_i64 (n := u) (by omega), WalkArith.wf_i64 (n := q) (by omega), WalkArith.wf_i64 (n := y) (by omega)⟩)⟩
      · have t1 : ((r : Int) == 1) = false := by rw [beq_eq_false_iff_ne]; omega
        by_cases e2 : r = 2
        · have t2 : ((r : Int) == 2) = true := by rw [beq_iff_eq]; omega
          have k1 := cell_of_row w6 w.heap.size 1 _ _ _ K6.out
          have k2 := cell_of_row w6 w.heap.size 2 _ _ _ K6.out
          simp at k1 k2
          have q1 : IntKind.i64.wrap (x.w + 1) = x.w + 1 := IntWalk.i64_in _ (by omega)
          go_wp2_with fail
          refine (among_any B b (k + 6 + 2) w6.heap.size 4 4 [0, -1, x.w, x.w + 1] _ (C6.out.alloc _) (by omega) rfl (by omega) (by omega) (by omega) (num_cells w6 3 [0, -1, x.w, x.w + 1] _ rfl)).mono ?_
          rintro e w7 ⟨q, hq, rfl, hc, hg⟩
          have T7 := Lib.hid (keepD hg (by omega) (old_allocD (o' := .cells #[.int .i64 0, .int .i64 (-1), .int .i64 x.w, .int .i64 (x.w + 1)] 3) T6.out))
          have R7 := Lib.hid (keepD hg (by omega) (old_allocD (o' := .cells #[.int .i64 0, .int .i64 (-1), .int .i64 x.w, .int .i64 (x.w + 1)] 3) R6.out))
          have G7 := Lib.hid (grown_trans (grown_trans G6.out (World.grownBy_alloc _ (.cells #[.int .i64 0, .int .i64 (-1), .int .i64 x.w, .int .i64 (x.w + 1)] 3) (some b))) hg)
          have bq : -1000000 ≤ q ∧ q ≤ 1000000 := by simp at hq; omega
          have C7 := Lib.hid hc
          have hz7 := hg.size
          simp at hz7
          clear hc hg hq k1 k2
          have q0 := cell_of_row w7 T 2 _ _ _ T7.out
          have q9 := frozen_of_row w7 T 2 _ _ T7.out
          simp at q0
          have T8 := Lib.hid (blk_setD (i := 2) (v := .int .i64 q) T7.out)
          have R8 : Hid ((w7.setCell ⟨T, 2, none⟩ (.int .i64 q)).heap[w.heap.size + 1]? = some (.cells #[.int .i64 0, .int .i64 0, .int .i64 0] 34 (0, 0))) := Lib.hid (by simp only [World.setCell, Array.getElem?_modify]; rw [if_neg (by show ¬ T = w.heap.size + 1; omega)]; exact R7.out)
          have G8 := Lib.hid (grown_past G7.out (grown_setCell w7 T 2 (.int .i64 q)) (by omega))
          have C8 := Lib.hid (C7.out.setD (T := T) (i := 2) (v := .int .i64 q) (by omega))
          go_upto_region 9 with fail
          generalize hw8 : w7.setCell ⟨T, 2, none⟩ (.int .i64 q) = w8 at *
          clear hw8 q0 q9
          have tt := T8.out
          have rr := R8.out
          have a0 := cell_of_row w8 T 0 _ _ _ tt
          have a1 := cell_of_row w8 T 1 _ _ _ tt
          have a2 := cell_of_row w8 T 2 _ _ _ tt
          have c0 := cell_of_row w8 (w.heap.size + 1) 0 _ _ _ rr
          have c1 := cell_of_row w8 (w.heap.size + 1) 1 _ _ _ rr
          have c2 := cell_of_row w8 (w.heap.size + 1) 2 _ _ _ rr
          have d0 := frozen_of_row w8 (w.heap.size + 1) 0 _ _ rr
          have d1 := frozen_of_row w8 (w.heap.size + 1) 1 _ _ rr
          have d2 := frozen_of_row w8 (w.heap.size + 1) 2 _ _ rr
          have s0 := blk_setD (i := 0) (v := .int .i64 u) rr
          have z0 := cell_of_row _ (w.heap.size + 1) 0 _ _ _ s0
          have s1 := blk_setD (i := 1) (v := .int .i64 v) s0
          have z1 := cell_of_row _ (w.heap.size + 1) 1 _ _ _ s1
          have s2 := blk_setD (i := 2) (v := .int .i64 q) s1
          have z2 := cell_of_row _ (w.heap.size + 1) 2 _ _ _ s2
          simp at a0 a1 a2 c0 c1 c2 z0 z1 z2
          have Z0 := Lib.hid z0
          have Z1 := Lib.hid z1
          have Z2 := Lib.hid z2
          clear tt rr s0 s1 s2 z0 z1 z2
          have GG := Lib.hid (grown_trans (grown_trans (grown_setCell w8 (w.heap.size + 1) 0 (.int .i64 u)) (grown_setCell _ (w.heap.size + 1) 1 (.int .i64 v))) (grown_setCell _ (w.heap.size + 1) 2 (.int .i64 q)))
          go_wp2
          refine bodyPost_ret (v := .agg #[.int .i64 u, .int .i64 v, .int .i64 q]) (by simp [results, Try.results90, go_sem, Z0.out, Z1.out, Z2.out]) rfl ⟨⟨u, v, q⟩, rfl, (C8.out.grown GG.out (fun j hj => by cases hj; omega)).mono (by omega), grown_past G8.out GG.out (by omega), (by have hb9 := HBB.out; exact ⟨WalkArith.wf_i64 (n := u) (by omega), WalkArith.wf_i64 (n := v) (by omega), WalkArith.wf_i64 (n := q) (by omega)⟩)⟩
        · have t2 : ((r : Int) == 2) = false := by rw [beq_eq_false_iff_ne]; omega
          have tt := T6.out
          have rr := R6.out
          have a0 := cell_of_row w6 T 0 _ _ _ tt
          have a1 := cell_of_row w6 T 1 _ _ _ tt
          have a2 := cell_of_row w6 T 2 _ _ _ tt
          have c0 := cell_of_row w6 (w.heap.size + 1) 0 _ _ _ rr
          have c1 := cell_of_row w6 (w.heap.size + 1) 1 _ _ _ rr
          have c2 := cell_of_row w6 (w.heap.size + 1) 2 _ _ _ rr
          have d0 := frozen_of_row w6 (w.heap.size + 1) 0 _ _ rr
          have d1 := frozen_of_row w6 (w.heap.size + 1) 1 _ _ rr
          have d2 := frozen_of_row w6 (w.heap.size + 1) 2 _ _ rr
          have s0 := blk_setD (i := 0) (v := .int .i64 u) rr
          have z0 := cell_of_row _ (w.heap.size + 1) 0 _ _ _ s0
          have s1 := blk_setD (i := 1) (v := .int .i64 v) s0
          have z1 := cell_of_row _ (w.heap.size + 1) 1 _ _ _ s1
          have s2 := blk_setD (i := 2) (v := .int .i64 y) s1
          have z2 := cell_of_row _ (w.heap.size + 1) 2 _ _ _ s2
          simp at a0 a1 a2 c0 c1 c2 z0 z1 z2
          have Z0 := Lib.hid z0
          have Z1 := Lib.hid z1
          have Z2 := Lib.hid z2
          clear tt rr s0 s1 s2 z0 z1 z2
          have GG := Lib.hid (grown_trans (grown_trans (grown_setCell w6 (w.heap.size + 1) 0 (.int .i64 u)) (grown_setCell _ (w.heap.size + 1) 1 (.int .i64 v))) (grown_setCell _ (w.heap.size + 1) 2 (.int .i64 y)))
          go_wp2
          refine bodyPost_ret (v := .agg #[.int .i64 u, .int .i64 v, .int .i64 y]) (by simp [results, Try.results90, go_sem, Z0.out, Z1.out, Z2.out]) rfl ⟨⟨u, v, y⟩, rfl, (C6.out.grown GG.out (fun j hj => by cases hj; omega)).mono (by omega), grown_past G6.out GG.out (by omega), (by have hb9 := HBB.out; exact ⟨WalkArith.wf_i64 (n := u) (by omega), WalkArith.wf_i64 (n := v) (by omega), WalkArith.wf_i64 (n := y) (by omega)⟩)⟩
end Go.Proofs.Ytiogjocbiagipab
