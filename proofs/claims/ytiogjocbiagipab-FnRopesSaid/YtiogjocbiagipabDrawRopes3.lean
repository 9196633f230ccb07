/- The draws of the law FnRopes that hand a kind back. Condition: sizes. -/
import Derived.Test.YtiogjocbiagipabDrawRopes2
namespace Go.Proofs.Ytiogjocbiagipab
open Go.RowKit
set_option linter.unusedVariables false
theorem sel5 (r : Nat) (hr : (r : Int) < 24) : ∃ c n : Nat, (5 ≤ n ∧ n ≤ 7) ∧ Int.tdiv (r : Int) 11 = (c : Int) ∧ IntKind.i64.wrap (c : Int) = (c : Int) ∧ IntKind.i64.wrap (5 + (c : Int)) = (n : Int) ∧ (n : Int) ≤ 7 := by
  refine ⟨r / 11, 5 + r / 11, by omega, by rw [Int.tdiv_eq_ediv_of_nonneg (by omega)]; omega, IntWalk.i64_in _ (by omega), ?_, by omega⟩
  rw [IntWalk.i64_in _ (by omega)]
  omega
theorem take_cells {W : World} {t : TypeId} {l : List Int} {cs : Array Value} {g n : Nat} (hcs : cs = (l.map (Value.int .i64)).toArray) (h : W.heap[g]? = some (.cells cs t (0, 0))) :
    ∀ (i : Nat) (hi : i < (l.take n).length), W.cell? ⟨g, i, none⟩ = some (.int .i64 (l.take n)[i]) := by
  intro i hi
  have h2 : i < l.length := by rw [List.length_take] at hi; omega
  rw [List.getElem_take]
  exact lit_cells hcs h i h2
def DwwPost (w : World) (e : Ending) (w' : World) : Prop := ∃ (x : RK) (v : Value) (l : List Dmg) (y : Int), e = .returned (.tuple #[x.agg, v, .int .i64 y]) ∧ (Rs w' v l.length (dmgs l) ∧ l.length ≤ 17) ∧ (0 ≤ y ∧ y ≤ 3001) ∧ Below w.heap.size w w'
set_option maxRecDepth 100000 in
set_option maxHeartbeats 400000 in
theorem DrawWorstWindow_any (a : Option Addr) (len cap : Nat) (w : World) (h : ByteRow w a len) :
    Calls Try.prog 13 #[.slice a len cap] w (DwwPost w) := by
  have h1 := h.below (((Below.refl w.heap.size w).alloc (Nat.le_refl _) (.cells #[.int .i64 0, .int .i64 0, .int .i64 0, .int .i64 0, .int .i64 0] 25)))
  have C0 := Lib.hid (cur_at (cap := cap) h1 70 (n := w.heap.size + 1) (by simp))
  have K0 := Lib.hid (old_allocD (o' := .cells #[.slice a len cap, .int .i64 0, .int .u64 0] 70) (heap_alloc_new w (.cells #[.int .i64 0, .int .i64 0, .int .i64 0, .int .i64 0, .int .i64 0] 25)))
  have B0 := Lib.hid ((((Below.refl w.heap.size w).alloc (Nat.le_refl _) (.cells #[.int .i64 0, .int .i64 0, .int .i64 0, .int .i64 0, .int .i64 0] 25))).alloc (by simp; try omega) (.cells #[.slice a len cap, .int .i64 0, .int .u64 0] 70))
  have hz : ((w.alloc (.cells #[.int .i64 0, .int .i64 0, .int .i64 0, .int .i64 0, .int .i64 0] 25)).alloc (.cells #[.slice a len cap, .int .i64 0, .int .u64 0] 70)).heap.size = w.heap.size + 2 := by simp
  clear h h1
  go_enter Try.func13, Try.ntmps13
  go_upto_region 2 with fail
  generalize hw0 : (w.alloc (.cells #[.int .i64 0, .int .i64 0, .int .i64 0, .int .i64 0, .int .i64 0] 25)).alloc (.cells #[.slice a len cap, .int .i64 0, .int .u64 0] 70) = w0 at *
  clear hw0
  go_wp2_with fail
  refine (ropeKind_any _ _ 0 7 w0 C0.out (by omega)).mono ?_
  rintro e w1 ⟨x, rfl, hx, hc, hg⟩
  have K1 := Lib.hid (old_allocD (o' := .cells #[.int .i64 x.i, .int .i64 x.s, .int .i64 x.w, .int .i64 x.g, .int .i64 x.p] 25) (keepD hg (by omega) K0.out))
  have M1 := Lib.hid (heap_alloc_new w1 (.cells #[.int .i64 x.i, .int .i64 x.s, .int .i64 x.w, .int .i64 x.g, .int .i64 x.p] 25))
  have G1 := Lib.hid (grown_trans hg (World.grownBy_alloc w1 (.cells #[.int .i64 x.i, .int .i64 x.s, .int .i64 x.w, .int .i64 x.g, .int .i64 x.p] 25) (some (w.heap.size + 1))))
  have C1 := Lib.hid (hc.alloc (.cells #[.int .i64 x.i, .int .i64 x.s, .int .i64 x.w, .int .i64 x.g, .int .i64 x.p] 25))
  have hz1 := hg.size
  clear hc hg
  unfold RK.agg
  go_upto_region 3 with fail
  have hz2 : (w1.alloc (.cells #[.int .i64 x.i, .int .i64 x.s, .int .i64 x.w, .int .i64 x.g, .int .i64 x.p] 25)).heap.size = w1.heap.size + 1 := by simp
  generalize hw2 : w1.alloc (.cells #[.int .i64 x.i, .int .i64 x.s, .int .i64 x.w, .int .i64 x.g, .int .i64 x.p] 25) = w2 at *
  clear hw2
  obtain ⟨y0, y1, y2, y3, y4⟩ := box5 M1.out
  go_wp2_with fail
  refine (damages_any (w.heap.size + 1) (w.heap.size + 1) (0 + 20) x w2 C1.out (by omega) hx).mono ?_
  rintro e w3 ⟨v, l, rfl, S3, hl⟩
  clear y0 y1 y2 y3 y4
  have hg3 := S3.gr
  have K3 := Lib.hid (keepD hg3 (by omega) K1.out)
  have M3 := Lib.hid (keepD hg3 (by omega) M1.out)
  have hz3 := hg3.size
  have SS := Lib.hid S3
  have G3 := Lib.hid (grown_trans G1.out hg3)
  clear S3 hg3
  go_upto_region 4 with fail
  have KPb := Lib.hid (fun (W : World) (hW : w3.grownBy W (some (w.heap.size + 1))) => keepD hW (show w1.heap.size ≠ w.heap.size + 1 by omega) M3.out)
  have KP := Lib.hid (fun (W : World) (hW : w3.grownBy W (some (w.heap.size + 1))) => box5 (KPb.out W hW))
  have RPb := Lib.hid (fun (W : World) (hW : w3.grownBy W (some (w.heap.size + 1))) => keepD hW (show w.heap.size ≠ w.heap.size + 1 by omega) K3.out)
  have g00 : w3.grownBy w3 (some (w.heap.size + 1)) := grown_drew w3 0 (some _)
  have gd : Hid (∀ (W : World), w3.grownBy W (some (w.heap.size + 1)) → w3.grownBy W.drew (some (w.heap.size + 1))) := Lib.hid (fun W hW => grown_trans hW ⟨rfl, rfl, rfl, Nat.le_refl _, fun _ _ _ => rfl⟩)
  have cdr : Hid (∀ (W : World) (j : Nat), Cur (w.heap.size + 1) (w.heap.size + 1) j W → Cur (w.heap.size + 1) (w.heap.size + 1) j W.drew) := Lib.hid (fun W j hW => hW.drewD 1)
  have c00 := SS.out.cur
  have hb0 : Hid (∀ n : Nat, w3.heap.size ≤ n → n ≠ w.heap.size + 1) := Lib.hid (fun n hn => by omega)
  have gdw := gd.out _ g00
  have cdw := cdr.out _ _ c00
  obtain ⟨y0, y1, y2, y3, y4⟩ := KP.out _ g00
  have HLn := Lib.hid (fun W hW => length3_any (w.heap.size + 1) (w.heap.size + 1) (0 + 20 + 400) W hW (by omega))
  go_region_held3 (fun w' => w'.cell? ⟨w1.heap.size, 0, none⟩ = some (.int .i64 x.i) ∧ w'.cell? ⟨w1.heap.size, 1, none⟩ = some (.int .i64 x.s) ∧ w'.cell? ⟨w1.heap.size, 2, none⟩ = some (.int .i64 x.w) ∧ w'.cell? ⟨w1.heap.size, 3, none⟩ = some (.int .i64 x.g) ∧ w'.cell? ⟨w1.heap.size, 4, none⟩ = some (.int .i64 x.p)) (first | with_reducible exact KP.out _ gL | with_reducible exact KP.out _ g00 | with_reducible exact KP.out _ gdw | exact box5 (setO (show w1.heap.size ≠ w.heap.size by omega) (setO (show w1.heap.size ≠ w.heap.size by omega) (setO (show w1.heap.size ≠ w.heap.size by omega) (setO (show w1.heap.size ≠ w.heap.size by omega) (setO (show w1.heap.size ≠ w.heap.size by omega) (KPb.out _ gL)))))))
    (first
    | (go_at_call 51; refine (HLn.out _ (by first | with_reducible exact c00 | with_reducible exact cdw | with_reducible exact cdr.out _ _ c00 | with_reducible exact cdr.out _ _ cdw | with_reducible exact Cur.alloc c00 _ | with_reducible exact Cur.alloc cdw _ | with_reducible exact cdr.out _ _ (Cur.alloc c00 _) | with_reducible exact cdr.out _ _ (Cur.alloc cdw _) | fail)).mono ?_; rintro e wL ⟨y, rfl, hyb, hcL, hgL⟩; have gL : w3.grownBy wL (some (w.heap.size + 1)) := grown_trans (by first | with_reducible exact g00 | with_reducible exact gdw | with_reducible exact gd.out _ g00 | with_reducible exact gd.out _ gdw | with_reducible exact (grown_trans g00 (World.grownBy_alloc _ _ _)) | with_reducible exact (grown_trans gdw (World.grownBy_alloc _ _ _)) | with_reducible exact gd.out _ (grown_trans g00 (World.grownBy_alloc _ _ _)) | with_reducible exact gd.out _ (grown_trans gdw (World.grownBy_alloc _ _ _)) | fail) hgL; have zL := gL.size; have K9 := RPb.out wL gL; have c0 := cell_of_row wL w.heap.size 0 _ _ _ K9; have c1 := cell_of_row wL w.heap.size 1 _ _ _ K9; have c2 := cell_of_row wL w.heap.size 2 _ _ _ K9; have c3 := cell_of_row wL w.heap.size 3 _ _ _ K9; have c4 := cell_of_row wL w.heap.size 4 _ _ _ K9; have d0 := frozen_of_row wL w.heap.size 0 _ _ K9; have d1 := frozen_of_row wL w.heap.size 1 _ _ K9; have d2 := frozen_of_row wL w.heap.size 2 _ _ K9; have d3 := frozen_of_row wL w.heap.size 3 _ _ K9; have d4 := frozen_of_row wL w.heap.size 4 _ _ K9; have s0 := blk_setD (i := 0) (v := .int .i64 x.i) K9; have z0 := cell_of_row _ w.heap.size 0 _ _ _ s0; have s1 := blk_setD (i := 1) (v := .int .i64 x.s) s0; have z1 := cell_of_row _ w.heap.size 1 _ _ _ s1; have s2 := blk_setD (i := 2) (v := .int .i64 x.w) s1; have z2 := cell_of_row _ w.heap.size 2 _ _ _ s2; have s3 := blk_setD (i := 3) (v := .int .i64 x.g) s2; have z3 := cell_of_row _ w.heap.size 3 _ _ _ s3; have s4 := blk_setD (i := 4) (v := .int .i64 x.p) s3; have z4 := cell_of_row _ w.heap.size 4 _ _ _ s4; simp at c0 c1 c2 c3 c4 z0 z1 z2 z3 z4; have Z0 := Lib.hid z0; have Z1 := Lib.hid z1; have Z2 := Lib.hid z2; have Z3 := Lib.hid z3; have Z4 := Lib.hid z4; clear z0 z1 z2 z3 z4 s0 s1 s2 s3 s4))
  all_goals (have BB := Lib.hid (B0.out.trans (grown_below (grown_trans G3.out gL) (by omega) (fun k hk => by cases hk; omega))))
  all_goals (have HRs := Lib.hid (Rs.of_own (SS.out.own.kept gL SS.out.ne)))
  all_goals (have hbk := SS.out.blk)
  all_goals (have GA := Lib.hid (grown_trans (grown_trans (grown_trans (grown_trans (grown_setCell wL w.heap.size 0 (.int .i64 x.i)) (grown_setCell _ w.heap.size 1 (.int .i64 x.s))) (grown_setCell _ w.heap.size 2 (.int .i64 x.w))) (grown_setCell _ w.heap.size 3 (.int .i64 x.g))) (grown_setCell _ w.heap.size 4 (.int .i64 x.p))))
  all_goals clear y0 y1 y2 y3 y4 c0 c1 c2 c3 c4 d0 d1 d2 d3 d4 KP KPb RPb
  all_goals go_wp2
  all_goals refine bodyPost_ret (v := .tuple #[.agg #[.int .i64 x.i, .int .i64 x.s, .int .i64 x.w, .int .i64 x.g, .int .i64 x.p], v, .int .i64 y]) (by simp [results, Try.results13, go_sem, Z0.out, Z1.out, Z2.out, Z3.out, Z4.out]) rfl ?_
  all_goals refine ⟨x, v, l, y, rfl, ⟨rs_grownD HRs.out GA.out (fun j hj => by have := hbk j hj; omega), hl⟩, hyb, ((((BB.out.setCell (Nat.le_refl _) _).setCell (Nat.le_refl _) _).setCell (Nat.le_refl _) _).setCell (Nat.le_refl _) _).setCell (Nat.le_refl _) _⟩
def DrwPost (w : World) (e : Ending) (w' : World) : Prop := ∃ (x : RK) (q : Int), e = .returned (.tuple #[x.agg, .int .i64 q]) ∧ (-1 ≤ q ∧ q ≤ 20001) ∧ Below w.heap.size w w'
set_option maxRecDepth 100000 in
set_option maxHeartbeats 400000 in
theorem DrawRopeWeight_any (a : Option Addr) (len cap : Nat) (w : World) (h : ByteRow w a len) :
    Calls Try.prog 22 #[.slice a len cap] w (DrwPost w) := by
  have h1 := h.below (((Below.refl w.heap.size w).alloc (Nat.le_refl _) (.cells #[.int .i64 0, .int .i64 0, .int .i64 0, .int .i64 0, .int .i64 0] 25)))
  have C0 := Lib.hid (cur_at (cap := cap) h1 70 (n := w.heap.size + 1) (by simp))
  have K0 := Lib.hid (old_allocD (o' := .cells #[.slice a len cap, .int .i64 0, .int .u64 0] 70) (heap_alloc_new w (.cells #[.int .i64 0, .int .i64 0, .int .i64 0, .int .i64 0, .int .i64 0] 25)))
  have B0 := Lib.hid ((((Below.refl w.heap.size w).alloc (Nat.le_refl _) (.cells #[.int .i64 0, .int .i64 0, .int .i64 0, .int .i64 0, .int .i64 0] 25))).alloc (by simp; try omega) (.cells #[.slice a len cap, .int .i64 0, .int .u64 0] 70))
  have hz : ((w.alloc (.cells #[.int .i64 0, .int .i64 0, .int .i64 0, .int .i64 0, .int .i64 0] 25)).alloc (.cells #[.slice a len cap, .int .i64 0, .int .u64 0] 70)).heap.size = w.heap.size + 2 := by simp
  clear h h1
  go_enter Try.func22, Try.ntmps22
  go_upto_region 2 with fail
  generalize hw0 : (w.alloc (.cells #[.int .i64 0, .int .i64 0, .int .i64 0, .int .i64 0, .int .i64 0] 25)).alloc (.cells #[.slice a len cap, .int .i64 0, .int .u64 0] 70) = w0 at *
  clear hw0
  go_wp2_with fail
  refine (ropeKind_any _ _ 0 7 w0 C0.out (by omega)).mono ?_
  rintro e w1 ⟨x, rfl, hx, hc, hg⟩
  have K1 := Lib.hid (old_allocD (o' := .cells #[.int .i64 x.i, .int .i64 x.s, .int .i64 x.w, .int .i64 x.g, .int .i64 x.p] 25) (keepD hg (by omega) K0.out))
  have M1 := Lib.hid (heap_alloc_new w1 (.cells #[.int .i64 x.i, .int .i64 x.s, .int .i64 x.w, .int .i64 x.g, .int .i64 x.p] 25))
  have G1 := Lib.hid (grown_trans hg (World.grownBy_alloc w1 (.cells #[.int .i64 x.i, .int .i64 x.s, .int .i64 x.w, .int .i64 x.g, .int .i64 x.p] 25) (some (w.heap.size + 1))))
  have C1 := Lib.hid (hc.alloc (.cells #[.int .i64 x.i, .int .i64 x.s, .int .i64 x.w, .int .i64 x.g, .int .i64 x.p] 25))
  have hz1 := hg.size
  clear hc hg
  unfold RK.agg
  go_upto_region 3 with fail
  have hz2 : (w1.alloc (.cells #[.int .i64 x.i, .int .i64 x.s, .int .i64 x.w, .int .i64 x.g, .int .i64 x.p] 25)).heap.size = w1.heap.size + 1 := by simp
  generalize hw2 : w1.alloc (.cells #[.int .i64 x.i, .int .i64 x.s, .int .i64 x.w, .int .i64 x.g, .int .i64 x.p] 25) = w2 at *
  clear hw2
  have KPb := Lib.hid (fun (W : World) (hW : w2.grownBy W (some (w.heap.size + 1))) => keepD hW (show w1.heap.size ≠ w.heap.size + 1 by omega) M1.out)
  have KP := Lib.hid (fun (W : World) (hW : w2.grownBy W (some (w.heap.size + 1))) => box5 (KPb.out W hW))
  have RPb := Lib.hid (fun (W : World) (hW : w2.grownBy W (some (w.heap.size + 1))) => keepD hW (show w.heap.size ≠ w.heap.size + 1 by omega) K1.out)
  have g00 : w2.grownBy w2 (some (w.heap.size + 1)) := grown_drew w2 0 (some _)
  have gd : Hid (∀ (W : World), w2.grownBy W (some (w.heap.size + 1)) → w2.grownBy W.drew (some (w.heap.size + 1))) := Lib.hid (fun W hW => grown_trans hW ⟨rfl, rfl, rfl, Nat.le_refl _, fun _ _ _ => rfl⟩)
  have cdr : Hid (∀ (W : World) (j : Nat), Cur (w.heap.size + 1) (w.heap.size + 1) j W → Cur (w.heap.size + 1) (w.heap.size + 1) j W.drew) := Lib.hid (fun W j hW => hW.drewD 1)
  have c00 := C1.out
  have hb0 : Hid (∀ n : Nat, w2.heap.size ≤ n → n ≠ w.heap.size + 1) := Lib.hid (fun n hn => by omega)
  have gdw := gd.out _ g00
  have cdw := cdr.out _ _ c00
  obtain ⟨y0, y1, y2, y3, y4⟩ := KP.out _ g00
  have HPi := Lib.hid (fun W hW => pick_any (w.heap.size + 1) (w.heap.size + 1) (0 + 20) 24 W hW (by omega) (by omega) (by omega))
  have HAm : Hid (∀ W g n, 5 ≤ n ∧ n ≤ 7 → Cur (w.heap.size + 1) (w.heap.size + 1) (0 + 20 + 2) W → g ≠ w.heap.size + 1 → W.heap[g]? = some (.cells #[.int .i64 0, .int .i64 1, .int .i64 3, .int .i64 1000, .int .i64 20000, .int .i64 (-1), .int .i64 20001] 3 (0, 0)) → Calls Try.prog 58 #[.pointer (some ⟨w.heap.size + 1, 0, none⟩), .slice (some ⟨g, 0, none⟩) n 7] W (AmPost (w.heap.size + 1) (w.heap.size + 1) (0 + 20 + 2) ([0, 1, 3, 1000, 20000, -1, 20001].take n) W)) := Lib.hid (fun W g n hn hW hg hc => among_any (w.heap.size + 1) (w.heap.size + 1) (0 + 20 + 2) g n 7 ([0, 1, 3, 1000, 20000, -1, 20001].take n) W hW (by omega) (by rw [List.length_take]; simp; omega) (by omega) (by omega) hg (take_cells rfl hc))
  go_region_held3 (fun w' => w'.cell? ⟨w1.heap.size, 0, none⟩ = some (.int .i64 x.i) ∧ w'.cell? ⟨w1.heap.size, 1, none⟩ = some (.int .i64 x.s) ∧ w'.cell? ⟨w1.heap.size, 2, none⟩ = some (.int .i64 x.w) ∧ w'.cell? ⟨w1.heap.size, 3, none⟩ = some (.int .i64 x.g) ∧ w'.cell? ⟨w1.heap.size, 4, none⟩ = some (.int .i64 x.p)) (first | with_reducible exact KP.out _ gA | with_reducible exact KP.out _ gP | with_reducible exact KP.out _ g00 | with_reducible exact KP.out _ gdw | exact box5 (setO (show w1.heap.size ≠ w.heap.size by omega) (setO (show w1.heap.size ≠ w.heap.size by omega) (setO (show w1.heap.size ≠ w.heap.size by omega) (setO (show w1.heap.size ≠ w.heap.size by omega) (setO (show w1.heap.size ≠ w.heap.size by omega) (KPb.out _ gA)))))) | with_reducible exact KP.out _ (gA) | with_reducible exact KP.out _ (gP) | with_reducible exact KP.out _ (g00) | with_reducible exact KP.out _ (gdw) | with_reducible exact KP.out _ (gd.out _ gA) | with_reducible exact KP.out _ (gd.out _ gP) | with_reducible exact KP.out _ (gd.out _ g00) | with_reducible exact KP.out _ (gd.out _ gdw) | with_reducible exact KP.out _ ((grown_trans gA (World.grownBy_alloc _ _ _))) | with_reducible exact KP.out _ ((grown_trans gP (World.grownBy_alloc _ _ _))) | with_reducible exact KP.out _ ((grown_trans g00 (World.grownBy_alloc _ _ _))) | with_reducible exact KP.out _ ((grown_trans gdw (World.grownBy_alloc _ _ _))) | with_reducible exact KP.out _ (gd.out _ (grown_trans gA (World.grownBy_alloc _ _ _))) | with_reducible exact KP.out _ (gd.out _ (grown_trans gP (World.grownBy_alloc _ _ _))) | with_reducible exact KP.out _ (gd.out _ (grown_trans g00 (World.grownBy_alloc _ _ _))) | with_reducible exact KP.out _ (gd.out _ (grown_trans gdw (World.grownBy_alloc _ _ _))))
    (first
    | (go_at_call 59; refine (HPi.out _ (by first | with_reducible exact c00 | with_reducible exact cdw | with_reducible exact cdr.out _ _ c00 | with_reducible exact cdr.out _ _ cdw | with_reducible exact Cur.alloc c00 _ | with_reducible exact Cur.alloc cdw _ | with_reducible exact cdr.out _ _ (Cur.alloc c00 _) | with_reducible exact cdr.out _ _ (Cur.alloc cdw _) | fail)).mono ?_; rintro e wP ⟨r, rfl, hr, hcP, hgP⟩; have gP : w2.grownBy wP (some (w.heap.size + 1)) := grown_trans (by first | with_reducible exact g00 | with_reducible exact gdw | with_reducible exact gd.out _ g00 | with_reducible exact gd.out _ gdw | with_reducible exact (grown_trans g00 (World.grownBy_alloc _ _ _)) | with_reducible exact (grown_trans gdw (World.grownBy_alloc _ _ _)) | with_reducible exact gd.out _ (grown_trans g00 (World.grownBy_alloc _ _ _)) | with_reducible exact gd.out _ (grown_trans gdw (World.grownBy_alloc _ _ _)) | fail) hgP; have zP := gP.size; obtain ⟨c, n, hn, t1, s1, s2, hn7⟩ := sel5 r hr)
    | (go_at_call 58; refine (HAm.out _ _ _ hn (by first | with_reducible exact hcP | with_reducible exact c00 | with_reducible exact cdw | with_reducible exact cdr.out _ _ hcP | with_reducible exact cdr.out _ _ c00 | with_reducible exact cdr.out _ _ cdw | with_reducible exact Cur.alloc hcP _ | with_reducible exact Cur.alloc c00 _ | with_reducible exact Cur.alloc cdw _ | with_reducible exact cdr.out _ _ (Cur.alloc hcP _) | with_reducible exact cdr.out _ _ (Cur.alloc c00 _) | with_reducible exact cdr.out _ _ (Cur.alloc cdw _) | fail) (hb0.out _ (by first | omega | (simp; done) | (simp; omega))) (by first | with_reducible exact nalD (by first | rfl | (simp; done) | omega) | with_reducible exact odrewD1 (nalD (by first | rfl | (simp; done) | omega)) | with_reducible exact keepD hgP (hb0.out _ (by first | omega | (simp; done) | (simp; omega))) (nalD (by first | rfl | (simp; done) | omega)) | with_reducible exact keepD hgP (hb0.out _ (by first | omega | (simp; done) | (simp; omega))) (odrewD1 (nalD (by first | rfl | (simp; done) | omega))) | fail)).mono ?_; rintro e wA ⟨q, hq, rfl, hcA, hgA⟩; have hqb : -1 ≤ q ∧ q ≤ 20001 := (by have := List.mem_of_mem_take hq; simp at this; omega); have gA : w2.grownBy wA (some (w.heap.size + 1)) := grown_trans (by first | with_reducible exact gP | with_reducible exact g00 | with_reducible exact gdw | with_reducible exact gd.out _ gP | with_reducible exact gd.out _ g00 | with_reducible exact gd.out _ gdw | with_reducible exact (grown_trans gP (World.grownBy_alloc _ _ _)) | with_reducible exact (grown_trans g00 (World.grownBy_alloc _ _ _)) | with_reducible exact (grown_trans gdw (World.grownBy_alloc _ _ _)) | with_reducible exact gd.out _ (grown_trans gP (World.grownBy_alloc _ _ _)) | with_reducible exact gd.out _ (grown_trans g00 (World.grownBy_alloc _ _ _)) | with_reducible exact gd.out _ (grown_trans gdw (World.grownBy_alloc _ _ _)) | fail) hgA; have zA := gA.size; have K9 := RPb.out wA gA; have c0 := cell_of_row wA w.heap.size 0 _ _ _ K9; have c1 := cell_of_row wA w.heap.size 1 _ _ _ K9; have c2 := cell_of_row wA w.heap.size 2 _ _ _ K9; have c3 := cell_of_row wA w.heap.size 3 _ _ _ K9; have c4 := cell_of_row wA w.heap.size 4 _ _ _ K9; have d0 := frozen_of_row wA w.heap.size 0 _ _ K9; have d1 := frozen_of_row wA w.heap.size 1 _ _ K9; have d2 := frozen_of_row wA w.heap.size 2 _ _ K9; have d3 := frozen_of_row wA w.heap.size 3 _ _ K9; have d4 := frozen_of_row wA w.heap.size 4 _ _ K9; have s0 := blk_setD (i := 0) (v := .int .i64 x.i) K9; have z0 := cell_of_row _ w.heap.size 0 _ _ _ s0; have s1 := blk_setD (i := 1) (v := .int .i64 x.s) s0; have z1 := cell_of_row _ w.heap.size 1 _ _ _ s1; have s2 := blk_setD (i := 2) (v := .int .i64 x.w) s1; have z2 := cell_of_row _ w.heap.size 2 _ _ _ s2; have s3 := blk_setD (i := 3) (v := .int .i64 x.g) s2; have z3 := cell_of_row _ w.heap.size 3 _ _ _ s3; have s4 := blk_setD (i := 4) (v := .int .i64 x.p) s3; have z4 := cell_of_row _ w.heap.size 4 _ _ _ s4; simp at c0 c1 c2 c3 c4 z0 z1 z2 z3 z4; have Z0 := Lib.hid z0; have Z1 := Lib.hid z1; have Z2 := Lib.hid z2; have Z3 := Lib.hid z3; have Z4 := Lib.hid z4; clear z0 z1 z2 z3 z4 s0 s1 s2 s3 s4))
  all_goals (have BB := Lib.hid (B0.out.trans (grown_below (grown_trans G1.out gA) (by omega) (fun k hk => by cases hk; omega))))
  all_goals (have GA := Lib.hid (grown_trans (grown_trans (grown_trans (grown_trans (grown_setCell wA w.heap.size 0 (.int .i64 x.i)) (grown_setCell _ w.heap.size 1 (.int .i64 x.s))) (grown_setCell _ w.heap.size 2 (.int .i64 x.w))) (grown_setCell _ w.heap.size 3 (.int .i64 x.g))) (grown_setCell _ w.heap.size 4 (.int .i64 x.p))))
  all_goals clear y0 y1 y2 y3 y4 c0 c1 c2 c3 c4 d0 d1 d2 d3 d4 KP KPb RPb
  all_goals go_wp2
  all_goals refine bodyPost_ret (v := .tuple #[.agg #[.int .i64 x.i, .int .i64 x.s, .int .i64 x.w, .int .i64 x.g, .int .i64 x.p], .int .i64 q]) (by simp [results, Try.results22, go_sem, Z0.out, Z1.out, Z2.out, Z3.out, Z4.out]) rfl ?_
  all_goals refine ⟨x, q, rfl, hqb, ((((BB.out.setCell (Nat.le_refl _) _).setCell (Nat.le_refl _) _).setCell (Nat.le_refl _) _).setCell (Nat.le_refl _) _).setCell (Nat.le_refl _) _⟩
def DbwPost (w : World) (e : Ending) (w' : World) : Prop := ∃ (x : RK) (v : Value) (l : List Dmg) (q : Int) (y : Int), e = .returned (.tuple #[x.agg, v, .int .i64 q, .int .i64 y]) ∧ (Rs w' v l.length (dmgs l) ∧ l.length ≤ 17) ∧ (-1 ≤ q ∧ q ≤ 20001) ∧ (0 ≤ y ∧ y ≤ 3001) ∧ Below w.heap.size w w'
set_option maxRecDepth 100000 in
set_option maxHeartbeats 400000 in
theorem DrawBrokenWires_any (a : Option Addr) (len cap : Nat) (w : World) (h : ByteRow w a len) :
    Calls Try.prog 17 #[.slice a len cap] w (DbwPost w) := by
  have h1 := h.below (((Below.refl w.heap.size w).alloc (Nat.le_refl _) (.cells #[.int .i64 0, .int .i64 0, .int .i64 0, .int .i64 0, .int .i64 0] 25)))
  have C0 := Lib.hid (cur_at (cap := cap) h1 70 (n := w.heap.size + 1) (by simp))
  have K0 := Lib.hid (old_allocD (o' := .cells #[.slice a len cap, .int .i64 0, .int .u64 0] 70) (heap_alloc_new w (.cells #[.int .i64 0, .int .i64 0, .int .i64 0, .int .i64 0, .int .i64 0] 25)))
  have B0 := Lib.hid ((((Below.refl w.heap.size w).alloc (Nat.le_refl _) (.cells #[.int .i64 0, .int .i64 0, .int .i64 0, .int .i64 0, .int .i64 0] 25))).alloc (by simp; try omega) (.cells #[.slice a len cap, .int .i64 0, .int .u64 0] 70))
  have hz : ((w.alloc (.cells #[.int .i64 0, .int .i64 0, .int .i64 0, .int .i64 0, .int .i64 0] 25)).alloc (.cells #[.slice a len cap, .int .i64 0, .int .u64 0] 70)).heap.size = w.heap.size + 2 := by simp
  clear h h1
  go_enter Try.func17, Try.ntmps17
  go_upto_region 2 with fail
  generalize hw0 : (w.alloc (.cells #[.int .i64 0, .int .i64 0, .int .i64 0, .int .i64 0, .int .i64 0] 25)).alloc (.cells #[.slice a len cap, .int .i64 0, .int .u64 0] 70) = w0 at *
  clear hw0
  go_wp2_with fail
  refine (ropeKind_any _ _ 0 7 w0 C0.out (by omega)).mono ?_
  rintro e w1 ⟨x, rfl, hx, hc, hg⟩
  have K1 := Lib.hid (old_allocD (o' := .cells #[.int .i64 x.i, .int .i64 x.s, .int .i64 x.w, .int .i64 x.g, .int .i64 x.p] 25) (keepD hg (by omega) K0.out))
  have M1 := Lib.hid (heap_alloc_new w1 (.cells #[.int .i64 x.i, .int .i64 x.s, .int .i64 x.w, .int .i64 x.g, .int .i64 x.p] 25))
  have G1 := Lib.hid (grown_trans hg (World.grownBy_alloc w1 (.cells #[.int .i64 x.i, .int .i64 x.s, .int .i64 x.w, .int .i64 x.g, .int .i64 x.p] 25) (some (w.heap.size + 1))))
  have C1 := Lib.hid (hc.alloc (.cells #[.int .i64 x.i, .int .i64 x.s, .int .i64 x.w, .int .i64 x.g, .int .i64 x.p] 25))
  have hz1 := hg.size
  clear hc hg
  unfold RK.agg
  go_upto_region 3 with fail
  have hz2 : (w1.alloc (.cells #[.int .i64 x.i, .int .i64 x.s, .int .i64 x.w, .int .i64 x.g, .int .i64 x.p] 25)).heap.size = w1.heap.size + 1 := by simp
  generalize hw2 : w1.alloc (.cells #[.int .i64 x.i, .int .i64 x.s, .int .i64 x.w, .int .i64 x.g, .int .i64 x.p] 25) = w2 at *
  clear hw2
  obtain ⟨y0, y1, y2, y3, y4⟩ := box5 M1.out
  go_wp2_with fail
  refine (damages_any (w.heap.size + 1) (w.heap.size + 1) (0 + 20) x w2 C1.out (by omega) hx).mono ?_
  rintro e w3 ⟨v, l, rfl, S3, hl⟩
  clear y0 y1 y2 y3 y4
  have hg3 := S3.gr
  have K3 := Lib.hid (keepD hg3 (by omega) K1.out)
  have M3 := Lib.hid (keepD hg3 (by omega) M1.out)
  have hz3 := hg3.size
  have SS := Lib.hid S3
  have G3 := Lib.hid (grown_trans G1.out hg3)
  clear S3 hg3
  go_upto_region 4 with fail
  have KPb := Lib.hid (fun (W : World) (hW : w3.grownBy W (some (w.heap.size + 1))) => keepD hW (show w1.heap.size ≠ w.heap.size + 1 by omega) M3.out)
  have KP := Lib.hid (fun (W : World) (hW : w3.grownBy W (some (w.heap.size + 1))) => box5 (KPb.out W hW))
  have RPb := Lib.hid (fun (W : World) (hW : w3.grownBy W (some (w.heap.size + 1))) => keepD hW (show w.heap.size ≠ w.heap.size + 1 by omega) K3.out)
  have g00 : w3.grownBy w3 (some (w.heap.size + 1)) := grown_drew w3 0 (some _)
  have gd : Hid (∀ (W : World), w3.grownBy W (some (w.heap.size + 1)) → w3.grownBy W.drew (some (w.heap.size + 1))) := Lib.hid (fun W hW => grown_trans hW ⟨rfl, rfl, rfl, Nat.le_refl _, fun _ _ _ => rfl⟩)
  have cdr : Hid (∀ (W : World) (j : Nat), Cur (w.heap.size + 1) (w.heap.size + 1) j W → Cur (w.heap.size + 1) (w.heap.size + 1) j W.drew) := Lib.hid (fun W j hW => hW.drewD 1)
  have c00 := SS.out.cur
  have hb0 : Hid (∀ n : Nat, w3.heap.size ≤ n → n ≠ w.heap.size + 1) := Lib.hid (fun n hn => by omega)
  have gdw := gd.out _ g00
  have cdw := cdr.out _ _ c00
  obtain ⟨y0, y1, y2, y3, y4⟩ := KP.out _ g00
  have HPi := Lib.hid (fun W hW => pick_any (w.heap.size + 1) (w.heap.size + 1) (0 + 20 + 400) 24 W hW (by omega) (by omega) (by omega))
  have HAm : Hid (∀ W g n, 5 ≤ n ∧ n ≤ 7 → Cur (w.heap.size + 1) (w.heap.size + 1) (0 + 20 + 400 + 2) W → g ≠ w.heap.size + 1 → W.heap[g]? = some (.cells #[.int .i64 0, .int .i64 4, .int .i64 9, .int .i64 60, .int .i64 3000, .int .i64 (-1), .int .i64 3001] 3 (0, 0)) → Calls Try.prog 58 #[.pointer (some ⟨w.heap.size + 1, 0, none⟩), .slice (some ⟨g, 0, none⟩) n 7] W (AmPost (w.heap.size + 1) (w.heap.size + 1) (0 + 20 + 400 + 2) ([0, 4, 9, 60, 3000, -1, 3001].take n) W)) := Lib.hid (fun W g n hn hW hg hc => among_any (w.heap.size + 1) (w.heap.size + 1) (0 + 20 + 400 + 2) g n 7 ([0, 4, 9, 60, 3000, -1, 3001].take n) W hW (by omega) (by rw [List.length_take]; simp; omega) (by omega) (by omega) hg (take_cells rfl hc))
  have HLn := Lib.hid (fun W hW => length3_any (w.heap.size + 1) (w.heap.size + 1) (0 + 20 + 400 + 2 + 2) W hW (by omega))
  go_region_held3 (fun w' => w'.cell? ⟨w1.heap.size, 0, none⟩ = some (.int .i64 x.i) ∧ w'.cell? ⟨w1.heap.size, 1, none⟩ = some (.int .i64 x.s) ∧ w'.cell? ⟨w1.heap.size, 2, none⟩ = some (.int .i64 x.w) ∧ w'.cell? ⟨w1.heap.size, 3, none⟩ = some (.int .i64 x.g) ∧ w'.cell? ⟨w1.heap.size, 4, none⟩ = some (.int .i64 x.p)) (first | with_reducible exact KP.out _ gL | with_reducible exact KP.out _ gA | with_reducible exact KP.out _ gP | with_reducible exact KP.out _ g00 | with_reducible exact KP.out _ gdw | exact box5 (setO (show w1.heap.size ≠ w.heap.size by omega) (setO (show w1.heap.size ≠ w.heap.size by omega) (setO (show w1.heap.size ≠ w.heap.size by omega) (setO (show w1.heap.size ≠ w.heap.size by omega) (setO (show w1.heap.size ≠ w.heap.size by omega) (KPb.out _ gL)))))) | with_reducible exact KP.out _ (gL) | with_reducible exact KP.out _ (gA) | with_reducible exact KP.out _ (gP) | with_reducible exact KP.out _ (g00) | with_reducible exact KP.out _ (gdw) | with_reducible exact KP.out _ (gd.out _ gL) | with_reducible exact KP.out _ (gd.out _ gA) | with_reducible exact KP.out _ (gd.out _ gP) | with_reducible exact KP.out _ (gd.out _ g00) | with_reducible exact KP.out _ (gd.out _ gdw) | with_reducible exact KP.out _ ((grown_trans gL (World.grownBy_alloc _ _ _))) | with_reducible exact KP.out _ ((grown_trans gA (World.grownBy_alloc _ _ _))) | with_reducible exact KP.out _ ((grown_trans gP (World.grownBy_alloc _ _ _))) | with_reducible exact KP.out _ ((grown_trans g00 (World.grownBy_alloc _ _ _))) | with_reducible exact KP.out _ ((grown_trans gdw (World.grownBy_alloc _ _ _))) | with_reducible exact KP.out _ (gd.out _ (grown_trans gL (World.grownBy_alloc _ _ _))) | with_reducible exact KP.out _ (gd.out _ (grown_trans gA (World.grownBy_alloc _ _ _))) | with_reducible exact KP.out _ (gd.out _ (grown_trans gP (World.grownBy_alloc _ _ _))) | with_reducible exact KP.out _ (gd.out _ (grown_trans g00 (World.grownBy_alloc _ _ _))) | with_reducible exact KP.out _ (gd.out _ (grown_trans gdw (World.grownBy_alloc _ _ _))))
    (first
    | (go_at_call 59; refine (HPi.out _ (by first | with_reducible exact c00 | with_reducible exact cdw | with_reducible exact cdr.out _ _ c00 | with_reducible exact cdr.out _ _ cdw | with_reducible exact Cur.alloc c00 _ | with_reducible exact Cur.alloc cdw _ | with_reducible exact cdr.out _ _ (Cur.alloc c00 _) | with_reducible exact cdr.out _ _ (Cur.alloc cdw _) | fail)).mono ?_; rintro e wP ⟨r, rfl, hr, hcP, hgP⟩; have gP : w3.grownBy wP (some (w.heap.size + 1)) := grown_trans (by first | with_reducible exact g00 | with_reducible exact gdw | with_reducible exact gd.out _ g00 | with_reducible exact gd.out _ gdw | with_reducible exact (grown_trans g00 (World.grownBy_alloc _ _ _)) | with_reducible exact (grown_trans gdw (World.grownBy_alloc _ _ _)) | with_reducible exact gd.out _ (grown_trans g00 (World.grownBy_alloc _ _ _)) | with_reducible exact gd.out _ (grown_trans gdw (World.grownBy_alloc _ _ _)) | fail) hgP; have zP := gP.size; obtain ⟨c, n, hn, t1, s1, s2, hn7⟩ := sel5 r hr)
    | (go_at_call 58; refine (HAm.out _ _ _ hn (by first | with_reducible exact hcP | with_reducible exact c00 | with_reducible exact cdw | with_reducible exact cdr.out _ _ hcP | with_reducible exact cdr.out _ _ c00 | with_reducible exact cdr.out _ _ cdw | with_reducible exact Cur.alloc hcP _ | with_reducible exact Cur.alloc c00 _ | with_reducible exact Cur.alloc cdw _ | with_reducible exact cdr.out _ _ (Cur.alloc hcP _) | with_reducible exact cdr.out _ _ (Cur.alloc c00 _) | with_reducible exact cdr.out _ _ (Cur.alloc cdw _) | fail) (hb0.out _ (by first | omega | (simp; done) | (simp; omega))) (by first | with_reducible exact nalD (by first | rfl | (simp; done) | omega) | with_reducible exact odrewD1 (nalD (by first | rfl | (simp; done) | omega)) | with_reducible exact keepD hgP (hb0.out _ (by first | omega | (simp; done) | (simp; omega))) (nalD (by first | rfl | (simp; done) | omega)) | with_reducible exact keepD hgP (hb0.out _ (by first | omega | (simp; done) | (simp; omega))) (odrewD1 (nalD (by first | rfl | (simp; done) | omega))) | fail)).mono ?_; rintro e wA ⟨q, hq, rfl, hcA, hgA⟩; have hqb : -1 ≤ q ∧ q ≤ 20001 := (by have := List.mem_of_mem_take hq; simp at this; omega); have gA : w3.grownBy wA (some (w.heap.size + 1)) := grown_trans (by first | with_reducible exact gP | with_reducible exact g00 | with_reducible exact gdw | with_reducible exact gd.out _ gP | with_reducible exact gd.out _ g00 | with_reducible exact gd.out _ gdw | with_reducible exact (grown_trans gP (World.grownBy_alloc _ _ _)) | with_reducible exact (grown_trans g00 (World.grownBy_alloc _ _ _)) | with_reducible exact (grown_trans gdw (World.grownBy_alloc _ _ _)) | with_reducible exact gd.out _ (grown_trans gP (World.grownBy_alloc _ _ _)) | with_reducible exact gd.out _ (grown_trans g00 (World.grownBy_alloc _ _ _)) | with_reducible exact gd.out _ (grown_trans gdw (World.grownBy_alloc _ _ _)) | fail) hgA; have zA := gA.size)
    | (go_at_call 51; refine (HLn.out _ (by first | with_reducible exact hcA | with_reducible exact hcP | with_reducible exact c00 | with_reducible exact cdw | with_reducible exact cdr.out _ _ hcA | with_reducible exact cdr.out _ _ hcP | with_reducible exact cdr.out _ _ c00 | with_reducible exact cdr.out _ _ cdw | with_reducible exact Cur.alloc hcA _ | with_reducible exact Cur.alloc hcP _ | with_reducible exact Cur.alloc c00 _ | with_reducible exact Cur.alloc cdw _ | with_reducible exact cdr.out _ _ (Cur.alloc hcA _) | with_reducible exact cdr.out _ _ (Cur.alloc hcP _) | with_reducible exact cdr.out _ _ (Cur.alloc c00 _) | with_reducible exact cdr.out _ _ (Cur.alloc cdw _) | fail)).mono ?_; rintro e wL ⟨y, rfl, hyb, hcL, hgL⟩; have gL : w3.grownBy wL (some (w.heap.size + 1)) := grown_trans (by first | with_reducible exact gA | with_reducible exact gP | with_reducible exact g00 | with_reducible exact gdw | with_reducible exact gd.out _ gA | with_reducible exact gd.out _ gP | with_reducible exact gd.out _ g00 | with_reducible exact gd.out _ gdw | with_reducible exact (grown_trans gA (World.grownBy_alloc _ _ _)) | with_reducible exact (grown_trans gP (World.grownBy_alloc _ _ _)) | with_reducible exact (grown_trans g00 (World.grownBy_alloc _ _ _)) | with_reducible exact (grown_trans gdw (World.grownBy_alloc _ _ _)) | with_reducible exact gd.out _ (grown_trans gA (World.grownBy_alloc _ _ _)) | with_reducible exact gd.out _ (grown_trans gP (World.grownBy_alloc _ _ _)) | with_reducible exact gd.out _ (grown_trans g00 (World.grownBy_alloc _ _ _)) | with_reducible exact gd.out _ (grown_trans gdw (World.grownBy_alloc _ _ _)) | fail) hgL; have zL := gL.size; have K9 := RPb.out wL gL; have c0 := cell_of_row wL w.heap.size 0 _ _ _ K9; have c1 := cell_of_row wL w.heap.size 1 _ _ _ K9; have c2 := cell_of_row wL w.heap.size 2 _ _ _ K9; have c3 := cell_of_row wL w.heap.size 3 _ _ _ K9; have c4 := cell_of_row wL w.heap.size 4 _ _ _ K9; have d0 := frozen_of_row wL w.heap.size 0 _ _ K9; have d1 := frozen_of_row wL w.heap.size 1 _ _ K9; have d2 := frozen_of_row wL w.heap.size 2 _ _ K9; have d3 := frozen_of_row wL w.heap.size 3 _ _ K9; have d4 := frozen_of_row wL w.heap.size 4 _ _ K9; have s0 := blk_setD (i := 0) (v := .int .i64 x.i) K9; have z0 := cell_of_row _ w.heap.size 0 _ _ _ s0; have s1 := blk_setD (i := 1) (v := .int .i64 x.s) s0; have z1 := cell_of_row _ w.heap.size 1 _ _ _ s1; have s2 := blk_setD (i := 2) (v := .int .i64 x.w) s1; have z2 := cell_of_row _ w.heap.size 2 _ _ _ s2; have s3 := blk_setD (i := 3) (v := .int .i64 x.g) s2; have z3 := cell_of_row _ w.heap.size 3 _ _ _ s3; have s4 := blk_setD (i := 4) (v := .int .i64 x.p) s3; have z4 := cell_of_row _ w.heap.size 4 _ _ _ s4; simp at c0 c1 c2 c3 c4 z0 z1 z2 z3 z4; have Z0 := Lib.hid z0; have Z1 := Lib.hid z1; have Z2 := Lib.hid z2; have Z3 := Lib.hid z3; have Z4 := Lib.hid z4; clear z0 z1 z2 z3 z4 s0 s1 s2 s3 s4))
  all_goals (have BB := Lib.hid (B0.out.trans (grown_below (grown_trans G3.out gL) (by omega) (fun k hk => by cases hk; omega))))
  all_goals (have HRs := Lib.hid (Rs.of_own (SS.out.own.kept gL SS.out.ne)))
  all_goals (have hbk := SS.out.blk)
  all_goals (have GA := Lib.hid (grown_trans (grown_trans (grown_trans (grown_trans (grown_setCell wL w.heap.size 0 (.int .i64 x.i)) (grown_setCell _ w.heap.size 1 (.int .i64 x.s))) (grown_setCell _ w.heap.size 2 (.int .i64 x.w))) (grown_setCell _ w.heap.size 3 (.int .i64 x.g))) (grown_setCell _ w.heap.size 4 (.int .i64 x.p))))
  all_goals clear y0 y1 y2 y3 y4 c0 c1 c2 c3 c4 d0 d1 d2 d3 d4 KP KPb RPb
  all_goals go_wp2
  all_goals refine bodyPost_ret (v := .tuple #[.agg #[.int .i64 x.i, .int .i64 x.s, .int .i64 x.w, .int .i64 x.g, .int .i64 x.p], v, .int .i64 q, .int .i64 y]) (by simp [results, Try.results17, go_sem, Z0.out, Z1.out, Z2.out, Z3.out, Z4.out]) rfl ?_
  all_goals refine ⟨x, v, l, q, y, rfl, ⟨rs_grownD HRs.out GA.out (fun j hj => by have := hbk j hj; omega), hl⟩, hqb, hyb, ((((BB.out.setCell (Nat.le_refl _) _).setCell (Nat.le_refl _) _).setCell (Nat.le_refl _) _).setCell (Nat.le_refl _) _).setCell (Nat.le_refl _) _⟩
end Go.Proofs.Ytiogjocbiagipab
