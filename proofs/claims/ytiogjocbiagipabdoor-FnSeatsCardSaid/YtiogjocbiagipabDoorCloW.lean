/- A comparing closure. No condition. -/
import Derived.Test.YtiogjocbiagipabDoorSortG
namespace Go.Proofs.YtiogjocbiagipabDoor
open Go.RowKit Go.Sort Go.Shelf Go.Lib
set_option linter.unusedVariables false
set_option maxRecDepth 100000 in
set_option maxHeartbeats 4000000 in
theorem clo_worn (x y : Cab) (w : World) :
    Calls Tryd.prog 81 #[.agg #[.int .i64 x.i, .int .i64 x.s, .int .i64 x.w, .int .i64 x.g, .int .i64 x.p], .agg #[.int .i64 y.i, .int .i64 y.s, .int .i64 y.w, .int .i64 y.g, .int .i64 y.p]] w fun e w' => e = .returned (.int .i64 (cfC true x y)) ∧ Gr w w' := by
  have HC := Lib.hid (orI_cf true x y)
  unfold keyC at HC
  simp only [if_true] at HC
  generalize hcf : cfC true x y = cf at *
  clear hcf
  go_enter Tryd.func81, Tryd.ntmps81
  go_wp2_with fail
  have HX : Hid (∀ W, Below (w.heap.size + 2) ((w.alloc (.cells #[.int .i64 x.i, .int .i64 x.s, .int .i64 x.w, .int .i64 x.g, .int .i64 x.p] 34)).alloc (.cells #[.int .i64 y.i, .int .i64 y.s, .int .i64 y.w, .int .i64 y.g, .int .i64 y.p] 34)) W → W.cell? ⟨w.heap.size, 0, none⟩ = some (.int .i64 x.i) ∧ W.cell? ⟨w.heap.size, 1, none⟩ = some (.int .i64 x.s) ∧ W.cell? ⟨w.heap.size, 2, none⟩ = some (.int .i64 x.w) ∧ W.cell? ⟨w.heap.size, 3, none⟩ = some (.int .i64 x.g) ∧ W.cell? ⟨w.heap.size, 4, none⟩ = some (.int .i64 x.p)) := Lib.hid (fun W h => box_Cab w x _ _ rfl W (((Below.refl _ _).alloc (by simp) _).trans (h.mono (by simp))))
  have HY : Hid (∀ W, Below (w.heap.size + 2) ((w.alloc (.cells #[.int .i64 x.i, .int .i64 x.s, .int .i64 x.w, .int .i64 x.g, .int .i64 x.p] 34)).alloc (.cells #[.int .i64 y.i, .int .i64 y.s, .int .i64 y.w, .int .i64 y.g, .int .i64 y.p] 34)) W → W.cell? ⟨w.heap.size + 1, 0, none⟩ = some (.int .i64 y.i) ∧ W.cell? ⟨w.heap.size + 1, 1, none⟩ = some (.int .i64 y.s) ∧ W.cell? ⟨w.heap.size + 1, 2, none⟩ = some (.int .i64 y.w) ∧ W.cell? ⟨w.heap.size + 1, 3, none⟩ = some (.int .i64 y.g) ∧ W.cell? ⟨w.heap.size + 1, 4, none⟩ = some (.int .i64 y.p)) := Lib.hid (fun W h => box_Cab (w.alloc (.cells #[.int .i64 x.i, .int .i64 x.s, .int .i64 x.w, .int .i64 x.g, .int .i64 x.p] 34)) y _ _ (by simp) W h)
  have HG : Hid (Gr w ((w.alloc (.cells #[.int .i64 x.i, .int .i64 x.s, .int .i64 x.w, .int .i64 x.g, .int .i64 x.p] 34)).alloc (.cells #[.int .i64 y.i, .int .i64 y.s, .int .i64 y.w, .int .i64 y.g, .int .i64 y.p] 34))) := Lib.hid (((Gr.refl w).alloc _).alloc _)
  have hs0 : ((w.alloc (.cells #[.int .i64 x.i, .int .i64 x.s, .int .i64 x.w, .int .i64 x.g, .int .i64 x.p] 34)).alloc (.cells #[.int .i64 y.i, .int .i64 y.s, .int .i64 y.w, .int .i64 y.g, .int .i64 y.p] 34)).heap.size = w.heap.size + 2 := by simp
  generalize (w.alloc (.cells #[.int .i64 x.i, .int .i64 x.s, .int .i64 x.w, .int .i64 x.g, .int .i64 x.p] 34)).alloc (.cells #[.int .i64 y.i, .int .i64 y.s, .int .i64 y.w, .int .i64 y.g, .int .i64 y.p] 34) = W0 at *
  have HB2 : Hid (Below (w.heap.size + 2) W0 W0.drew) := Lib.hid ((Below.refl _ _).drew)
  obtain ⟨x0, x1, x2, x3, x4⟩ := HX.out _ HB2.out
  obtain ⟨y0, y1, y2, y3, y4⟩ := HY.out _ HB2.out
  have HC1 := Lib.hid (cmpD (y.p) (x.p) W0)
  have HC2 := Lib.hid (cmpD x.i y.i W0)
  go_still_tail 10, (by kernel_rfl)
  still_call HC1.out
  repeat still_step
  still_call HC2.out
  repeat still_step
  refine wpStill_nil ?_
  change wpList _ _ _ _ _ W0.drew
  go_wp2_with fail
  refine (or_drew _ _ _ W0 _ hs0.symm).mono ?_
  rintro e W1 ⟨rfl, rfl⟩
  go_wp2
  go_ret
  exact ⟨ret_iv HC.out, HG.out.trans (by first | exact ((Gr.refl _).alloc _).drew | exact (Gr.refl _).drew.alloc _)⟩
end Go.Proofs.YtiogjocbiagipabDoor
