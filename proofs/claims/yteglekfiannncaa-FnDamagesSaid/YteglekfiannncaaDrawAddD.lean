/- A drawn kind with damages and one more. Condition: sizes. -/
import Derived.Test.YteglekfiannncaaDrawDamB
namespace Go.Proofs.Yteglekfiannncaa
open Go.RowKit
set_option linter.unusedVariables false
set_option maxRecDepth 100000 in
set_option maxHeartbeats 4000000 in
theorem DrawAddDamage_any (a : Option Addr) (len cap : Nat) (w : World) (h : ByteRow w a len) :
    Calls Try.prog 43 #[.slice a len cap] w (K3Post w) := by
  have h1 := h.below ((((Below.refl w.heap.size w).alloc (Nat.le_refl _) (.cells #[.int .i64 0, .int .i64 0, .int .i64 0, .int .i64 0, .int .i64 0] 47)).alloc (by simp) (.cells #[.int .i64 0, .int .i64 0, .int .i64 0] 55)))
  have C0 := Lib.hid (cur_at (cap := cap) h1 104 (n := w.heap.size + 2) (by simp))
  have K0 := Lib.hid (old_allocD (o' := .cells #[.slice a len cap, .int .i64 0, .int .u64 0] 104) (old_allocD (o' := .cells #[.int .i64 0, .int .i64 0, .int .i64 0] 55) (heap_alloc_new w (.cells #[.int .i64 0, .int .i64 0, .int .i64 0, .int .i64 0, .int .i64 0] 47))))
  have R0 : Hid ((((w.alloc (.cells #[.int .i64 0, .int .i64 0, .int .i64 0, .int .i64 0, .int .i64 0] 47)).alloc (.cells #[.int .i64 0, .int .i64 0, .int .i64 0] 55)).alloc (.cells #[.slice a len cap, .int .i64 0, .int .u64 0] 104)).heap[w.heap.size + 1]? = some (.cells #[.int .i64 0, .int .i64 0, .int .i64 0] 55 (0, 0))) := Lib.hid (old_allocD (nalD (aszD _ _)))
  have B0 := Lib.hid (((((Below.refl w.heap.size w).alloc (Nat.le_refl _) (.cells #[.int .i64 0, .int .i64 0, .int .i64 0, .int .i64 0, .int .i64 0] 47)).alloc (by simp) (.cells #[.int .i64 0, .int .i64 0, .int .i64 0] 55))).alloc (by simp; try omega) (.cells #[.slice a len cap, .int .i64 0, .int .u64 0] 104))
  have hz : (((w.alloc (.cells #[.int .i64 0, .int .i64 0, .int .i64 0, .int .i64 0, .int .i64 0] 47)).alloc (.cells #[.int .i64 0, .int .i64 0, .int .i64 0] 55)).alloc (.cells #[.slice a len cap, .int .i64 0, .int .u64 0] 104)).heap.size = w.heap.size + 3 := by simp
  clear h h1
  go_enter Try.func43, Try.ntmps43
  go_upto_region 2 with fail
  generalize hw0 : ((w.alloc (.cells #[.int .i64 0, .int .i64 0, .int .i64 0, .int .i64 0, .int .i64 0] 47)).alloc (.cells #[.int .i64 0, .int .i64 0, .int .i64 0] 55)).alloc (.cells #[.slice a len cap, .int .i64 0, .int .u64 0] 104) = w0 at *
  clear hw0
  go_wp2_with fail
  refine (ropeKind_any _ _ 0 7 w0 C0.out (by omega)).mono ?_
  rintro e w1 ⟨x, rfl, hx, hc, hg⟩
  have K1 := Lib.hid (old_allocD (o' := .cells #[.int .i64 x.i, .int .i64 x.s, .int .i64 x.w, .int .i64 x.g, .int .i64 x.p] 47) (keepD hg (by omega) K0.out))
  have R1 := Lib.hid (old_allocD (o' := .cells #[.int .i64 x.i, .int .i64 x.s, .int .i64 x.w, .int .i64 x.g, .int .i64 x.p] 47) (keepD hg (by omega) R0.out))
  have M1 := Lib.hid (heap_alloc_new w1 (.cells #[.int .i64 x.i, .int .i64 x.s, .int .i64 x.w, .int .i64 x.g, .int .i64 x.p] 47))
  have G1 := Lib.hid (grown_trans hg (World.grownBy_alloc w1 (.cells #[.int .i64 x.i, .int .i64 x.s, .int .i64 x.w, .int .i64 x.g, .int .i64 x.p] 47) (some (w.heap.size + 2))))
  have C1 := Lib.hid (hc.alloc (.cells #[.int .i64 x.i, .int .i64 x.s, .int .i64 x.w, .int .i64 x.g, .int .i64 x.p] 47))
  have hz1 := hg.size
  clear hc hg
  unfold RK.agg
  go_upto_region 3 with fail
  have hz2 : (w1.alloc (.cells #[.int .i64 x.i, .int .i64 x.s, .int .i64 x.w, .int .i64 x.g, .int .i64 x.p] 47)).heap.size = w1.heap.size + 1 := by simp
  generalize hw2 : w1.alloc (.cells #[.int .i64 x.i, .int .i64 x.s, .int .i64 x.w, .int .i64 x.g, .int .i64 x.p] 47) = w2 at *
  clear hw2
  have m1 := box5 M1.out
  obtain ⟨y0, y1, y2, y3, y4⟩ := m1
  go_wp2_with fail
  refine (damages_any (w.heap.size + 2) (w.heap.size + 2) (0 + 20) x w2 C1.out (by omega) hx).mono ?_
  rintro e w3 ⟨v, l, rfl, S3, hl⟩
  clear y0 y1 y2 y3 y4
  have hg3 := S3.gr
  have K3 := Lib.hid (keepD hg3 (by omega) K1.out)
  have R3 := Lib.hid (keepD hg3 (by omega) R1.out)
  have M3 := Lib.hid (keepD hg3 (by omega) M1.out)
  have hz3 := hg3.size
  have SS := Lib.hid S3
  have G3 := Lib.hid (grown_trans G1.out hg3)
  clear S3 hg3
  go_upto_region 4 with fail
  obtain ⟨y0, y1, y2, y3, y4⟩ := box5 M3.out
  have hkp : ∀ W, w3.grownBy W (some (w.heap.size + 2)) → _ := fun W hW => box5 (keepD hW (by omega) M3.out)
  have g00 : w3.grownBy w3 (some (w.heap.size + 2)) := ⟨rfl, rfl, rfl, Nat.le_refl _, fun _ _ _ => rfl⟩
  have gdw : w3.grownBy w3.drew (some (w.heap.size + 2)) := ⟨rfl, rfl, rfl, Nat.le_refl _, fun _ _ _ => rfl⟩
  have cdw := SS.out.cur.drewD 1
  have HD := Lib.hid (fun W hW => damage_any (w.heap.size + 2) (w.heap.size + 2) (0 + 20 + 400) x W hW (by omega) hx)
  go_region_held3 (fun w' => w'.cell? ⟨w1.heap.size, 0, none⟩ = some (.int .i64 x.i) ∧ w'.cell? ⟨w1.heap.size, 1, none⟩ = some (.int .i64 x.s) ∧ w'.cell? ⟨w1.heap.size, 2, none⟩ = some (.int .i64 x.w) ∧ w'.cell? ⟨w1.heap.size, 3, none⟩ = some (.int .i64 x.g) ∧ w'.cell? ⟨w1.heap.size, 4, none⟩ = some (.int .i64 x.p)) (first | with_reducible exact hkp _ g1 | with_reducible exact hkp _ g00 | with_reducible exact hkp _ gdw | exact box5 (setO (by omega) (setO (by omega) (setO (by omega) (setO (by omega) (setO (by omega) (keepD g1 (by omega) M3.out)))))) | exact box5 (setO (by omega) (setO (by omega) (setO (by omega) (keepD g1 (by omega) M3.out)))) | exact box5 (setO (by omega) (setO (by omega) (setO (by omega) (setO (by omega) (setO (by omega) (setO (by omega) (setO (by omega) (setO (by omega) (keepD g1 (by omega) M3.out))))))))))
    (first
    | (go_at_call 105; refine (HD.out _ (by first | exact SS.out.cur | exact cdw | fail)).mono ?_; rintro e w4 ⟨d, rfl, hc4, hg4, hwf⟩; have g1 : w3.grownBy w4 (some (w.heap.size + 2)) := (by first | exact hg4 | exact grown_trans gdw hg4 | fail); have K4 := keepD g1 (by omega) K3.out; have R4 := keepD g1 (by omega) R3.out; have ck0 := cell_of_row w4 w.heap.size 0 _ _ _ K4; have ck1 := cell_of_row w4 w.heap.size 1 _ _ _ K4; have ck2 := cell_of_row w4 w.heap.size 2 _ _ _ K4; have ck3 := cell_of_row w4 w.heap.size 3 _ _ _ K4; have ck4 := cell_of_row w4 w.heap.size 4 _ _ _ K4; have dk0 := frozen_of_row w4 w.heap.size 0 _ _ K4; have dk1 := frozen_of_row w4 w.heap.size 1 _ _ K4; have dk2 := frozen_of_row w4 w.heap.size 2 _ _ K4; have dk3 := frozen_of_row w4 w.heap.size 3 _ _ K4; have dk4 := frozen_of_row w4 w.heap.size 4 _ _ K4; have cr0 := cell_of_row w4 (w.heap.size + 1) 0 _ _ _ R4; have cr1 := cell_of_row w4 (w.heap.size + 1) 1 _ _ _ R4; have cr2 := cell_of_row w4 (w.heap.size + 1) 2 _ _ _ R4; have dr0 := frozen_of_row w4 (w.heap.size + 1) 0 _ _ R4; have dr1 := frozen_of_row w4 (w.heap.size + 1) 1 _ _ R4; have dr2 := frozen_of_row w4 (w.heap.size + 1) 2 _ _ R4; have sa0 := blk_setD (i := 0) (v := .int .i64 x.i) K4; have sa1 := blk_setD (i := 1) (v := .int .i64 x.s) sa0; have sa2 := blk_setD (i := 2) (v := .int .i64 x.w) sa1; have sa3 := blk_setD (i := 3) (v := .int .i64 x.g) sa2; have sa4 := blk_setD (i := 4) (v := .int .i64 x.p) sa3; have ra := setO (T := w.heap.size) (v := .int .i64 x.p) (i := 4) (by omega) (setO (T := w.heap.size) (v := .int .i64 x.g) (i := 3) (by omega) (setO (T := w.heap.size) (v := .int .i64 x.w) (i := 2) (by omega) (setO (T := w.heap.size) (v := .int .i64 x.s) (i := 1) (by omega) (setO (T := w.heap.size) (v := .int .i64 x.i) (i := 0) (by omega) (R4))))); have cu0 := cell_of_row _ (w.heap.size + 1) 0 _ _ _ ra; have cu1 := cell_of_row _ (w.heap.size + 1) 1 _ _ _ ra; have cu2 := cell_of_row _ (w.heap.size + 1) 2 _ _ _ ra; have du0 := frozen_of_row _ (w.heap.size + 1) 0 _ _ ra; have du1 := frozen_of_row _ (w.heap.size + 1) 1 _ _ ra; have du2 := frozen_of_row _ (w.heap.size + 1) 2 _ _ ra; have sb0 := blk_setD (i := 0) (v := .int .i64 d.a) ra; have sb1 := blk_setD (i := 1) (v := .int .i64 d.s) sb0; have sb2 := blk_setD (i := 2) (v := .int .i64 d.w) sb1; have kb := setO (T := (w.heap.size + 1)) (v := .int .i64 d.w) (i := 2) (by omega) (setO (T := (w.heap.size + 1)) (v := .int .i64 d.s) (i := 1) (by omega) (setO (T := (w.heap.size + 1)) (v := .int .i64 d.a) (i := 0) (by omega) (sa4))); have z0 := cell_of_row _ w.heap.size 0 _ _ _ kb; have z1 := cell_of_row _ w.heap.size 1 _ _ _ kb; have z2 := cell_of_row _ w.heap.size 2 _ _ _ kb; have z3 := cell_of_row _ w.heap.size 3 _ _ _ kb; have z4 := cell_of_row _ w.heap.size 4 _ _ _ kb; have t0 := cell_of_row _ (w.heap.size + 1) 0 _ _ _ sb2; have t1 := cell_of_row _ (w.heap.size + 1) 1 _ _ _ sb2; have t2 := cell_of_row _ (w.heap.size + 1) 2 _ _ _ sb2; simp at ck0 ck1 ck2 ck3 ck4 cr0 cr1 cr2 cu0 cu1 cu2 z0 z1 z2 z3 z4 t0 t1 t2; have Z0 := Lib.hid z0; have Z1 := Lib.hid z1; have Z2 := Lib.hid z2; have Z3 := Lib.hid z3; have Z4 := Lib.hid z4; have T0 := Lib.hid t0; have T1 := Lib.hid t1; have T2 := Lib.hid t2; clear z0 z1 z2 z3 z4 t0 t1 t2; have KK4 := Lib.hid K4; have RR4 := Lib.hid R4; clear K4 R4 ra kb sa0 sa1 sa2 sa3 sa4 sb0 sb1 sb2)
    | fail)
  all_goals (have BB := Lib.hid (B0.out.trans (grown_below (grown_trans G3.out g1) (by omega) (fun k hk => by cases hk; omega))))
  all_goals (have OW := Lib.hid (SS.out.call hc4 g1).own)
  all_goals (have hbk := SS.out.blk)
  all_goals (have n0 : v.ownBlock ≠ some w.heap.size := fun e => by have := hbk _ e; omega)
  all_goals (have n1 : v.ownBlock ≠ some (w.heap.size + 1) := fun e => by have := hbk _ e; omega)
  all_goals (have m0 : w.heap.size ≤ w.heap.size := Nat.le_refl _)
  all_goals (have m1 : w.heap.size ≤ w.heap.size + 1 := by omega)
  all_goals clear HD hkp g00 gdw cdw
  all_goals clear y0 y1 y2 y3 y4 hc4 hg4
  all_goals clear ck0 ck1 ck2 ck3 ck4 cr0 cr1 cr2 cu0 cu1 cu2 dk0 dk1 dk2 dk3 dk4 dr0 dr1 dr2 du0 du1 du2
  all_goals go_wp2
  all_goals refine bodyPost_ret (v := .tuple #[.agg #[.int .i64 x.i, .int .i64 x.s, .int .i64 x.w, .int .i64 x.g, .int .i64 x.p], v, .agg #[.int .i64 d.a, .int .i64 d.s, .int .i64 d.w]]) (by simp [results, Try.results43, go_sem, Z0.out, Z1.out, Z2.out, Z3.out, Z4.out, T0.out, T1.out, T2.out]) rfl ⟨x, v, l, d, rfl, ⟨w2.heap.size, ?_⟩, hl, hwf, ?_⟩
  · exact ((((((((OW.out.kept (grown_setCell _ _ _ _) (.inr n0)).kept (grown_setCell _ _ _ _) (.inr n0)).kept (grown_setCell _ _ _ _) (.inr n0)).kept (grown_setCell _ _ _ _) (.inr n0)).kept (grown_setCell _ _ _ _) (.inr n0)).kept (grown_setCell _ _ _ _) (.inr n1)).kept (grown_setCell _ _ _ _) (.inr n1)).kept (grown_setCell _ _ _ _) (.inr n1))
  · repeat (refine Below.setCell ?_ (by first | exact m0 | exact m1) _)
    exact BB.out
end Go.Proofs.Yteglekfiannncaa
