/- A drawn kind with damages. Condition: sizes. -/
import Derived.Test.YteglekfiannncaaDrawDamB
namespace Go.Proofs.Yteglekfiannncaa
open Go.RowKit
set_option linter.unusedVariables false
set_option maxRecDepth 100000 in
set_option maxHeartbeats 4000000 in
theorem DrawAreDamages_any (a : Option Addr) (len cap : Nat) (w : World) (h : ByteRow w a len) :
    Calls Try.prog 111 #[.slice a len cap] w (K2Post w) := by
  have h1 := h.below (((Below.refl w.heap.size w).alloc (Nat.le_refl _) (.cells #[.int .i64 0, .int .i64 0, .int .i64 0, .int .i64 0, .int .i64 0] 47)))
  have C0 := Lib.hid (cur_at (cap := cap) h1 104 (n := w.heap.size + 1) (by simp))
  have K0 := Lib.hid (old_allocD (o' := .cells #[.slice a len cap, .int .i64 0, .int .u64 0] 104) (heap_alloc_new w (.cells #[.int .i64 0, .int .i64 0, .int .i64 0, .int .i64 0, .int .i64 0] 47)))
  have B0 := Lib.hid ((((Below.refl w.heap.size w).alloc (Nat.le_refl _) (.cells #[.int .i64 0, .int .i64 0, .int .i64 0, .int .i64 0, .int .i64 0] 47))).alloc (by simp; try omega) (.cells #[.slice a len cap, .int .i64 0, .int .u64 0] 104))
  have hz : ((w.alloc (.cells #[.int .i64 0, .int .i64 0, .int .i64 0, .int .i64 0, .int .i64 0] 47)).alloc (.cells #[.slice a len cap, .int .i64 0, .int .u64 0] 104)).heap.size = w.heap.size + 2 := by simp
  clear h h1
  go_enter Try.func111, Try.ntmps111
  go_upto_region 2 with fail
  generalize hw0 : (w.alloc (.cells #[.int .i64 0, .int .i64 0, .int .i64 0, .int .i64 0, .int .i64 0] 47)).alloc (.cells #[.slice a len cap, .int .i64 0, .int .u64 0] 104) = w0 at *
  clear hw0
  go_wp2_with fail
  refine (ropeKind_any _ _ 0 7 w0 C0.out (by omega)).mono ?_
  rintro e w1 ⟨x, rfl, hx, hc, hg⟩
  have K1 := Lib.hid (old_allocD (o' := .cells #[.int .i64 x.i, .int .i64 x.s, .int .i64 x.w, .int .i64 x.g, .int .i64 x.p] 47) (keepD hg (by omega) K0.out))
  have M1 := Lib.hid (heap_alloc_new w1 (.cells #[.int .i64 x.i, .int .i64 x.s, .int .i64 x.w, .int .i64 x.g, .int .i64 x.p] 47))
  have G1 := Lib.hid (grown_trans hg (World.grownBy_alloc w1 (.cells #[.int .i64 x.i, .int .i64 x.s, .int .i64 x.w, .int .i64 x.g, .int .i64 x.p] 47) (some (w.heap.size + 1))))
  have C1 := Lib.hid (hc.alloc (.cells #[.int .i64 x.i, .int .i64 x.s, .int .i64 x.w, .int .i64 x.g, .int .i64 x.p] 47))
  have hz1 := hg.size
  clear hc hg
  unfold RK.agg
  go_upto_region 3 with fail
  have hz2 : (w1.alloc (.cells #[.int .i64 x.i, .int .i64 x.s, .int .i64 x.w, .int .i64 x.g, .int .i64 x.p] 47)).heap.size = w1.heap.size + 1 := by simp
  generalize hw2 : w1.alloc (.cells #[.int .i64 x.i, .int .i64 x.s, .int .i64 x.w, .int .i64 x.g, .int .i64 x.p] 47) = w2 at *
  clear hw2
  have m1 := box5 M1.out
  have hkp : ∀ W, w2.grownBy W (some (w.heap.size + 1)) → _ := fun W hW => box5 (keepD hW (by omega) M1.out)
  have g00 : w2.grownBy w2 (some (w.heap.size + 1)) := ⟨rfl, rfl, rfl, Nat.le_refl _, fun _ _ _ => rfl⟩
  have gdw : w2.grownBy w2.drew (some (w.heap.size + 1)) := ⟨rfl, rfl, rfl, Nat.le_refl _, fun _ _ _ => rfl⟩
  have cdw := C1.out.drewD 1
  have HD := Lib.hid (fun W hW => damages_any (w.heap.size + 1) (w.heap.size + 1) (0 + 20) x W hW (by omega) hx)
  obtain ⟨y0, y1, y2, y3, y4⟩ := m1
  go_region_held3 (fun w' => w'.cell? ⟨w1.heap.size, 0, none⟩ = some (.int .i64 x.i) ∧ w'.cell? ⟨w1.heap.size, 1, none⟩ = some (.int .i64 x.s) ∧ w'.cell? ⟨w1.heap.size, 2, none⟩ = some (.int .i64 x.w) ∧ w'.cell? ⟨w1.heap.size, 3, none⟩ = some (.int .i64 x.g) ∧ w'.cell? ⟨w1.heap.size, 4, none⟩ = some (.int .i64 x.p)) (first | with_reducible exact hkp _ g1 | with_reducible exact hkp _ g00 | with_reducible exact hkp _ gdw | (refine box5 (setO (by omega) (setO (by omega) (setO (by omega) (setO (by omega) (setO (by omega) (keepD g1 (by omega) M1.out))))))) | (exact box5 (setO (by omega) (setO (by omega) (setO (by omega) (setO (by omega) (setO (by omega) (keepD g1 (by omega) M1.out)))))))) 
    (first
    | (go_at_call 93; refine (HD.out _ (by first | exact C1.out | exact cdw | fail)).mono ?_; rintro e w3 ⟨v, l, rfl, S3, hl⟩; have g1 : w2.grownBy w3 (some (w.heap.size + 1)) := (by first | exact S3.gr | exact grown_trans gdw S3.gr | fail); have K3 := keepD g1 (by omega) K1.out; have c0 := cell_of_row w3 w.heap.size 0 _ _ _ K3; have c1 := cell_of_row w3 w.heap.size 1 _ _ _ K3; have c2 := cell_of_row w3 w.heap.size 2 _ _ _ K3; have c3 := cell_of_row w3 w.heap.size 3 _ _ _ K3; have c4 := cell_of_row w3 w.heap.size 4 _ _ _ K3; have d0 := frozen_of_row w3 w.heap.size 0 _ _ K3; have d1 := frozen_of_row w3 w.heap.size 1 _ _ K3; have d2 := frozen_of_row w3 w.heap.size 2 _ _ K3; have d3 := frozen_of_row w3 w.heap.size 3 _ _ K3; have d4 := frozen_of_row w3 w.heap.size 4 _ _ K3; have s0 := blk_setD (i := 0) (v := .int .i64 x.i) K3; have z0 := cell_of_row _ w.heap.size 0 _ _ _ s0; have s1 := blk_setD (i := 1) (v := .int .i64 x.s) s0; have z1 := cell_of_row _ w.heap.size 1 _ _ _ s1; have s2 := blk_setD (i := 2) (v := .int .i64 x.w) s1; have z2 := cell_of_row _ w.heap.size 2 _ _ _ s2; have s3 := blk_setD (i := 3) (v := .int .i64 x.g) s2; have z3 := cell_of_row _ w.heap.size 3 _ _ _ s3; have s4 := blk_setD (i := 4) (v := .int .i64 x.p) s3; have z4 := cell_of_row _ w.heap.size 4 _ _ _ s4; simp at c0 c1 c2 c3 c4 z0 z1 z2 z3 z4; have Z0 := Lib.hid z0; have Z1 := Lib.hid z1; have Z2 := Lib.hid z2; have Z3 := Lib.hid z3; have Z4 := Lib.hid z4; clear z0 z1 z2 z3 z4 s0 s1 s2 s3 s4)
    | fail)
  have GG := grown_setCell w3 w.heap.size 0 (.int .i64 x.i)
  have GA := Lib.hid (grown_trans (grown_trans (grown_trans (grown_trans (grown_setCell w3 w.heap.size 0 (.int .i64 x.i)) (grown_setCell _ w.heap.size 1 (.int .i64 x.s))) (grown_setCell _ w.heap.size 2 (.int .i64 x.w))) (grown_setCell _ w.heap.size 3 (.int .i64 x.g))) (grown_setCell _ w.heap.size 4 (.int .i64 x.p)))
  have BB := Lib.hid (B0.out.trans (grown_below (grown_trans G1.out g1) (by omega) (fun k hk => by cases hk; omega)))
  have hbk := S3.blk
  have HRs := Lib.hid (Rs.of_own S3.own)
  clear K3 c0 c1 c2 c3 c4 d0 d1 d2 d3 d4 GG S3
  go_wp2
  refine bodyPost_ret (v := .tuple #[.agg #[.int .i64 x.i, .int .i64 x.s, .int .i64 x.w, .int .i64 x.g, .int .i64 x.p], v]) (by simp [results, Try.results111, go_sem, Z0.out, Z1.out, Z2.out, Z3.out, Z4.out]) rfl ⟨x, v, l, rfl, ?_, hl, fun j hj => by have := hbk j hj; omega, ?_⟩
  · exact rs_grownD HRs.out GA.out (fun j hj => by have := hbk j hj; omega)
  · exact ((((BB.out.setCell (Nat.le_refl _) _).setCell (Nat.le_refl _) _).setCell (Nat.le_refl _) _).setCell (Nat.le_refl _) _).setCell (Nat.le_refl _) _
end Go.Proofs.Yteglekfiannncaa
