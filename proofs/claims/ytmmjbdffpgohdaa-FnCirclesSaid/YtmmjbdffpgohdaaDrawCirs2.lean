/- The draws of circles, gaps and numbers of cabins. Condition: sizes. -/
import Derived.Test.YtmmjbdffpgohdaaDrawCir
import Derived.Test.YtmmjbdffpgohdaaBig
import Derived.Deep.RegionHeld3
namespace Go.Proofs.Ytmmjbdffpgohdaa
open Go.RowKit
set_option linter.unusedVariables false
/-- What drawing a circle for a law leaves. -/
def DcPost (w : World) (e : Ending) (w' : World) : Prop := ∃ (L S : Int) (v : Value) (l : List Int), e = .returned (.agg #[.int .i64 L, .int .i64 S, v]) ∧ (9 ≤ L ∧ L ≤ 4001) ∧ (0 ≤ S ∧ S ≤ 101) ∧ l.length ≤ 9 ∧ w'.ownsRow w.heap.size 3 1 v l.length (intVs l) ∧ Below w.heap.size w w'
set_option maxRecDepth 100000 in
set_option maxHeartbeats 2000000 in
theorem DrawIsCircle_any (a : Option Addr) (len cap : Nat) (w : World) (h : ByteRow w a len) :
    Calls Try.prog 95 #[.slice a len cap] w (DcPost w) := by
  have HB0 := Lib.hid (((Below.refl w.heap.size w).alloc (Nat.le_refl _) (.cells #[.int .i64 0, .int .i64 0, .slice none 0 0] 55)).alloc (by simp) (.cells #[.slice a len cap, .int .i64 0, .int .u64 0] 72))
  have HC := Lib.hid (cur_at (cap := cap) (h.below ((Below.refl w.heap.size w).alloc (Nat.le_refl _) (.cells #[.int .i64 0, .int .i64 0, .slice none 0 0] 55))) 72 (n := w.heap.size + 1) (by simp))
  have HR0 := Lib.hid (blk_stay (o' := .cells #[.slice a len cap, .int .i64 0, .int .u64 0] 72) (blk_new3 w (.int .i64 0) (.int .i64 0) (.slice none 0 0) 55))
  have hs0 : ((w.alloc (.cells #[.int .i64 0, .int .i64 0, .slice none 0 0] 55)).alloc (.cells #[.slice a len cap, .int .i64 0, .int .u64 0] 72)).heap.size = w.heap.size + 2 := by simp
  clear h
  go_enter Try.func95, Try.ntmps95
  go_wp2_with fail
  generalize hw0 : (w.alloc (.cells #[.int .i64 0, .int .i64 0, .slice none 0 0] 55)).alloc (.cells #[.slice a len cap, .int .i64 0, .int .u64 0] 72) = w0 at *
  clear hw0
  refine (circle_any (w.heap.size + 1) (w.heap.size + 1) 0 w0 HC.out (by omega)).mono ?_
  rintro e w1 ⟨L, S, v, l, rfl, hL, hS, hl, o1, hc, b1⟩
  obtain ⟨va, vc, rfl⟩ := (Rs.of_own o1).shape
  have R1 := Lib.hid (blk_keep HR0.out b1 (by omega))
  have T1 := Lib.hid (HB0.out.trans (b1.mono (by omega)))
  have O1 := Lib.hid o1
  have C1 := Lib.hid hc
  have hs1 := b1.size
  clear o1 hc b1 HC
  clear C1 HR0 HB0
  have KZ := R1.out
  obtain ⟨r0, r1, r2⟩ := blk_cell3 KZ
  obtain ⟨s0, s1, s2⟩ := blk_froz3 KZ
  have Z := blk_all3 (x := .int .i64 L) (y := .int .i64 S) (z := .slice va l.length vc) KZ
  obtain ⟨z0, z1, z2⟩ := blk_cell3 Z
  have Z0 := Lib.hid z0
  have Z1 := Lib.hid z1
  have Z2 := Lib.hid z2
  have HTF := Lib.hid (below_all3 T1.out (b := w.heap.size) (Nat.le_refl _) (.int .i64 L) (.int .i64 S) (.slice va l.length vc))
  have HOF := Lib.hid (own_by O1.out (grown_all3 _ w.heap.size (.int .i64 L) (.int .i64 S) (.slice va l.length vc)) (fun h => by have := (O1.out.lt _ h).1; omega))
  clear Z z0 z1 z2 KZ
  go_wp2
  refine bodyPost_ret (v := .agg #[.int .i64 L, .int .i64 S, .slice va l.length vc]) (by simp [results, Try.results95, go_sem, Z0.out, Z1.out, Z2.out]) rfl (⟨_, _, _, l, rfl, hL, hS, hl, own_mono HOF.out (by omega), HTF.out⟩)
set_option maxRecDepth 100000 in
set_option maxHeartbeats 2000000 in
theorem DrawSmallestGap_any (a : Option Addr) (len cap : Nat) (w : World) (h : ByteRow w a len) :
    Calls Try.prog 53 #[.slice a len cap] w (DcPost w) := by
  have HH := Lib.hid h
  have HB0 := Lib.hid ((Below.refl w.heap.size w).alloc (Nat.le_refl _) (.cells #[.int .i64 0, .int .i64 0, .slice none 0 0] 55))
  have HR0 := Lib.hid (blk_new3 w (.int .i64 0) (.int .i64 0) (.slice none 0 0) 55)
  have HH1 := Lib.hid (h.below HB0.out)
  have hs0 : (w.alloc (.cells #[.int .i64 0, .int .i64 0, .slice none 0 0] 55)).heap.size = w.heap.size + 1 := by simp
  clear h
  go_enter Try.func53, Try.ntmps53
  go_wp2_with fail
  refine (DrawIsCircle_any a len cap _ HH1.out).mono ?_
  rintro e w1 ⟨L, S, v, l, rfl, hL, hS, hl, o1, b1⟩
  obtain ⟨va, vc, rfl⟩ := (Rs.of_own o1).shape
  have R1 := Lib.hid (blk_keep HR0.out b1 (by omega))
  have T1 := Lib.hid (HB0.out.trans (b1.mono (by omega)))
  have O1 := Lib.hid o1
  have hs1 := b1.size
  clear o1 b1 HB0 HR0
  have KZ := R1.out
  obtain ⟨r0, r1, r2⟩ := blk_cell3 KZ
  obtain ⟨s0, s1, s2⟩ := blk_froz3 KZ
  have Z := blk_all3 (x := .int .i64 L) (y := .int .i64 S) (z := .slice va l.length vc) KZ
  obtain ⟨z0, z1, z2⟩ := blk_cell3 Z
  have Z0 := Lib.hid z0
  have Z1 := Lib.hid z1
  have Z2 := Lib.hid z2
  have HTF := Lib.hid (below_all3 T1.out (b := w.heap.size) (Nat.le_refl _) (.int .i64 L) (.int .i64 S) (.slice va l.length vc))
  have HOF := Lib.hid (own_by O1.out (grown_all3 _ w.heap.size (.int .i64 L) (.int .i64 S) (.slice va l.length vc)) (fun h => by have := (O1.out.lt _ h).1; omega))
  clear Z z0 z1 z2 KZ
  go_wp2
  refine bodyPost_ret (v := .agg #[.int .i64 L, .int .i64 S, .slice va l.length vc]) (by simp [results, Try.results53, go_sem, Z0.out, Z1.out, Z2.out]) rfl (⟨_, _, _, l, rfl, hL, hS, hl, own_mono HOF.out (by omega), HTF.out⟩)
def DcgPost (w : World) (e : Ending) (w' : World) : Prop := ∃ (L S : Int) (v : Value) (l : List Int) (q : Int), e = .returned (.tuple #[.agg #[.int .i64 L, .int .i64 S, v], .int .i64 q]) ∧ (9 ≤ L ∧ L ≤ 4001) ∧ (0 ≤ S ∧ S ≤ 101) ∧ l.length ≤ 9 ∧ w'.ownsRow w.heap.size 3 1 v l.length (intVs l) ∧ (-1 ≤ q ∧ q ≤ 4001) ∧ Below w.heap.size w w'
set_option maxRecDepth 100000 in
set_option maxHeartbeats 2000000 in
theorem DrawAddCabin_any (a : Option Addr) (len cap : Nat) (w : World) (h : ByteRow w a len) :
    Calls Try.prog 37 #[.slice a len cap] w (DcgPost w) := by
  have HB0 := Lib.hid (((Below.refl w.heap.size w).alloc (Nat.le_refl _) (.cells #[.int .i64 0, .int .i64 0, .slice none 0 0] 55)).alloc (by simp) (.cells #[.slice a len cap, .int .i64 0, .int .u64 0] 72))
  have HC := Lib.hid (cur_at (cap := cap) (h.below ((Below.refl w.heap.size w).alloc (Nat.le_refl _) (.cells #[.int .i64 0, .int .i64 0, .slice none 0 0] 55))) 72 (n := w.heap.size + 1) (by simp))
  have HR0 := Lib.hid (blk_stay (o' := .cells #[.slice a len cap, .int .i64 0, .int .u64 0] 72) (blk_new3 w (.int .i64 0) (.int .i64 0) (.slice none 0 0) 55))
  have hs0 : ((w.alloc (.cells #[.int .i64 0, .int .i64 0, .slice none 0 0] 55)).alloc (.cells #[.slice a len cap, .int .i64 0, .int .u64 0] 72)).heap.size = w.heap.size + 2 := by simp
  clear h
  go_enter Try.func37, Try.ntmps37
  go_wp2_with fail
  generalize hw0 : (w.alloc (.cells #[.int .i64 0, .int .i64 0, .slice none 0 0] 55)).alloc (.cells #[.slice a len cap, .int .i64 0, .int .u64 0] 72) = w0 at *
  clear hw0
  refine (circle_any (w.heap.size + 1) (w.heap.size + 1) 0 w0 HC.out (by omega)).mono ?_
  rintro e w1 ⟨L, S, v, l, rfl, hL, hS, hl, o1, hc, b1⟩
  obtain ⟨va, vc, rfl⟩ := (Rs.of_own o1).shape
  have R1 := Lib.hid (blk_keep HR0.out b1 (by omega))
  have T1 := Lib.hid (HB0.out.trans (b1.mono (by omega)))
  have O1 := Lib.hid o1
  have C1 := Lib.hid hc
  have hs1 := b1.size
  clear o1 hc b1 HC
  go_wp2_with fail
  refine (among_any _ _ _ w1.heap.size 9 9 [1, 1, 2, 5, 20, 100, 4000, 0, 4001] _ (C1.out.alloc _) (by omega) rfl (by omega) (by omega) (by omega) (num_cells w1 3 [1, 1, 2, 5, 20, 100, 4000, 0, 4001] _ rfl)).mono ?_
  rintro e w2 ⟨q, hx, rfl, hc, hg0⟩
  have hq : -1 ≤ q ∧ q ≤ 4001 := by simp at hx; omega
  have hg := grown_trans (World.grownBy_alloc w1 (.cells #[.int .i64 1, .int .i64 1, .int .i64 2, .int .i64 5, .int .i64 20, .int .i64 100, .int .i64 4000, .int .i64 0, .int .i64 4001] 3) (some (w.heap.size + 1))) hg0
  have R2 := Lib.hid (keepD hg (show w.heap.size ≠ w.heap.size + 1 by omega) R1.out)
  have T2 := Lib.hid (Below.trans T1.out (grown_below hg (by omega) (fun k hk => by cases hk; omega)))
  have O2 := Lib.hid (O1.out.kept hg (.inr (fun e => by have := (O1.out.lt _ e).1; omega)))
  have hs2 := hg.size
  clear hc hg hg0 hx C1 R1 T1 O1 HR0 HB0
  have KZ := R2.out
  obtain ⟨r0, r1, r2⟩ := blk_cell3 KZ
  obtain ⟨s0, s1, s2⟩ := blk_froz3 KZ
  have Z := blk_all3 (x := .int .i64 L) (y := .int .i64 S) (z := .slice va l.length vc) KZ
  obtain ⟨z0, z1, z2⟩ := blk_cell3 Z
  have Z0 := Lib.hid z0
  have Z1 := Lib.hid z1
  have Z2 := Lib.hid z2
  have HTF := Lib.hid (below_all3 T2.out (b := w.heap.size) (Nat.le_refl _) (.int .i64 L) (.int .i64 S) (.slice va l.length vc))
  have HOF := Lib.hid (own_by O2.out (grown_all3 _ w.heap.size (.int .i64 L) (.int .i64 S) (.slice va l.length vc)) (fun h => by have := (O2.out.lt _ h).1; omega))
  clear Z z0 z1 z2 KZ
  go_wp2
  refine bodyPost_ret (v := .tuple #[.agg #[.int .i64 L, .int .i64 S, .slice va l.length vc], .int .i64 q]) (by simp [results, Try.results37, go_sem, Z0.out, Z1.out, Z2.out]) rfl (⟨_, _, _, l, q, rfl, hL, hS, hl, own_mono HOF.out (by omega), hq, HTF.out⟩)
set_option maxRecDepth 100000 in
set_option maxHeartbeats 4000000 in
theorem DrawRemoveCabin_any (a : Option Addr) (len cap : Nat) (w : World) (h : ByteRow w a len) :
    Calls Try.prog 48 #[.slice a len cap] w (DcgPost w) := by
  have HB0 := Lib.hid (((Below.refl w.heap.size w).alloc (Nat.le_refl _) (.cells #[.int .i64 0, .int .i64 0, .slice none 0 0] 55)).alloc (by simp) (.cells #[.slice a len cap, .int .i64 0, .int .u64 0] 72))
  have HC := Lib.hid (cur_at (cap := cap) (h.below ((Below.refl w.heap.size w).alloc (Nat.le_refl _) (.cells #[.int .i64 0, .int .i64 0, .slice none 0 0] 55))) 72 (n := w.heap.size + 1) (by simp))
  have HR0 := Lib.hid (blk_stay (o' := .cells #[.slice a len cap, .int .i64 0, .int .u64 0] 72) (blk_new3 w (.int .i64 0) (.int .i64 0) (.slice none 0 0) 55))
  have hs0 : ((w.alloc (.cells #[.int .i64 0, .int .i64 0, .slice none 0 0] 55)).alloc (.cells #[.slice a len cap, .int .i64 0, .int .u64 0] 72)).heap.size = w.heap.size + 2 := by simp
  clear h
  go_enter Try.func48, Try.ntmps48
  go_wp2_with fail
  generalize hw0 : (w.alloc (.cells #[.int .i64 0, .int .i64 0, .slice none 0 0] 55)).alloc (.cells #[.slice a len cap, .int .i64 0, .int .u64 0] 72) = w0 at *
  clear hw0
  refine (circle_any (w.heap.size + 1) (w.heap.size + 1) 0 w0 HC.out (by omega)).mono ?_
  rintro e w1 ⟨L, S, v, l, rfl, hL, hS, hl, o1, hc, b1⟩
  obtain ⟨va, vc, rfl⟩ := (Rs.of_own o1).shape
  have R1 := Lib.hid (blk_keep HR0.out b1 (by omega))
  have T1 := Lib.hid (HB0.out.trans (b1.mono (by omega)))
  have O1 := Lib.hid o1
  have C1 := Lib.hid hc
  have hs1 := b1.size
  clear o1 hc b1 HC
  have K2 := Lib.hid (blk_new3 w1 (.int .i64 L) (.int .i64 S) (.slice va l.length vc) 55)
  have R2 := Lib.hid (blk_stay (o' := .cells #[.int .i64 L, .int .i64 S, .slice va l.length vc] 55) R1.out)
  have T2 := Lib.hid (T1.out.alloc (by omega) (.cells #[.int .i64 L, .int .i64 S, .slice va l.length vc] 55))
  have O2 := Lib.hid (O1.out.alloc (.cells #[.int .i64 L, .int .i64 S, .slice va l.length vc] 55))
  have C2 := Lib.hid (C1.out.alloc (.cells #[.int .i64 L, .int .i64 S, .slice va l.length vc] 55))
  have hs2 : (w1.alloc (.cells #[.int .i64 L, .int .i64 S, .slice va l.length vc] 55)).heap.size = w1.heap.size + 1 := by simp
  clear R1 T1 O1 C1 HR0 HB0
  have e1 : IntKind.i64.wrap ((l.length : Int) + 1) = (l.length : Int) + 1 := IntWalk.i64_in _ (by omega)
  go_upto_region 3 with fail
  generalize hw2 : w1.alloc (.cells #[.int .i64 L, .int .i64 S, .slice va l.length vc] 55) = w2 at *
  clear hw2
  obtain ⟨k0, k1, k2⟩ := blk_cell3 K2.out
  have HKS : Hid (∀ W : World, w2.grownBy W (some (w.heap.size + 1)) → W.cell? ⟨w1.heap.size, 0, none⟩ = some (.int .i64 L) ∧ W.cell? ⟨w1.heap.size, 1, none⟩ = some (.int .i64 S) ∧ W.cell? ⟨w1.heap.size, 2, none⟩ = some (.slice va l.length vc)) := Lib.hid (fun W h => blk_cell3 (keepD h (show w1.heap.size ≠ w.heap.size + 1 by omega) K2.out))
  have HKR : Hid (∀ W : World, w2.grownBy W (some (w.heap.size + 1)) → (((W.setCell ⟨w.heap.size, 0, none⟩ (.int .i64 L)).setCell ⟨w.heap.size, 1, none⟩ (.int .i64 S)).setCell ⟨w.heap.size, 2, none⟩ (.slice va l.length vc)).cell? ⟨w1.heap.size, 0, none⟩ = some (.int .i64 L) ∧ (((W.setCell ⟨w.heap.size, 0, none⟩ (.int .i64 L)).setCell ⟨w.heap.size, 1, none⟩ (.int .i64 S)).setCell ⟨w.heap.size, 2, none⟩ (.slice va l.length vc)).cell? ⟨w1.heap.size, 1, none⟩ = some (.int .i64 S) ∧ (((W.setCell ⟨w.heap.size, 0, none⟩ (.int .i64 L)).setCell ⟨w.heap.size, 1, none⟩ (.int .i64 S)).setCell ⟨w.heap.size, 2, none⟩ (.slice va l.length vc)).cell? ⟨w1.heap.size, 2, none⟩ = some (.slice va l.length vc)) := Lib.hid (fun W h => blk_cell3 (((blk_by (by omega)).trans ((blk_by (by omega)).trans (blk_by (by omega)))).trans (keepD h (show w1.heap.size ≠ w.heap.size + 1 by omega) K2.out)))
  go_region_held3 (fun w' => w'.cell? ⟨w1.heap.size, 0, none⟩ = some (.int .i64 L) ∧ w'.cell? ⟨w1.heap.size, 1, none⟩ = some (.int .i64 S) ∧ w'.cell? ⟨w1.heap.size, 2, none⟩ = some (.slice va l.length vc))
    (first | exact HKS.out _ (by (repeat (first | with_reducible exact G6 | with_reducible exact G4 | with_reducible exact World.grownBy.refl _ _ | with_reducible refine gr_drew ?_)); first | done | fail) | exact HKR.out _ (by (repeat (first | with_reducible exact G6 | with_reducible exact G4 | with_reducible exact World.grownBy.refl _ _ | with_reducible refine gr_drew ?_)); first | done | fail))
    (first
      | (go_at_call 94; refine (pick_any (w.heap.size + 1) (w.heap.size + 1) (0 + 60 + 2) 9 W4 hc4 (by omega) (by omega) (by omega)).mono ?_; rintro e W6 ⟨r2, rfl, hr2, hc6, hg6⟩; have G6 : w2.grownBy W6 (some (w.heap.size + 1)) := grown_trans G4 hg6; obtain ⟨c, hc01, t1⟩ : ∃ c : Int, (0 ≤ c ∧ c ≤ 1) ∧ Int.tdiv (r2 : Int) 8 = c := ⟨Int.tdiv (r2 : Int) 8, by rw [Int.tdiv_eq_ediv_of_nonneg (by omega)]; omega, rfl⟩; have s3 : IntKind.i64.wrap c = c := IntWalk.i64_in _ (by omega); obtain ⟨p, hp⟩ : ∃ p, p = (r : Int) - c := ⟨_, rfl⟩; have s4 : IntKind.i64.wrap ((r : Int) - c) = p := (by rw [hp]; exact IntWalk.i64_in _ (by omega)); have hpb : -1 ≤ p ∧ p ≤ 4001 := (by omega); have R6 : W6.heap[w.heap.size]? = some (.cells #[.int .i64 0, .int .i64 0, .slice none 0 0] 55 (0, 0)) := keepD G6 (show w.heap.size ≠ w.heap.size + 1 by omega) R2.out; obtain ⟨r0, r1, r2⟩ := blk_cell3 R6; obtain ⟨s0, s1, s2⟩ := blk_froz3 R6)
      | (go_at_call 94; refine (pick_any (w.heap.size + 1) (w.heap.size + 1) (0 + 60) ((l.length : Int) + 1) _ (by first | with_reducible exact C2.out | with_reducible exact C2.out.drew1 | exact C2.out.drew1 | fail) (by omega) (by omega) (by omega)).mono ?_; rintro e W4 ⟨r, rfl, hr, hc4, hg4⟩; have G4 : w2.grownBy W4 (some (w.heap.size + 1)) := grown_trans (by (repeat (first | with_reducible exact World.grownBy.refl _ _ | with_reducible refine gr_drew ?_)); first | done | fail) hg4)
      | fail)
  have Z := blk_all3 (x := .int .i64 L) (y := .int .i64 S) (z := .slice va l.length vc) R6
  obtain ⟨z0, z1, z2⟩ := blk_cell3 Z
  have Z0 := Lib.hid z0
  have Z1 := Lib.hid z1
  have Z2 := Lib.hid z2
  have T6 := Below.trans T2.out (grown_below G6 (by omega) (fun k hk => by cases hk; omega))
  have O6 := O2.out.kept G6 (.inr (fun e => by have := (O2.out.lt _ e).1; omega))
  have HTF := Lib.hid (below_all3 T6 (b := w.heap.size) (Nat.le_refl _) (.int .i64 L) (.int .i64 S) (.slice va l.length vc))
  have HOF := Lib.hid (own_by O6 (grown_all3 _ w.heap.size (.int .i64 L) (.int .i64 S) (.slice va l.length vc)) (fun h => by have := (O6.lt _ h).1; omega))
  clear Z z0 z1 z2 R6
  go_wp2
  refine bodyPost_ret (v := .tuple #[.agg #[.int .i64 L, .int .i64 S, .slice va l.length vc], .int .i64 p]) (by simp [results, Try.results48, go_sem, Z0.out, Z1.out, Z2.out]; exact hp.symm) rfl (⟨_, _, _, l, p, rfl, hL, hS, hl, own_mono HOF.out (by omega), hpb, HTF.out⟩)
def DevPost (w : World) (e : Ending) (w' : World) : Prop := ∃ x0 x1 x2 : Int, e = .returned (.tuple #[.int .i64 x0, .int .i64 x1, .int .i64 x2]) ∧ (9 ≤ x0 ∧ x0 ≤ 4001) ∧ (0 ≤ x1 ∧ x1 ≤ 101) ∧ (-1 ≤ x2 ∧ x2 ≤ 13) ∧ Below w.heap.size w w'
set_option maxRecDepth 100000 in
set_option maxHeartbeats 2000000 in
theorem DrawEvenStarts_any (a : Option Addr) (len cap : Nat) (w : World) (h : ByteRow w a len) :
    Calls Try.prog 50 #[.slice a len cap] w (DevPost w) := by
  have HC := Lib.hid (cur_new (cap := cap) h 72)
  have HB0 := Lib.hid ((Below.refl w.heap.size w).alloc (Nat.le_refl _) (.cells #[.slice a len cap, .int .i64 0, .int .u64 0] 72))
  have hs0 : (w.alloc (.cells #[.slice a len cap, .int .i64 0, .int .u64 0] 72)).heap.size = w.heap.size + 1 := by simp
  clear h
  go_enter Try.func50, Try.ntmps50
  go_upto_region 2 with fail
  generalize hw0 : w.alloc (.cells #[.slice a len cap, .int .i64 0, .int .u64 0] 72) = w0 at *
  clear hw0
  have HS0 := Lib.hid hs0
  clear hs0
  go_wp2_with fail
  refine (among_any w.heap.size w.heap.size (0) w0.heap.size 7 7 [10, 11, 100, 777, 4000, 9, 4001] _ (HC.out.alloc _) (by omega) rfl (by omega) (by omega) (by have := HS0.out; omega) (num_cells w0 3 [10, 11, 100, 777, 4000, 9, 4001] _ rfl)).mono ?_
  rintro e w1 ⟨x0, hx, rfl, hc, hg0⟩
  have hb0 : 9 ≤ x0 ∧ x0 ≤ 4001 := by simp at hx; omega
  have hg := grown_trans (World.grownBy_alloc w0 (.cells #[.int .i64 10, .int .i64 11, .int .i64 100, .int .i64 777, .int .i64 4000, .int .i64 9, .int .i64 4001] 3) (some w.heap.size)) hg0
  clear hx hg0
  have C1 := Lib.hid hc
  have G1 := Lib.hid (hg)
  clear hc hg
  go_wp2_with fail
  refine (among_any w.heap.size w.heap.size (0 + 2) w1.heap.size 5 5 [1, 50, 100, 0, 101] _ (C1.out.alloc _) (by omega) rfl (by omega) (by omega) (by have := HS0.out; have := G1.out.size; omega) (num_cells w1 3 [1, 50, 100, 0, 101] _ rfl)).mono ?_
  rintro e w2 ⟨x1, hx, rfl, hc, hg0⟩
  have hb1 : 0 ≤ x1 ∧ x1 ≤ 101 := by simp at hx; omega
  have hg := grown_trans (World.grownBy_alloc w1 (.cells #[.int .i64 1, .int .i64 50, .int .i64 100, .int .i64 0, .int .i64 101] 3) (some w.heap.size)) hg0
  clear hx hg0
  have C2 := Lib.hid hc
  have G2 := Lib.hid (grown_trans G1.out hg)
  clear hc hg G1 C1
  go_wp2_with fail
  refine (among_any w.heap.size w.heap.size (0 + 2 + 2) w2.heap.size 8 8 [0, 1, 2, 3, 7, 12, 13, -1] _ (C2.out.alloc _) (by omega) rfl (by omega) (by omega) (by have := HS0.out; have := G2.out.size; omega) (num_cells w2 3 [0, 1, 2, 3, 7, 12, 13, -1] _ rfl)).mono ?_
  rintro e w3 ⟨x2, hx, rfl, hc, hg0⟩
  have hb2 : -1 ≤ x2 ∧ x2 ≤ 13 := by simp at hx; omega
  have hg := grown_trans (World.grownBy_alloc w2 (.cells #[.int .i64 0, .int .i64 1, .int .i64 2, .int .i64 3, .int .i64 7, .int .i64 12, .int .i64 13, .int .i64 (-1)] 3) (some w.heap.size)) hg0
  clear hx hg0
  have C3 := Lib.hid hc
  have G3 := Lib.hid (grown_trans G2.out hg)
  clear hc hg G2 C2
  have hs0 := HS0.out
  have HB := Lib.hid (HB0.out.trans (grown_below G3.out (show w.heap.size ≤ w0.heap.size by omega) (fun k hk => by cases hk; omega)))
  go_wp2_with fail
  go_ret3
  exact ⟨x0, x1, x2, rfl, hb0, hb1, hb2, HB.out⟩
end Go.Proofs.Ytmmjbdffpgohdaa
