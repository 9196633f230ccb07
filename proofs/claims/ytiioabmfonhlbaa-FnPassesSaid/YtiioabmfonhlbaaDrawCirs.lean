/- The draws of circles, places and times. Condition: sizes. -/
import Derived.Test.YtiioabmfonhlbaaDrawCir
import Derived.Test.YtiioabmfonhlbaaBig
import Derived.Deep.RegionHeld3
namespace Go.Proofs.Ytiioabmfonhlbaa
open Go.RowKit
set_option linter.unusedVariables false
/-- What drawing a circle for a law leaves. -/
def DcPost (w : World) (e : Ending) (w' : World) : Prop := ∃ (L S : Int) (v : Value) (l : List Int), e = .returned (.agg #[.int .i64 L, .int .i64 S, v]) ∧ (9 ≤ L ∧ L ≤ 4001) ∧ (0 ≤ S ∧ S ≤ 101) ∧ l.length ≤ 9 ∧ w'.ownsRow w.heap.size 3 1 v l.length (intVs l) ∧ Below w.heap.size w w'
def DctPost (w : World) (e : Ending) (w' : World) : Prop := ∃ (L S : Int) (v : Value) (l : List Int) (q : Int), e = .returned (.tuple #[.agg #[.int .i64 L, .int .i64 S, v], .int .i64 q]) ∧ (9 ≤ L ∧ L ≤ 4001) ∧ (0 ≤ S ∧ S ≤ 101) ∧ l.length ≤ 9 ∧ w'.ownsRow w.heap.size 3 1 v l.length (intVs l) ∧ (-1 ≤ q ∧ q ≤ 100001) ∧ Below w.heap.size w w'
def DcpPost (w : World) (e : Ending) (w' : World) : Prop := ∃ (L S : Int) (v : Value) (l : List Int) (p q : Int), e = .returned (.tuple #[.agg #[.int .i64 L, .int .i64 S, v], .int .i64 p, .int .i64 q]) ∧ (9 ≤ L ∧ L ≤ 4001) ∧ (0 ≤ S ∧ S ≤ 101) ∧ l.length ≤ 9 ∧ w'.ownsRow w.heap.size 3 1 v l.length (intVs l) ∧ (-1 ≤ p ∧ p ≤ 4001) ∧ (-1 ≤ q ∧ q ≤ 100001) ∧ Below w.heap.size w w'
set_option maxRecDepth 100000 in
set_option maxHeartbeats 2000000 in
theorem DrawIsCircle_any (a : Option Addr) (len cap : Nat) (w : World) (h : ByteRow w a len) :
    Calls Try.prog 75 #[.slice a len cap] w (DcPost w) := by
  have HB0 := Lib.hid (((Below.refl w.heap.size w).alloc (Nat.le_refl _) (.cells #[.int .i64 0, .int .i64 0, .slice none 0 0] 26)).alloc (by simp) (.cells #[.slice a len cap, .int .i64 0, .int .u64 0] 62))
  have HC := Lib.hid (cur_at (cap := cap) (h.below ((Below.refl w.heap.size w).alloc (Nat.le_refl _) (.cells #[.int .i64 0, .int .i64 0, .slice none 0 0] 26))) 62 (n := w.heap.size + 1) (by simp))
  have HR0 := Lib.hid (blk_stay (o' := .cells #[.slice a len cap, .int .i64 0, .int .u64 0] 62) (blk_new3 w (.int .i64 0) (.int .i64 0) (.slice none 0 0) 26))
  have hs0 : ((w.alloc (.cells #[.int .i64 0, .int .i64 0, .slice none 0 0] 26)).alloc (.cells #[.slice a len cap, .int .i64 0, .int .u64 0] 62)).heap.size = w.heap.size + 2 := by simp
  clear h
  go_enter Try.func75, Try.ntmps75
  go_wp2_with fail
  generalize hw0 : (w.alloc (.cells #[.int .i64 0, .int .i64 0, .slice none 0 0] 26)).alloc (.cells #[.slice a len cap, .int .i64 0, .int .u64 0] 62) = w0 at *
  clear hw0
  refine (circle_any (w.heap.size + 1) (w.heap.size + 1) 0 w0 HC.out (by omega)).mono ?_
  rintro e w1 ⟨L, S, v, l, rfl, hL, hS, hl, o1, hc, b1⟩
  obtain ⟨va, vc, rfl⟩ := (Rs.of_own o1).shape
  have R1 := Lib.hid (blk_keep HR0.out b1 (by omega))
  have T1 := Lib.hid (HB0.out.trans (b1.mono (by omega)))
  have O1 := Lib.hid o1
  have C1 := Lib.hid hc
  have hs1 := b1.size
  clear o1 hc b1 HC
  clear C1 HR0 HB0
  have KZ := R1.out
  obtain ⟨r0, r1, r2⟩ := blk_cell3 KZ
  obtain ⟨s0, s1, s2⟩ := blk_froz3 KZ
  have Z := blk_all3 (x := .int .i64 L) (y := .int .i64 S) (z := .slice va l.length vc) KZ
  obtain ⟨z0, z1, z2⟩ := blk_cell3 Z
  have Z0 := Lib.hid z0
  have Z1 := Lib.hid z1
  have Z2 := Lib.hid z2
  have HTF := Lib.hid (below_all3 T1.out (b := w.heap.size) (Nat.le_refl _) (.int .i64 L) (.int .i64 S) (.slice va l.length vc))
  have HOF := Lib.hid (own_by O1.out (grown_all3 _ w.heap.size (.int .i64 L) (.int .i64 S) (.slice va l.length vc)) (fun h => by have := (O1.out.lt _ h).1; omega))
  clear Z z0 z1 z2 KZ
  go_wp2
  refine bodyPost_ret (v := .agg #[.int .i64 L, .int .i64 S, .slice va l.length vc]) (by simp [results, Try.results75, go_sem, Z0.out, Z1.out, Z2.out]) rfl (⟨_, _, _, l, rfl, hL, hS, hl, own_mono HOF.out (by omega), HTF.out⟩)
set_option maxRecDepth 100000 in
set_option maxHeartbeats 2000000 in
theorem DrawRoundTime_any (a : Option Addr) (len cap : Nat) (w : World) (h : ByteRow w a len) :
    Calls Try.prog 44 #[.slice a len cap] w (DcPost w) := by
  have HH := Lib.hid h
  have HB0 := Lib.hid ((Below.refl w.heap.size w).alloc (Nat.le_refl _) (.cells #[.int .i64 0, .int .i64 0, .slice none 0 0] 26))
  have HR0 := Lib.hid (blk_new3 w (.int .i64 0) (.int .i64 0) (.slice none 0 0) 26)
  have HH1 := Lib.hid (h.below HB0.out)
  have hs0 : (w.alloc (.cells #[.int .i64 0, .int .i64 0, .slice none 0 0] 26)).heap.size = w.heap.size + 1 := by simp
  clear h
  go_enter Try.func44, Try.ntmps44
  go_wp2_with fail
  refine (DrawIsCircle_any a len cap _ HH1.out).mono ?_
  rintro e w1 ⟨L, S, v, l, rfl, hL, hS, hl, o1, b1⟩
  obtain ⟨va, vc, rfl⟩ := (Rs.of_own o1).shape
  have R1 := Lib.hid (blk_keep HR0.out b1 (by omega))
  have T1 := Lib.hid (HB0.out.trans (b1.mono (by omega)))
  have O1 := Lib.hid o1
  have hs1 := b1.size
  clear o1 b1 HB0 HR0
  have KZ := R1.out
  obtain ⟨r0, r1, r2⟩ := blk_cell3 KZ
  obtain ⟨s0, s1, s2⟩ := blk_froz3 KZ
  have Z := blk_all3 (x := .int .i64 L) (y := .int .i64 S) (z := .slice va l.length vc) KZ
  obtain ⟨z0, z1, z2⟩ := blk_cell3 Z
  have Z0 := Lib.hid z0
  have Z1 := Lib.hid z1
  have Z2 := Lib.hid z2
  have HTF := Lib.hid (below_all3 T1.out (b := w.heap.size) (Nat.le_refl _) (.int .i64 L) (.int .i64 S) (.slice va l.length vc))
  have HOF := Lib.hid (own_by O1.out (grown_all3 _ w.heap.size (.int .i64 L) (.int .i64 S) (.slice va l.length vc)) (fun h => by have := (O1.out.lt _ h).1; omega))
  clear Z z0 z1 z2 KZ
  go_wp2
  refine bodyPost_ret (v := .agg #[.int .i64 L, .int .i64 S, .slice va l.length vc]) (by simp [results, Try.results44, go_sem, Z0.out, Z1.out, Z2.out]) rfl (⟨_, _, _, l, rfl, hL, hS, hl, own_mono HOF.out (by omega), HTF.out⟩)
set_option maxRecDepth 100000 in
set_option maxHeartbeats 2000000 in
theorem DrawPlacesAt_any (a : Option Addr) (len cap : Nat) (w : World) (h : ByteRow w a len) :
    Calls Try.prog 41 #[.slice a len cap] w (DctPost w) := by
  have HB0 := Lib.hid (((Below.refl w.heap.size w).alloc (Nat.le_refl _) (.cells #[.int .i64 0, .int .i64 0, .slice none 0 0] 26)).alloc (by simp) (.cells #[.slice a len cap, .int .i64 0, .int .u64 0] 62))
  have HC := Lib.hid (cur_at (cap := cap) (h.below ((Below.refl w.heap.size w).alloc (Nat.le_refl _) (.cells #[.int .i64 0, .int .i64 0, .slice none 0 0] 26))) 62 (n := w.heap.size + 1) (by simp))
  have HR0 := Lib.hid (blk_stay (o' := .cells #[.slice a len cap, .int .i64 0, .int .u64 0] 62) (blk_new3 w (.int .i64 0) (.int .i64 0) (.slice none 0 0) 26))
  have hs0 : ((w.alloc (.cells #[.int .i64 0, .int .i64 0, .slice none 0 0] 26)).alloc (.cells #[.slice a len cap, .int .i64 0, .int .u64 0] 62)).heap.size = w.heap.size + 2 := by simp
  clear h
  go_enter Try.func41, Try.ntmps41
  go_wp2_with fail
  generalize hw0 : (w.alloc (.cells #[.int .i64 0, .int .i64 0, .slice none 0 0] 26)).alloc (.cells #[.slice a len cap, .int .i64 0, .int .u64 0] 62) = w0 at *
  clear hw0
  refine (circle_any (w.heap.size + 1) (w.heap.size + 1) 0 w0 HC.out (by omega)).mono ?_
  rintro e w1 ⟨L, S, v, l, rfl, hL, hS, hl, o1, hc, b1⟩
  obtain ⟨va, vc, rfl⟩ := (Rs.of_own o1).shape
  have R1 := Lib.hid (blk_keep HR0.out b1 (by omega))
  have T1 := Lib.hid (HB0.out.trans (b1.mono (by omega)))
  have O1 := Lib.hid o1
  have C1 := Lib.hid hc
  have hs1 := b1.size
  clear o1 hc b1 HC
  go_wp2_with fail
  refine (seconds_any _ _ _ _ C1.out (by omega)).mono ?_
  rintro e w2 ⟨q, rfl, hq, hc, hg⟩
  have R2 := Lib.hid (keepD hg (show w.heap.size ≠ w.heap.size + 1 by omega) R1.out)
  have T2 := Lib.hid (Below.trans T1.out (grown_below hg (by omega) (fun k hk => by cases hk; omega)))
  have O2 := Lib.hid (O1.out.kept hg (.inr (fun e => by have := (O1.out.lt _ e).1; omega)))
  have hs2 := hg.size
  clear hc hg C1 R1 T1 O1 HR0 HB0
  have KZ := R2.out
  obtain ⟨r0, r1, r2⟩ := blk_cell3 KZ
  obtain ⟨s0, s1, s2⟩ := blk_froz3 KZ
  have Z := blk_all3 (x := .int .i64 L) (y := .int .i64 S) (z := .slice va l.length vc) KZ
  obtain ⟨z0, z1, z2⟩ := blk_cell3 Z
  have Z0 := Lib.hid z0
  have Z1 := Lib.hid z1
  have Z2 := Lib.hid z2
  have HTF := Lib.hid (below_all3 T2.out (b := w.heap.size) (Nat.le_refl _) (.int .i64 L) (.int .i64 S) (.slice va l.length vc))
  have HOF := Lib.hid (own_by O2.out (grown_all3 _ w.heap.size (.int .i64 L) (.int .i64 S) (.slice va l.length vc)) (fun h => by have := (O2.out.lt _ h).1; omega))
  clear Z z0 z1 z2 KZ
  go_wp2
  refine bodyPost_ret (v := .tuple #[.agg #[.int .i64 L, .int .i64 S, .slice va l.length vc], .int .i64 q]) (by simp [results, Try.results41, go_sem, Z0.out, Z1.out, Z2.out]) rfl (⟨_, _, _, l, q, rfl, hL, hS, hl, own_mono HOF.out (by omega), hq, HTF.out⟩)
set_option maxRecDepth 100000 in
set_option maxHeartbeats 4000000 in
theorem DrawPassesBy_any (a : Option Addr) (len cap : Nat) (w : World) (h : ByteRow w a len) :
    Calls Try.prog 39 #[.slice a len cap] w (DcpPost w) := by
  have HB0 := Lib.hid (((Below.refl w.heap.size w).alloc (Nat.le_refl _) (.cells #[.int .i64 0, .int .i64 0, .slice none 0 0] 26)).alloc (by simp) (.cells #[.slice a len cap, .int .i64 0, .int .u64 0] 62))
  have HC := Lib.hid (cur_at (cap := cap) (h.below ((Below.refl w.heap.size w).alloc (Nat.le_refl _) (.cells #[.int .i64 0, .int .i64 0, .slice none 0 0] 26))) 62 (n := w.heap.size + 1) (by simp))
  have HR0 := Lib.hid (blk_stay (o' := .cells #[.slice a len cap, .int .i64 0, .int .u64 0] 62) (blk_new3 w (.int .i64 0) (.int .i64 0) (.slice none 0 0) 26))
  have hs0 : ((w.alloc (.cells #[.int .i64 0, .int .i64 0, .slice none 0 0] 26)).alloc (.cells #[.slice a len cap, .int .i64 0, .int .u64 0] 62)).heap.size = w.heap.size + 2 := by simp
  clear h
  go_enter Try.func39, Try.ntmps39
  go_wp2_with fail
  generalize hw0 : (w.alloc (.cells #[.int .i64 0, .int .i64 0, .slice none 0 0] 26)).alloc (.cells #[.slice a len cap, .int .i64 0, .int .u64 0] 62) = w0 at *
  clear hw0
  refine (circle_any (w.heap.size + 1) (w.heap.size + 1) 0 w0 HC.out (by omega)).mono ?_
  rintro e w1 ⟨L, S, v, l, rfl, hL, hS, hl, o1, hc, b1⟩
  obtain ⟨va, vc, rfl⟩ := (Rs.of_own o1).shape
  have R1 := Lib.hid (blk_keep HR0.out b1 (by omega))
  have T1 := Lib.hid (HB0.out.trans (b1.mono (by omega)))
  have O1 := Lib.hid o1
  have C1 := Lib.hid hc
  have hs1 := b1.size
  clear o1 hc b1 HC
  have K2 := Lib.hid (blk_new3 w1 (.int .i64 L) (.int .i64 S) (.slice va l.length vc) 26)
  have R2 := Lib.hid (blk_stay (o' := .cells #[.int .i64 L, .int .i64 S, .slice va l.length vc] 26) R1.out)
  have T2 := Lib.hid (T1.out.alloc (by omega) (.cells #[.int .i64 L, .int .i64 S, .slice va l.length vc] 26))
  have O2 := Lib.hid (O1.out.alloc (.cells #[.int .i64 L, .int .i64 S, .slice va l.length vc] 26))
  have C2 := Lib.hid (C1.out.alloc (.cells #[.int .i64 L, .int .i64 S, .slice va l.length vc] 26))
  have hs2 : (w1.alloc (.cells #[.int .i64 L, .int .i64 S, .slice va l.length vc] 26)).heap.size = w1.heap.size + 1 := by simp
  clear R1 T1 O1 C1 HR0 HB0
  have hmx : imaxD 1 L = L := by unfold imaxD; rw [if_neg (by omega)]
  have HM := Lib.hid (fun W => l1MostD 1 L W)
  rw [hmx] at HM
  clear hmx
  have e1 : IntKind.i64.wrap (L + 1) = L + 1 := IntWalk.i64_in _ (by omega)
  go_upto_region 3 with fail
  generalize hw2 : w1.alloc (.cells #[.int .i64 L, .int .i64 S, .slice va l.length vc] 26) = w2 at *
  clear hw2
  obtain ⟨k0, k1, k2⟩ := blk_cell3 K2.out
  have HKS : Hid (∀ W : World, w2.grownBy W (some (w.heap.size + 1)) → W.cell? ⟨w1.heap.size, 0, none⟩ = some (.int .i64 L) ∧ W.cell? ⟨w1.heap.size, 1, none⟩ = some (.int .i64 S) ∧ W.cell? ⟨w1.heap.size, 2, none⟩ = some (.slice va l.length vc)) := Lib.hid (fun W h => blk_cell3 (keepD h (show w1.heap.size ≠ w.heap.size + 1 by omega) K2.out))
  have HKR : Hid (∀ W : World, w2.grownBy W (some (w.heap.size + 1)) → (((W.setCell ⟨w.heap.size, 0, none⟩ (.int .i64 L)).setCell ⟨w.heap.size, 1, none⟩ (.int .i64 S)).setCell ⟨w.heap.size, 2, none⟩ (.slice va l.length vc)).cell? ⟨w1.heap.size, 0, none⟩ = some (.int .i64 L) ∧ (((W.setCell ⟨w.heap.size, 0, none⟩ (.int .i64 L)).setCell ⟨w.heap.size, 1, none⟩ (.int .i64 S)).setCell ⟨w.heap.size, 2, none⟩ (.slice va l.length vc)).cell? ⟨w1.heap.size, 1, none⟩ = some (.int .i64 S) ∧ (((W.setCell ⟨w.heap.size, 0, none⟩ (.int .i64 L)).setCell ⟨w.heap.size, 1, none⟩ (.int .i64 S)).setCell ⟨w.heap.size, 2, none⟩ (.slice va l.length vc)).cell? ⟨w1.heap.size, 2, none⟩ = some (.slice va l.length vc)) := Lib.hid (fun W h => blk_cell3 (((blk_by (by omega)).trans ((blk_by (by omega)).trans (blk_by (by omega)))).trans (keepD h (show w1.heap.size ≠ w.heap.size + 1 by omega) K2.out)))
  go_region_held3 (fun w' => w'.cell? ⟨w1.heap.size, 0, none⟩ = some (.int .i64 L) ∧ w'.cell? ⟨w1.heap.size, 1, none⟩ = some (.int .i64 S) ∧ w'.cell? ⟨w1.heap.size, 2, none⟩ = some (.slice va l.length vc))
    (first | exact HKS.out _ (by (repeat (first | with_reducible exact G6 | with_reducible exact G5 | with_reducible exact G4 | with_reducible exact World.grownBy.refl _ _ | with_reducible refine gr_drew ?_)); first | done | fail) | exact HKR.out _ (by (repeat (first | with_reducible exact G6 | with_reducible exact G5 | with_reducible exact G4 | with_reducible exact World.grownBy.refl _ _ | with_reducible refine gr_drew ?_)); first | done | fail))
    (first
      | (go_at_call 80; refine (HM.out _).mono ?_; rintro e W3 ⟨rfl, rfl⟩)
      | (go_at_call 74; refine (pick_any (w.heap.size + 1) (w.heap.size + 1) (0 + 60 + 2) 9 W4 hc4 (by omega) (by omega) (by omega)).mono ?_; rintro e W5 ⟨r2, rfl, hr2, hc5, hg5⟩; have G5 : w2.grownBy W5 (some (w.heap.size + 1)) := grown_trans G4 hg5; obtain ⟨c, hc01, t1⟩ : ∃ c : Int, (0 ≤ c ∧ c ≤ 1) ∧ Int.tdiv (r2 : Int) 8 = c := ⟨Int.tdiv (r2 : Int) 8, by rw [Int.tdiv_eq_ediv_of_nonneg (by omega)]; omega, rfl⟩; have s3 : IntKind.i64.wrap c = c := IntWalk.i64_in _ (by omega); obtain ⟨p, hp⟩ : ∃ p, p = (r : Int) - c := ⟨_, rfl⟩; have s4 : IntKind.i64.wrap ((r : Int) - c) = p := (by rw [hp]; exact IntWalk.i64_in _ (by omega)); have hpb : -1 ≤ p ∧ p ≤ 4001 := (by omega))
      | (go_at_call 74; refine (pick_any (w.heap.size + 1) (w.heap.size + 1) (0 + 60) (L + 1) _ (by first | with_reducible exact C2.out | with_reducible exact C2.out.drew1 | exact C2.out.drew1 | fail) (by omega) (by omega) (by omega)).mono ?_; rintro e W4 ⟨r, rfl, hr, hc4, hg4⟩; have G4 : w2.grownBy W4 (some (w.heap.size + 1)) := grown_trans (by (repeat (first | with_reducible exact World.grownBy.refl _ _ | with_reducible refine gr_drew ?_)); first | done | fail) hg4)
      | (go_at_call 81; refine (seconds_any (w.heap.size + 1) (w.heap.size + 1) (0 + 60 + 2 + 2) _ hc5 (by omega)).mono ?_; rintro e W6 ⟨q, rfl, hq, hc6, hg6⟩; have G6 : w2.grownBy W6 (some (w.heap.size + 1)) := grown_trans G5 hg6; have R6 : W6.heap[w.heap.size]? = some (.cells #[.int .i64 0, .int .i64 0, .slice none 0 0] 26 (0, 0)) := keepD G6 (show w.heap.size ≠ w.heap.size + 1 by omega) R2.out; obtain ⟨r0, r1, r2⟩ := blk_cell3 R6; obtain ⟨s0, s1, s2⟩ := blk_froz3 R6)
      | fail)
  have Z := blk_all3 (x := .int .i64 L) (y := .int .i64 S) (z := .slice va l.length vc) R6
  obtain ⟨z0, z1, z2⟩ := blk_cell3 Z
  have Z0 := Lib.hid z0
  have Z1 := Lib.hid z1
  have Z2 := Lib.hid z2
  have T6 := Below.trans T2.out (grown_below G6 (by omega) (fun k hk => by cases hk; omega))
  have O6 := O2.out.kept G6 (.inr (fun e => by have := (O2.out.lt _ e).1; omega))
  have HTF := Lib.hid (below_all3 T6 (b := w.heap.size) (Nat.le_refl _) (.int .i64 L) (.int .i64 S) (.slice va l.length vc))
  have HOF := Lib.hid (own_by O6 (grown_all3 _ w.heap.size (.int .i64 L) (.int .i64 S) (.slice va l.length vc)) (fun h => by have := (O6.lt _ h).1; omega))
  clear Z z0 z1 z2 R6
  go_wp2
  refine bodyPost_ret (v := .tuple #[.agg #[.int .i64 L, .int .i64 S, .slice va l.length vc], .int .i64 p, .int .i64 q]) (by simp [results, Try.results39, go_sem, Z0.out, Z1.out, Z2.out]; exact hp.symm) rfl (⟨_, _, _, l, p, q, rfl, hL, hS, hl, own_mono HOF.out (by omega), hpb, hq, HTF.out⟩)
set_option maxRecDepth 100000 in
set_option maxHeartbeats 2000000 in
theorem DrawNextPass_any (a : Option Addr) (len cap : Nat) (w : World) (h : ByteRow w a len) :
    Calls Try.prog 35 #[.slice a len cap] w (DcpPost w) := by
  have HH := Lib.hid h
  have HB0 := Lib.hid ((Below.refl w.heap.size w).alloc (Nat.le_refl _) (.cells #[.int .i64 0, .int .i64 0, .slice none 0 0] 26))
  have HR0 := Lib.hid (blk_new3 w (.int .i64 0) (.int .i64 0) (.slice none 0 0) 26)
  have HH1 := Lib.hid (h.below HB0.out)
  have hs0 : (w.alloc (.cells #[.int .i64 0, .int .i64 0, .slice none 0 0] 26)).heap.size = w.heap.size + 1 := by simp
  clear h
  go_enter Try.func35, Try.ntmps35
  go_wp2_with fail
  refine (DrawPassesBy_any a len cap _ HH1.out).mono ?_
  rintro e w1 ⟨L, S, v, l, p, q, rfl, hL, hS, hl, o1, hp, hq, b1⟩
  obtain ⟨va, vc, rfl⟩ := (Rs.of_own o1).shape
  have R1 := Lib.hid (blk_keep HR0.out b1 (by omega))
  have T1 := Lib.hid (HB0.out.trans (b1.mono (by omega)))
  have O1 := Lib.hid o1
  have hs1 := b1.size
  clear o1 b1 HB0 HR0
  have KZ := R1.out
  obtain ⟨r0, r1, r2⟩ := blk_cell3 KZ
  obtain ⟨s0, s1, s2⟩ := blk_froz3 KZ
  have Z := blk_all3 (x := .int .i64 L) (y := .int .i64 S) (z := .slice va l.length vc) KZ
  obtain ⟨z0, z1, z2⟩ := blk_cell3 Z
  have Z0 := Lib.hid z0
  have Z1 := Lib.hid z1
  have Z2 := Lib.hid z2
  have HTF := Lib.hid (below_all3 T1.out (b := w.heap.size) (Nat.le_refl _) (.int .i64 L) (.int .i64 S) (.slice va l.length vc))
  have HOF := Lib.hid (own_by O1.out (grown_all3 _ w.heap.size (.int .i64 L) (.int .i64 S) (.slice va l.length vc)) (fun h => by have := (O1.out.lt _ h).1; omega))
  clear Z z0 z1 z2 KZ
  go_wp2
  refine bodyPost_ret (v := .tuple #[.agg #[.int .i64 L, .int .i64 S, .slice va l.length vc], .int .i64 p, .int .i64 q]) (by simp [results, Try.results35, go_sem, Z0.out, Z1.out, Z2.out]) rfl (⟨_, _, _, l, p, q, rfl, hL, hS, hl, own_mono HOF.out (by omega), hp, hq, HTF.out⟩)
end Go.Proofs.Ytiioabmfonhlbaa
