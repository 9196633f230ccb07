/- The draws of drives, speeds, ways and pulls. Condition: sizes. -/
import Derived.Test.YthmoogkllpcebaaDoorDrawDrv
import Derived.Test.YthmoogkllpcebaaDoorBig
namespace Go.Proofs.YthmoogkllpcebaaDoor
open Go.RowKit
set_option linter.unusedVariables false
/-- What drawing a drive for a law leaves, alone and with one, two, three numbers. -/
def D0Post (w : World) (e : Ending) (w' : World) : Prop := ∃ (M P : Int) (v : Value) (l : List Brk) , e = .returned (.agg #[.int .i64 M, .int .i64 P, v]) ∧ l.length ≤ 9 ∧ w'.ownsRow w.heap.size 35 2 v l.length (brks l) ∧ Below w.heap.size w w'
def D1Post (w : World) (e : Ending) (w' : World) : Prop := ∃ (M P : Int) (v : Value) (l : List Brk) (p0 : Int), e = .returned (.tuple #[.agg #[.int .i64 M, .int .i64 P, v], .int .i64 p0]) ∧ l.length ≤ 9 ∧ w'.ownsRow w.heap.size 35 2 v l.length (brks l) ∧ Below w.heap.size w w'
def D2Post (w : World) (e : Ending) (w' : World) : Prop := ∃ (M P : Int) (v : Value) (l : List Brk) (p0 p1 : Int), e = .returned (.tuple #[.agg #[.int .i64 M, .int .i64 P, v], .int .i64 p0, .int .i64 p1]) ∧ l.length ≤ 9 ∧ w'.ownsRow w.heap.size 35 2 v l.length (brks l) ∧ Below w.heap.size w w'
def D3Post (w : World) (e : Ending) (w' : World) : Prop := ∃ (M P : Int) (v : Value) (l : List Brk) (p0 p1 p2 : Int), e = .returned (.tuple #[.agg #[.int .i64 M, .int .i64 P, v], .int .i64 p0, .int .i64 p1, .int .i64 p2]) ∧ l.length ≤ 9 ∧ w'.ownsRow w.heap.size 35 2 v l.length (brks l) ∧ Below w.heap.size w w'
set_option maxRecDepth 100000 in
set_option maxHeartbeats 2000000 in
theorem DrawIsDrive_any (a : Option Addr) (len cap : Nat) (w : World) (h : ByteRow w a len) :
    Calls Tryd.prog 70 #[.slice a len cap] w (D0Post w) := by
  have HB0 := Lib.hid (((Below.refl w.heap.size w).alloc (Nat.le_refl _) (.cells #[.int .i64 0, .int .i64 0, .slice none 0 0] 26)).alloc (by simp) (.cells #[.slice a len cap, .int .i64 0, .int .u64 0] 65))
  have HC := Lib.hid (cur_at (cap := cap) (h.below ((Below.refl w.heap.size w).alloc (Nat.le_refl _) (.cells #[.int .i64 0, .int .i64 0, .slice none 0 0] 26))) 65 (n := w.heap.size + 1) (by simp))
  have HR0 := Lib.hid (blk_stay (o' := .cells #[.slice a len cap, .int .i64 0, .int .u64 0] 65) (blk_new3 w (.int .i64 0) (.int .i64 0) (.slice none 0 0) 26))
  have hs0 : ((w.alloc (.cells #[.int .i64 0, .int .i64 0, .slice none 0 0] 26)).alloc (.cells #[.slice a len cap, .int .i64 0, .int .u64 0] 65)).heap.size = w.heap.size + 2 := by simp
  clear h
  go_enter Tryd.func70, Tryd.ntmps70
  go_wp2_with fail
  generalize hw0 : (w.alloc (.cells #[.int .i64 0, .int .i64 0, .slice none 0 0] 26)).alloc (.cells #[.slice a len cap, .int .i64 0, .int .u64 0] 65) = w0 at *
  clear hw0
  refine (drive_any (w.heap.size + 1) (w.heap.size + 1) 0 w0 HC.out (by omega)).mono ?_
  rintro e w1 ⟨M, P, v, l, rfl, hl, o1, hc, b1⟩
  obtain ⟨va, vc, rfl⟩ := (Rs.of_own o1).shape
  have R1 := Lib.hid (blk_keep HR0.out b1 (by omega))
  have T1 := Lib.hid (HB0.out.trans (b1.mono (by omega)))
  have O1 := Lib.hid o1
  have C1 := Lib.hid hc
  have hs1 := b1.size
  clear o1 hc b1 HC HB0 HR0
  clear C1
  have KZ := R1.out
  obtain ⟨r0, r1, r2⟩ := blk_cell3 KZ
  obtain ⟨s0, s1, s2⟩ := blk_froz3 KZ
  have Z := blk_all3 (x := .int .i64 M) (y := .int .i64 P) (z := .slice va l.length vc) KZ
  obtain ⟨z0, z1, z2⟩ := blk_cell3 Z
  have Z0 := Lib.hid z0
  have Z1 := Lib.hid z1
  have Z2 := Lib.hid z2
  have HTF := Lib.hid (below_all3 T1.out (b := w.heap.size) (Nat.le_refl _) (.int .i64 M) (.int .i64 P) (.slice va l.length vc))
  have HOF := Lib.hid (own_by O1.out (grown_all3 _ w.heap.size (.int .i64 M) (.int .i64 P) (.slice va l.length vc)) (fun h => by have := (O1.out.lt _ h).1; omega))
  clear Z z0 z1 z2 KZ
  go_wp2
  refine bodyPost_ret (v := .agg #[.int .i64 M, .int .i64 P, .slice va l.length vc]) (by simp [results, Tryd.results70, go_sem, Z0.out, Z1.out, Z2.out]) rfl (⟨_, _, _, l, rfl, hl, own_mono HOF.out (by omega), HTF.out⟩)
set_option maxRecDepth 100000 in
set_option maxHeartbeats 2000000 in
theorem DrawHoldsStill_any (a : Option Addr) (len cap : Nat) (w : World) (h : ByteRow w a len) :
    Calls Tryd.prog 37 #[.slice a len cap] w (D0Post w) := by
  have HB0 := Lib.hid ((Below.refl w.heap.size w).alloc (Nat.le_refl _) (.cells #[.int .i64 0, .int .i64 0, .slice none 0 0] 26))
  have HR0 := Lib.hid (blk_new3 w (.int .i64 0) (.int .i64 0) (.slice none 0 0) 26)
  have HH1 := Lib.hid (h.below HB0.out)
  have hs0 : (w.alloc (.cells #[.int .i64 0, .int .i64 0, .slice none 0 0] 26)).heap.size = w.heap.size + 1 := by simp
  clear h
  go_enter Tryd.func37, Tryd.ntmps37
  go_wp2_with fail
  refine (DrawIsDrive_any a len cap _ HH1.out).mono ?_
  rintro e w1 ⟨M, P, v, l, rfl, hl, o1, b1⟩
  obtain ⟨va, vc, rfl⟩ := (Rs.of_own o1).shape
  have R1 := Lib.hid (blk_keep HR0.out b1 (by omega))
  have T1 := Lib.hid (HB0.out.trans (b1.mono (by omega)))
  have O1 := Lib.hid o1
  have hs1 := b1.size
  clear o1 b1 HB0 HR0
  have KZ := R1.out
  obtain ⟨r0, r1, r2⟩ := blk_cell3 KZ
  obtain ⟨s0, s1, s2⟩ := blk_froz3 KZ
  have Z := blk_all3 (x := .int .i64 M) (y := .int .i64 P) (z := .slice va l.length vc) KZ
  obtain ⟨z0, z1, z2⟩ := blk_cell3 Z
  have Z0 := Lib.hid z0
  have Z1 := Lib.hid z1
  have Z2 := Lib.hid z2
  have HTF := Lib.hid (below_all3 T1.out (b := w.heap.size) (Nat.le_refl _) (.int .i64 M) (.int .i64 P) (.slice va l.length vc))
  have HOF := Lib.hid (own_by O1.out (grown_all3 _ w.heap.size (.int .i64 M) (.int .i64 P) (.slice va l.length vc)) (fun h => by have := (O1.out.lt _ h).1; omega))
  clear Z z0 z1 z2 KZ
  go_wp2
  refine bodyPost_ret (v := .agg #[.int .i64 M, .int .i64 P, .slice va l.length vc]) (by simp [results, Tryd.results37, go_sem, Z0.out, Z1.out, Z2.out]) rfl (⟨_, _, _, l, rfl, hl, own_mono HOF.out (by omega), HTF.out⟩)
set_option maxRecDepth 100000 in
set_option maxHeartbeats 2000000 in
theorem DrawBrakeSpeeds_any (a : Option Addr) (len cap : Nat) (w : World) (h : ByteRow w a len) :
    Calls Tryd.prog 24 #[.slice a len cap] w (D1Post w) := by
  have HB0 := Lib.hid (((Below.refl w.heap.size w).alloc (Nat.le_refl _) (.cells #[.int .i64 0, .int .i64 0, .slice none 0 0] 26)).alloc (by simp) (.cells #[.slice a len cap, .int .i64 0, .int .u64 0] 65))
  have HC := Lib.hid (cur_at (cap := cap) (h.below ((Below.refl w.heap.size w).alloc (Nat.le_refl _) (.cells #[.int .i64 0, .int .i64 0, .slice none 0 0] 26))) 65 (n := w.heap.size + 1) (by simp))
  have HR0 := Lib.hid (blk_stay (o' := .cells #[.slice a len cap, .int .i64 0, .int .u64 0] 65) (blk_new3 w (.int .i64 0) (.int .i64 0) (.slice none 0 0) 26))
  have hs0 : ((w.alloc (.cells #[.int .i64 0, .int .i64 0, .slice none 0 0] 26)).alloc (.cells #[.slice a len cap, .int .i64 0, .int .u64 0] 65)).heap.size = w.heap.size + 2 := by simp
  clear h
  go_enter Tryd.func24, Tryd.ntmps24
  go_wp2_with fail
  generalize hw0 : (w.alloc (.cells #[.int .i64 0, .int .i64 0, .slice none 0 0] 26)).alloc (.cells #[.slice a len cap, .int .i64 0, .int .u64 0] 65) = w0 at *
  clear hw0
  refine (drive_any (w.heap.size + 1) (w.heap.size + 1) 0 w0 HC.out (by omega)).mono ?_
  rintro e w1 ⟨M, P, v, l, rfl, hl, o1, hc, b1⟩
  obtain ⟨va, vc, rfl⟩ := (Rs.of_own o1).shape
  have R1 := Lib.hid (blk_keep HR0.out b1 (by omega))
  have T1 := Lib.hid (HB0.out.trans (b1.mono (by omega)))
  have O1 := Lib.hid o1
  have C1 := Lib.hid hc
  have hs1 := b1.size
  clear o1 hc b1 HC HB0 HR0
  go_wp2_with fail
  refine (speed_any _ _ _ _ C1.out (by omega)).mono ?_
  rintro e w2 ⟨p0, rfl, hc, hg⟩
  have R2 := Lib.hid (keepD hg (show w.heap.size ≠ w.heap.size + 1 by omega) R1.out)
  have T2 := Lib.hid (Below.trans T1.out (grown_below hg (by omega) (fun k hk => by cases hk; omega)))
  have O2 := Lib.hid (O1.out.kept hg (.inr (fun e => by have := (O1.out.lt _ e).1; omega)))
  have C2 := Lib.hid hc
  have hs2 := hg.size
  clear hc hg C1 R1 T1 O1
  clear C2
  have KZ := R2.out
  obtain ⟨r0, r1, r2⟩ := blk_cell3 KZ
  obtain ⟨s0, s1, s2⟩ := blk_froz3 KZ
  have Z := blk_all3 (x := .int .i64 M) (y := .int .i64 P) (z := .slice va l.length vc) KZ
  obtain ⟨z0, z1, z2⟩ := blk_cell3 Z
  have Z0 := Lib.hid z0
  have Z1 := Lib.hid z1
  have Z2 := Lib.hid z2
  have HTF := Lib.hid (below_all3 T2.out (b := w.heap.size) (Nat.le_refl _) (.int .i64 M) (.int .i64 P) (.slice va l.length vc))
  have HOF := Lib.hid (own_by O2.out (grown_all3 _ w.heap.size (.int .i64 M) (.int .i64 P) (.slice va l.length vc)) (fun h => by have := (O2.out.lt _ h).1; omega))
  clear Z z0 z1 z2 KZ
  go_wp2
  refine bodyPost_ret (v := .tuple #[.agg #[.int .i64 M, .int .i64 P, .slice va l.length vc], .int .i64 p0]) (by simp [results, Tryd.results24, go_sem, Z0.out, Z1.out, Z2.out]) rfl (⟨_, _, _, l, _, rfl, hl, own_mono HOF.out (by omega), HTF.out⟩)
set_option maxRecDepth 100000 in
set_option maxHeartbeats 2000000 in
theorem DrawWorstLoss_any (a : Option Addr) (len cap : Nat) (w : World) (h : ByteRow w a len) :
    Calls Tryd.prog 34 #[.slice a len cap] w (D1Post w) := by
  have HB0 := Lib.hid ((Below.refl w.heap.size w).alloc (Nat.le_refl _) (.cells #[.int .i64 0, .int .i64 0, .slice none 0 0] 26))
  have HR0 := Lib.hid (blk_new3 w (.int .i64 0) (.int .i64 0) (.slice none 0 0) 26)
  have HH1 := Lib.hid (h.below HB0.out)
  have hs0 : (w.alloc (.cells #[.int .i64 0, .int .i64 0, .slice none 0 0] 26)).heap.size = w.heap.size + 1 := by simp
  clear h
  go_enter Tryd.func34, Tryd.ntmps34
  go_wp2_with fail
  refine (DrawBrakeSpeeds_any a len cap _ HH1.out).mono ?_
  rintro e w1 ⟨M, P, v, l, p0, rfl, hl, o1, b1⟩
  obtain ⟨va, vc, rfl⟩ := (Rs.of_own o1).shape
  have R1 := Lib.hid (blk_keep HR0.out b1 (by omega))
  have T1 := Lib.hid (HB0.out.trans (b1.mono (by omega)))
  have O1 := Lib.hid o1
  have hs1 := b1.size
  clear o1 b1 HB0 HR0
  have KZ := R1.out
  obtain ⟨r0, r1, r2⟩ := blk_cell3 KZ
  obtain ⟨s0, s1, s2⟩ := blk_froz3 KZ
  have Z := blk_all3 (x := .int .i64 M) (y := .int .i64 P) (z := .slice va l.length vc) KZ
  obtain ⟨z0, z1, z2⟩ := blk_cell3 Z
  have Z0 := Lib.hid z0
  have Z1 := Lib.hid z1
  have Z2 := Lib.hid z2
  have HTF := Lib.hid (below_all3 T1.out (b := w.heap.size) (Nat.le_refl _) (.int .i64 M) (.int .i64 P) (.slice va l.length vc))
  have HOF := Lib.hid (own_by O1.out (grown_all3 _ w.heap.size (.int .i64 M) (.int .i64 P) (.slice va l.length vc)) (fun h => by have := (O1.out.lt _ h).1; omega))
  clear Z z0 z1 z2 KZ
  go_wp2
  refine bodyPost_ret (v := .tuple #[.agg #[.int .i64 M, .int .i64 P, .slice va l.length vc], .int .i64 p0]) (by simp [results, Tryd.results34, go_sem, Z0.out, Z1.out, Z2.out]) rfl (⟨_, _, _, l, _, rfl, hl, own_mono HOF.out (by omega), HTF.out⟩)
set_option maxRecDepth 100000 in
set_option maxHeartbeats 2000000 in
theorem DrawFewestBrakes_any (a : Option Addr) (len cap : Nat) (w : World) (h : ByteRow w a len) :
    Calls Tryd.prog 14 #[.slice a len cap] w (D2Post w) := by
  have HB0 := Lib.hid (((Below.refl w.heap.size w).alloc (Nat.le_refl _) (.cells #[.int .i64 0, .int .i64 0, .slice none 0 0] 26)).alloc (by simp) (.cells #[.slice a len cap, .int .i64 0, .int .u64 0] 65))
  have HC := Lib.hid (cur_at (cap := cap) (h.below ((Below.refl w.heap.size w).alloc (Nat.le_refl _) (.cells #[.int .i64 0, .int .i64 0, .slice none 0 0] 26))) 65 (n := w.heap.size + 1) (by simp))
  have HR0 := Lib.hid (blk_stay (o' := .cells #[.slice a len cap, .int .i64 0, .int .u64 0] 65) (blk_new3 w (.int .i64 0) (.int .i64 0) (.slice none 0 0) 26))
  have hs0 : ((w.alloc (.cells #[.int .i64 0, .int .i64 0, .slice none 0 0] 26)).alloc (.cells #[.slice a len cap, .int .i64 0, .int .u64 0] 65)).heap.size = w.heap.size + 2 := by simp
  clear h
  go_enter Tryd.func14, Tryd.ntmps14
  go_wp2_with fail
  generalize hw0 : (w.alloc (.cells #[.int .i64 0, .int .i64 0, .slice none 0 0] 26)).alloc (.cells #[.slice a len cap, .int .i64 0, .int .u64 0] 65) = w0 at *
  clear hw0
  refine (drive_any (w.heap.size + 1) (w.heap.size + 1) 0 w0 HC.out (by omega)).mono ?_
  rintro e w1 ⟨M, P, v, l, rfl, hl, o1, hc, b1⟩
  obtain ⟨va, vc, rfl⟩ := (Rs.of_own o1).shape
  have R1 := Lib.hid (blk_keep HR0.out b1 (by omega))
  have T1 := Lib.hid (HB0.out.trans (b1.mono (by omega)))
  have O1 := Lib.hid o1
  have C1 := Lib.hid hc
  have hs1 := b1.size
  clear o1 hc b1 HC HB0 HR0
  go_wp2_with fail
  refine (speed_any _ _ _ _ C1.out (by omega)).mono ?_
  rintro e w2 ⟨p0, rfl, hc, hg⟩
  have R2 := Lib.hid (keepD hg (show w.heap.size ≠ w.heap.size + 1 by omega) R1.out)
  have T2 := Lib.hid (Below.trans T1.out (grown_below hg (by omega) (fun k hk => by cases hk; omega)))
  have O2 := Lib.hid (O1.out.kept hg (.inr (fun e => by have := (O1.out.lt _ e).1; omega)))
  have C2 := Lib.hid hc
  have hs2 := hg.size
  clear hc hg C1 R1 T1 O1
  go_wp2_with fail
  refine (among_any _ _ _ w2.heap.size 6 6 [0, 50, 200, 1000, 5000, -1] _ (C2.out.alloc _) (by omega) rfl (by omega) (by omega) (by omega) (num_cells w2 3 [0, 50, 200, 1000, 5000, -1] _ rfl)).mono ?_
  rintro e w3 ⟨p1, hx, rfl, hc, hg⟩
  have hz3 := hg.size
  simp at hz3
  have R3 := Lib.hid (keepD hg (show w.heap.size ≠ w.heap.size + 1 by omega) (blk_stay (o' := .cells #[.int .i64 0, .int .i64 50, .int .i64 200, .int .i64 1000, .int .i64 5000, .int .i64 (-1)] 3) R2.out))
  have T3 := Lib.hid (Below.trans (T2.out.alloc (by omega) (.cells #[.int .i64 0, .int .i64 50, .int .i64 200, .int .i64 1000, .int .i64 5000, .int .i64 (-1)] 3)) (grown_below hg (by simp; omega) (fun k hk => by cases hk; omega)))
  have O3 := Lib.hid ((O2.out.alloc (.cells #[.int .i64 0, .int .i64 50, .int .i64 200, .int .i64 1000, .int .i64 5000, .int .i64 (-1)] 3)).kept hg (.inr (fun e => by have := (O2.out.lt _ e).1; omega)))
  have C3 := Lib.hid hc
  have hs3 : w1.heap.size ≤ w3.heap.size := by omega
  clear hc hg C2 R2 T2 O2
  clear C3
  have KZ := R3.out
  obtain ⟨r0, r1, r2⟩ := blk_cell3 KZ
  obtain ⟨s0, s1, s2⟩ := blk_froz3 KZ
  have Z := blk_all3 (x := .int .i64 M) (y := .int .i64 P) (z := .slice va l.length vc) KZ
  obtain ⟨z0, z1, z2⟩ := blk_cell3 Z
  have Z0 := Lib.hid z0
  have Z1 := Lib.hid z1
  have Z2 := Lib.hid z2
  have HTF := Lib.hid (below_all3 T3.out (b := w.heap.size) (Nat.le_refl _) (.int .i64 M) (.int .i64 P) (.slice va l.length vc))
  have HOF := Lib.hid (own_by O3.out (grown_all3 _ w.heap.size (.int .i64 M) (.int .i64 P) (.slice va l.length vc)) (fun h => by have := (O3.out.lt _ h).1; omega))
  clear Z z0 z1 z2 KZ
  go_wp2
  refine bodyPost_ret (v := .tuple #[.agg #[.int .i64 M, .int .i64 P, .slice va l.length vc], .int .i64 p0, .int .i64 p1]) (by simp [results, Tryd.results14, go_sem, Z0.out, Z1.out, Z2.out]) rfl (⟨_, _, _, l, _, _, rfl, hl, own_mono HOF.out (by omega), HTF.out⟩)
set_option maxRecDepth 100000 in
set_option maxHeartbeats 2000000 in
theorem DrawSafeSpeed_any (a : Option Addr) (len cap : Nat) (w : World) (h : ByteRow w a len) :
    Calls Tryd.prog 28 #[.slice a len cap] w (D1Post w) := by
  have HB0 := Lib.hid (((Below.refl w.heap.size w).alloc (Nat.le_refl _) (.cells #[.int .i64 0, .int .i64 0, .slice none 0 0] 26)).alloc (by simp) (.cells #[.slice a len cap, .int .i64 0, .int .u64 0] 65))
  have HC := Lib.hid (cur_at (cap := cap) (h.below ((Below.refl w.heap.size w).alloc (Nat.le_refl _) (.cells #[.int .i64 0, .int .i64 0, .slice none 0 0] 26))) 65 (n := w.heap.size + 1) (by simp))
  have HR0 := Lib.hid (blk_stay (o' := .cells #[.slice a len cap, .int .i64 0, .int .u64 0] 65) (blk_new3 w (.int .i64 0) (.int .i64 0) (.slice none 0 0) 26))
  have hs0 : ((w.alloc (.cells #[.int .i64 0, .int .i64 0, .slice none 0 0] 26)).alloc (.cells #[.slice a len cap, .int .i64 0, .int .u64 0] 65)).heap.size = w.heap.size + 2 := by simp
  clear h
  go_enter Tryd.func28, Tryd.ntmps28
  go_wp2_with fail
  generalize hw0 : (w.alloc (.cells #[.int .i64 0, .int .i64 0, .slice none 0 0] 26)).alloc (.cells #[.slice a len cap, .int .i64 0, .int .u64 0] 65) = w0 at *
  clear hw0
  refine (drive_any (w.heap.size + 1) (w.heap.size + 1) 0 w0 HC.out (by omega)).mono ?_
  rintro e w1 ⟨M, P, v, l, rfl, hl, o1, hc, b1⟩
  obtain ⟨va, vc, rfl⟩ := (Rs.of_own o1).shape
  have R1 := Lib.hid (blk_keep HR0.out b1 (by omega))
  have T1 := Lib.hid (HB0.out.trans (b1.mono (by omega)))
  have O1 := Lib.hid o1
  have C1 := Lib.hid hc
  have hs1 := b1.size
  clear o1 hc b1 HC HB0 HR0
  go_wp2_with fail
  refine (among_any _ _ _ w1.heap.size 6 6 [0, 50, 200, 1000, 5000, -1] _ (C1.out.alloc _) (by omega) rfl (by omega) (by omega) (by omega) (num_cells w1 3 [0, 50, 200, 1000, 5000, -1] _ rfl)).mono ?_
  rintro e w2 ⟨p0, hx, rfl, hc, hg⟩
  have hz2 := hg.size
  simp at hz2
  have R2 := Lib.hid (keepD hg (show w.heap.size ≠ w.heap.size + 1 by omega) (blk_stay (o' := .cells #[.int .i64 0, .int .i64 50, .int .i64 200, .int .i64 1000, .int .i64 5000, .int .i64 (-1)] 3) R1.out))
  have T2 := Lib.hid (Below.trans (T1.out.alloc (by omega) (.cells #[.int .i64 0, .int .i64 50, .int .i64 200, .int .i64 1000, .int .i64 5000, .int .i64 (-1)] 3)) (grown_below hg (by simp; omega) (fun k hk => by cases hk; omega)))
  have O2 := Lib.hid ((O1.out.alloc (.cells #[.int .i64 0, .int .i64 50, .int .i64 200, .int .i64 1000, .int .i64 5000, .int .i64 (-1)] 3)).kept hg (.inr (fun e => by have := (O1.out.lt _ e).1; omega)))
  have C2 := Lib.hid hc
  have hs2 : w1.heap.size ≤ w2.heap.size := by omega
  clear hc hg C1 R1 T1 O1
  clear C2
  have KZ := R2.out
  obtain ⟨r0, r1, r2⟩ := blk_cell3 KZ
  obtain ⟨s0, s1, s2⟩ := blk_froz3 KZ
  have Z := blk_all3 (x := .int .i64 M) (y := .int .i64 P) (z := .slice va l.length vc) KZ
  obtain ⟨z0, z1, z2⟩ := blk_cell3 Z
  have Z0 := Lib.hid z0
  have Z1 := Lib.hid z1
  have Z2 := Lib.hid z2
  have HTF := Lib.hid (below_all3 T2.out (b := w.heap.size) (Nat.le_refl _) (.int .i64 M) (.int .i64 P) (.slice va l.length vc))
  have HOF := Lib.hid (own_by O2.out (grown_all3 _ w.heap.size (.int .i64 M) (.int .i64 P) (.slice va l.length vc)) (fun h => by have := (O2.out.lt _ h).1; omega))
  clear Z z0 z1 z2 KZ
  go_wp2
  refine bodyPost_ret (v := .tuple #[.agg #[.int .i64 M, .int .i64 P, .slice va l.length vc], .int .i64 p0]) (by simp [results, Tryd.results28, go_sem, Z0.out, Z1.out, Z2.out]) rfl (⟨_, _, _, l, _, rfl, hl, own_mono HOF.out (by omega), HTF.out⟩)
set_option maxRecDepth 100000 in
set_option maxHeartbeats 2000000 in
theorem DrawWorstPull_any (a : Option Addr) (len cap : Nat) (w : World) (h : ByteRow w a len) :
    Calls Tryd.prog 31 #[.slice a len cap] w (D3Post w) := by
  have HB0 := Lib.hid (((Below.refl w.heap.size w).alloc (Nat.le_refl _) (.cells #[.int .i64 0, .int .i64 0, .slice none 0 0] 26)).alloc (by simp) (.cells #[.slice a len cap, .int .i64 0, .int .u64 0] 65))
  have HC := Lib.hid (cur_at (cap := cap) (h.below ((Below.refl w.heap.size w).alloc (Nat.le_refl _) (.cells #[.int .i64 0, .int .i64 0, .slice none 0 0] 26))) 65 (n := w.heap.size + 1) (by simp))
  have HR0 := Lib.hid (blk_stay (o' := .cells #[.slice a len cap, .int .i64 0, .int .u64 0] 65) (blk_new3 w (.int .i64 0) (.int .i64 0) (.slice none 0 0) 26))
  have hs0 : ((w.alloc (.cells #[.int .i64 0, .int .i64 0, .slice none 0 0] 26)).alloc (.cells #[.slice a len cap, .int .i64 0, .int .u64 0] 65)).heap.size = w.heap.size + 2 := by simp
  clear h
  go_enter Tryd.func31, Tryd.ntmps31
  go_wp2_with fail
  generalize hw0 : (w.alloc (.cells #[.int .i64 0, .int .i64 0, .slice none 0 0] 26)).alloc (.cells #[.slice a len cap, .int .i64 0, .int .u64 0] 65) = w0 at *
  clear hw0
  refine (among_any (w.heap.size + 1) (w.heap.size + 1) 0 (w.heap.size + 2) 7 7 [-100000, -100, 0, 0, 50, 100000, -100001] _ (HC.out.alloc _) (by omega) rfl (by omega) (by omega) (by omega) (num_cells1 _ 3 [-100000, -100, 0, 0, 50, 100000, -100001] _ rfl _ (by omega))).mono ?_
  rintro e wl ⟨p1, hx, rfl, hc, hg⟩
  have hlb : -100001 ≤ p1 ∧ p1 ≤ 100000 := by simp at hx; omega
  have hzl := hg.size
  simp at hzl
  have RL := Lib.hid (keepD hg (show w.heap.size ≠ w.heap.size + 1 by omega) (blk_stay (o' := .cells #[.int .i64 (-100000), .int .i64 (-100), .int .i64 0, .int .i64 0, .int .i64 50, .int .i64 100000, .int .i64 (-100001)] 3) HR0.out))
  have TL := Lib.hid (Below.trans (HB0.out.alloc (by omega) (.cells #[.int .i64 (-100000), .int .i64 (-100), .int .i64 0, .int .i64 0, .int .i64 50, .int .i64 100000, .int .i64 (-100001)] 3)) (grown_below hg (by simp; omega) (fun k hk => by cases hk; omega)))
  have CL := Lib.hid hc
  clear hc hg hx HC HB0 HR0
  go_wp2_with fail
  refine (drive_any (w.heap.size + 1) (w.heap.size + 1) (0 + 2) wl CL.out (by omega)).mono ?_
  rintro e w1 ⟨M, P, v, l, rfl, hl, o1, hc, b1⟩
  obtain ⟨va, vc, rfl⟩ := (Rs.of_own o1).shape
  have R1 := Lib.hid (blk_keep RL.out b1 (by omega))
  have T1 := Lib.hid (TL.out.trans (b1.mono (by omega)))
  have O1 := Lib.hid o1
  have C1 := Lib.hid hc
  have hs1 := b1.size
  clear o1 hc b1 CL TL RL
  go_wp2_with fail
  refine (speed_any _ _ _ _ C1.out (by omega)).mono ?_
  rintro e w2 ⟨p0, rfl, hc, hg⟩
  have R2 := Lib.hid (keepD hg (show w.heap.size ≠ w.heap.size + 1 by omega) R1.out)
  have T2 := Lib.hid (Below.trans T1.out (grown_below hg (by omega) (fun k hk => by cases hk; omega)))
  have O2 := Lib.hid (O1.out.kept hg (.inr (fun e => by have := (O1.out.lt _ e).1; omega)))
  have C2 := Lib.hid hc
  have hs2 := hg.size
  clear hc hg C1 R1 T1 O1
  go_wp2_with fail
  refine (among_any _ _ _ w2.heap.size 7 7 [0, 1, 10, 50, 100, 101, -1] _ (C2.out.alloc _) (by omega) rfl (by omega) (by omega) (by omega) (num_cells w2 3 [0, 1, 10, 50, 100, 101, -1] _ rfl)).mono ?_
  rintro e w3 ⟨y, hx, rfl, hc, hg⟩
  have hz3 := hg.size
  simp at hz3
  have R3 := Lib.hid (keepD hg (show w.heap.size ≠ w.heap.size + 1 by omega) (blk_stay (o' := .cells #[.int .i64 0, .int .i64 1, .int .i64 10, .int .i64 50, .int .i64 100, .int .i64 101, .int .i64 (-1)] 3) R2.out))
  have T3 := Lib.hid (Below.trans (T2.out.alloc (by omega) (.cells #[.int .i64 0, .int .i64 1, .int .i64 10, .int .i64 50, .int .i64 100, .int .i64 101, .int .i64 (-1)] 3)) (grown_below hg (by simp; omega) (fun k hk => by cases hk; omega)))
  have O3 := Lib.hid ((O2.out.alloc (.cells #[.int .i64 0, .int .i64 1, .int .i64 10, .int .i64 50, .int .i64 100, .int .i64 101, .int .i64 (-1)] 3)).kept hg (.inr (fun e => by have := (O2.out.lt _ e).1; omega)))
  have C3 := Lib.hid hc
  have hs3 : w1.heap.size ≤ w3.heap.size := by omega
  have hyb : -1 ≤ y ∧ y ≤ 101 := by simp at hx; omega
  clear hc hg C2 R2 T2 O2
  clear C3
  have q1 : IntKind.i64.wrap (p1 + y) = p1 + y := IntWalk.i64_in _ (by omega)
  have KZ := R3.out
  obtain ⟨r0, r1, r2⟩ := blk_cell3 KZ
  obtain ⟨s0, s1, s2⟩ := blk_froz3 KZ
  have Z := blk_all3 (x := .int .i64 M) (y := .int .i64 P) (z := .slice va l.length vc) KZ
  obtain ⟨z0, z1, z2⟩ := blk_cell3 Z
  have Z0 := Lib.hid z0
  have Z1 := Lib.hid z1
  have Z2 := Lib.hid z2
  have HTF := Lib.hid (below_all3 T3.out (b := w.heap.size) (Nat.le_refl _) (.int .i64 M) (.int .i64 P) (.slice va l.length vc))
  have HOF := Lib.hid (own_by O3.out (grown_all3 _ w.heap.size (.int .i64 M) (.int .i64 P) (.slice va l.length vc)) (fun h => by have := (O3.out.lt _ h).1; omega))
  clear Z z0 z1 z2 KZ
  go_wp2
  refine bodyPost_ret (v := .tuple #[.agg #[.int .i64 M, .int .i64 P, .slice va l.length vc], .int .i64 p0, .int .i64 p1, .int .i64 (p1 + y)]) (by simp [results, Tryd.results31, go_sem, Z0.out, Z1.out, Z2.out]) rfl (⟨_, _, _, l, _, _, _, rfl, hl, own_mono HOF.out (by omega), HTF.out⟩)
set_option maxRecDepth 100000 in
set_option maxHeartbeats 4000000 in
theorem DrawWayWithout_any (a : Option Addr) (len cap : Nat) (w : World) (h : ByteRow w a len) :
    Calls Tryd.prog 21 #[.slice a len cap] w (D2Post w) := by
  have HB0 := Lib.hid (((Below.refl w.heap.size w).alloc (Nat.le_refl _) (.cells #[.int .i64 0, .int .i64 0, .slice none 0 0] 26)).alloc (by simp) (.cells #[.slice a len cap, .int .i64 0, .int .u64 0] 65))
  have HC := Lib.hid (cur_at (cap := cap) (h.below ((Below.refl w.heap.size w).alloc (Nat.le_refl _) (.cells #[.int .i64 0, .int .i64 0, .slice none 0 0] 26))) 65 (n := w.heap.size + 1) (by simp))
  have HR0 := Lib.hid (blk_stay (o' := .cells #[.slice a len cap, .int .i64 0, .int .u64 0] 65) (blk_new3 w (.int .i64 0) (.int .i64 0) (.slice none 0 0) 26))
  have hs0 : ((w.alloc (.cells #[.int .i64 0, .int .i64 0, .slice none 0 0] 26)).alloc (.cells #[.slice a len cap, .int .i64 0, .int .u64 0] 65)).heap.size = w.heap.size + 2 := by simp
  clear h
  go_enter Tryd.func21, Tryd.ntmps21
  go_wp2_with fail
  generalize hw0 : (w.alloc (.cells #[.int .i64 0, .int .i64 0, .slice none 0 0] 26)).alloc (.cells #[.slice a len cap, .int .i64 0, .int .u64 0] 65) = w0 at *
  clear hw0
  refine (drive_any (w.heap.size + 1) (w.heap.size + 1) 0 w0 HC.out (by omega)).mono ?_
  rintro e w1 ⟨M, P, v, l, rfl, hl, o1, hc, b1⟩
  obtain ⟨va, vc, rfl⟩ := (Rs.of_own o1).shape
  have R1 := Lib.hid (blk_keep HR0.out b1 (by omega))
  have T1 := Lib.hid (HB0.out.trans (b1.mono (by omega)))
  have O1 := Lib.hid o1
  have C1 := Lib.hid hc
  have hs1 := b1.size
  clear o1 hc b1 HC HB0 HR0
  have K2 := Lib.hid (blk_new3 w1 (.int .i64 M) (.int .i64 P) (.slice va l.length vc) 26)
  have R2 := Lib.hid (blk_stay (o' := .cells #[.int .i64 M, .int .i64 P, .slice va l.length vc] 26) R1.out)
  have T2 := Lib.hid (T1.out.alloc (by omega) (.cells #[.int .i64 M, .int .i64 P, .slice va l.length vc] 26))
  have O2 := Lib.hid (O1.out.alloc (.cells #[.int .i64 M, .int .i64 P, .slice va l.length vc] 26))
  have C2 := Lib.hid (C1.out.alloc (.cells #[.int .i64 M, .int .i64 P, .slice va l.length vc] 26))
  have hs2 : (w1.alloc (.cells #[.int .i64 M, .int .i64 P, .slice va l.length vc] 26)).heap.size = w1.heap.size + 1 := by simp
  clear R1 T1 O1 C1
  have e1 : IntKind.i64.wrap ((l.length : Int) + 1) = ((l.length + 1 : Nat) : Int) := by rw [show (l.length : Int) + 1 = ((l.length + 1 : Nat) : Int) by omega]; exact IntWalk.i64_in _ (by omega)
  go_upto_region 3 with fail
  generalize hw2 : w1.alloc (.cells #[.int .i64 M, .int .i64 P, .slice va l.length vc] 26) = w2 at *
  clear hw2
  obtain ⟨k0, k1, k2⟩ := blk_cell3 K2.out
  have HKS : Hid (∀ W : World, w2.grownBy W (some (w.heap.size + 1)) → W.cell? ⟨w1.heap.size, 0, none⟩ = some (.int .i64 M) ∧ W.cell? ⟨w1.heap.size, 1, none⟩ = some (.int .i64 P) ∧ W.cell? ⟨w1.heap.size, 2, none⟩ = some (.slice va l.length vc)) := Lib.hid (fun W h => blk_cell3 (keepD h (show w1.heap.size ≠ w.heap.size + 1 by omega) K2.out))
  have HKR : Hid (∀ W : World, w2.grownBy W (some (w.heap.size + 1)) → (((W.setCell ⟨w.heap.size, 0, none⟩ (.int .i64 M)).setCell ⟨w.heap.size, 1, none⟩ (.int .i64 P)).setCell ⟨w.heap.size, 2, none⟩ (.slice va l.length vc)).cell? ⟨w1.heap.size, 0, none⟩ = some (.int .i64 M) ∧ (((W.setCell ⟨w.heap.size, 0, none⟩ (.int .i64 M)).setCell ⟨w.heap.size, 1, none⟩ (.int .i64 P)).setCell ⟨w.heap.size, 2, none⟩ (.slice va l.length vc)).cell? ⟨w1.heap.size, 1, none⟩ = some (.int .i64 P) ∧ (((W.setCell ⟨w.heap.size, 0, none⟩ (.int .i64 M)).setCell ⟨w.heap.size, 1, none⟩ (.int .i64 P)).setCell ⟨w.heap.size, 2, none⟩ (.slice va l.length vc)).cell? ⟨w1.heap.size, 2, none⟩ = some (.slice va l.length vc)) := Lib.hid (fun W h => blk_cell3 (((blk_by (by omega)).trans ((blk_by (by omega)).trans (blk_by (by omega)))).trans (keepD h (show w1.heap.size ≠ w.heap.size + 1 by omega) K2.out)))
  go_region_held3 (fun w' => w'.cell? ⟨w1.heap.size, 0, none⟩ = some (.int .i64 M) ∧ w'.cell? ⟨w1.heap.size, 1, none⟩ = some (.int .i64 P) ∧ w'.cell? ⟨w1.heap.size, 2, none⟩ = some (.slice va l.length vc))
    (first | exact HKS.out _ (by (repeat (first | with_reducible exact G6 | with_reducible exact G5 | with_reducible exact G4 | with_reducible exact World.grownBy.refl _ _ | with_reducible refine gr_drew ?_)); first | done | fail) | exact HKR.out _ (by (repeat (first | with_reducible exact G6 | with_reducible exact G5 | with_reducible exact G4 | with_reducible exact World.grownBy.refl _ _ | with_reducible refine gr_drew ?_)); first | done | fail))
    (first
      | (go_at_call 63; refine (pick_any (w.heap.size + 1) (w.heap.size + 1) (0 + 60 + 2 + 2) 9 W5 hc5 (by omega) (by omega) (by omega)).mono ?_; rintro e W6 ⟨r2, rfl, hr2, hc6, hg6⟩; have G6 : w2.grownBy W6 (some (w.heap.size + 1)) := grown_trans G5 hg6; obtain ⟨c, hc01, t1⟩ : ∃ c : Int, (0 ≤ c ∧ c ≤ 1) ∧ Int.tdiv (r2 : Int) 8 = c := ⟨Int.tdiv (r2 : Int) 8, by rw [Int.tdiv_eq_ediv_of_nonneg (by omega)]; omega, rfl⟩; have s3 : IntKind.i64.wrap c = c := IntWalk.i64_in _ (by omega); obtain ⟨p, hp⟩ : ∃ p, p = (r : Int) - c := ⟨_, rfl⟩; have s4 : IntKind.i64.wrap ((r : Int) - c) = p := (by rw [hp]; exact IntWalk.i64_in _ (by omega)); have R6 : W6.heap[w.heap.size]? = some (.cells #[.int .i64 0, .int .i64 0, .slice none 0 0] 26 (0, 0)) := keepD G6 (show w.heap.size ≠ w.heap.size + 1 by omega) R2.out; obtain ⟨r0, r1, r2⟩ := blk_cell3 R6; obtain ⟨s0, s1, s2⟩ := blk_froz3 R6)
      | (go_at_call 63; refine (pick_any (w.heap.size + 1) (w.heap.size + 1) (0 + 60 + 2) ((l.length + 1 : Nat) : Int) W4 hc4 (by omega) (by omega) (by omega)).mono ?_; rintro e W5 ⟨r, rfl, hr, hc5, hg5⟩; have G5 : w2.grownBy W5 (some (w.heap.size + 1)) := grown_trans G4 hg5)
      | (go_at_call 48; refine (speed_any (w.heap.size + 1) (w.heap.size + 1) (0 + 60) _ (by first | with_reducible exact C2.out | with_reducible exact C2.out.drew1 | exact C2.out.drew1 | fail) (by omega)).mono ?_; rintro e W4 ⟨q, rfl, hc4, hg4⟩; have G4 : w2.grownBy W4 (some (w.heap.size + 1)) := grown_trans (by (repeat (first | with_reducible exact World.grownBy.refl _ _ | with_reducible refine gr_drew ?_)); first | done | fail) hg4)
      | fail)
  have Z := blk_all3 (x := .int .i64 M) (y := .int .i64 P) (z := .slice va l.length vc) R6
  obtain ⟨z0, z1, z2⟩ := blk_cell3 Z
  have Z0 := Lib.hid z0
  have Z1 := Lib.hid z1
  have Z2 := Lib.hid z2
  have T6 := Below.trans T2.out (grown_below G6 (by omega) (fun k hk => by cases hk; omega))
  have O6 := O2.out.kept G6 (.inr (fun e => by have := (O2.out.lt _ e).1; omega))
  have HTF := Lib.hid (below_all3 T6 (b := w.heap.size) (Nat.le_refl _) (.int .i64 M) (.int .i64 P) (.slice va l.length vc))
  have HOF := Lib.hid (own_by O6 (grown_all3 _ w.heap.size (.int .i64 M) (.int .i64 P) (.slice va l.length vc)) (fun h => by have := (O6.lt _ h).1; omega))
  clear Z z0 z1 z2 R6
  go_wp2
  refine bodyPost_ret (v := .tuple #[.agg #[.int .i64 M, .int .i64 P, .slice va l.length vc], .int .i64 q, .int .i64 p]) (by simp [results, Tryd.results21, go_sem, Z0.out, Z1.out, Z2.out]; try exact hp.symm) rfl (⟨_, _, _, l, q, p, rfl, hl, own_mono HOF.out (by omega), HTF.out⟩)
end Go.Proofs.YthmoogkllpcebaaDoor
