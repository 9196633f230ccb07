/- A Drive, by value: what the laws do with it. Condition: sizes. -/
import Derived.Test.YthmoogkllpcebaaDoorBrkM
import Derived.Test.YthmoogkllpcebaaDoorBlk3
namespace Go.Proofs.YthmoogkllpcebaaDoor
open Go.RowKit
set_option linter.unusedVariables false
set_option maxHeartbeats 400000 in
theorem szDrive_ok (L S : Int) (v : Value) (l : List Brk) (left : Int) (w : World) (hr : Rs w v l.length (brks l)) (hl : left ≤ 1048576) (h : (l.length : Int) ≤ left) :
    Calls Tryd.prog 40 #[.agg #[.int .i64 L, .int .i64 S, v], .int .i64 left] w fun e w' => e = .returned (.int .i64 (left - (l.length : Int))) ∧ Below w.heap.size w w' := by
  have HR := Lib.hid hr
  obtain ⟨a, ca, rfl⟩ := hr.shape
  clear hr
  go_enter Tryd.func40, Tryd.ntmps40
  go_wp2_with fail
  refine (szBrakeS_ok _ l.length (brks l) left _ (HR.out.below (B := w.heap.size) ((Below.refl _ _).alloc (Nat.le_refl _) _) rfl) hl h).mono ?_
  rintro e w1 ⟨rfl, rfl⟩
  have hx : ¬ (left - (l.length : Int) < 0) := by omega
  go_wp2
  go_ret
  exact ⟨rfl, (Below.refl _ _).alloc (Nat.le_refl _) _⟩
set_option maxHeartbeats 400000 in
theorem szDrive_big (L S : Int) (v : Value) (l : List Brk) (left : Int) (w : World) (hr : Rs w v l.length (brks l)) (hn : l.length ≤ maxLen) (hl : left ≤ 1048576) (h0 : 0 ≤ left) (h : left < (l.length : Int)) :
    Calls Tryd.prog 40 #[.agg #[.int .i64 L, .int .i64 S, v], .int .i64 left] w fun e w' => e = .returned (.int .i64 (-1)) ∧ Below w.heap.size w w' := by
  have HR := Lib.hid hr
  obtain ⟨a, ca, rfl⟩ := hr.shape
  clear hr
  go_enter Tryd.func40, Tryd.ntmps40
  go_wp2_with fail
  refine (szBrakeS_big _ l.length (brks l) left _ (HR.out.below (B := w.heap.size) ((Below.refl _ _).alloc (Nat.le_refl _) _) rfl) hn hl h0 h).mono ?_
  rintro e w1 ⟨rfl, rfl⟩
  go_wp2
  go_ret
  exact ⟨rfl, (Below.refl _ _).alloc (Nat.le_refl _) _⟩
set_option maxHeartbeats 1000000 in
theorem toDrive_any (L S : Int) (v : Value) (l : List Brk) (w : World) (hr : Rs w v l.length (brks l)) (hln : l.length ≤ 1048576) :
    Calls Tryd.prog 41 #[.agg #[.int .i64 L, .int .i64 S, v]] w fun e w' => ∃ v', e = .returned (.agg #[.int .i64 L, .int .i64 S, v']) ∧ w'.ownsRow w.heap.size 35 2 v' l.length (brks l) ∧ Below w.heap.size w w' := by
  have HR := Lib.hid hr
  obtain ⟨a, ca, rfl⟩ := hr.shape
  clear hr
  go_enter Tryd.func41, Tryd.ntmps41
  go_wp2_with fail
  have hbl := ((((Below.refl w.heap.size w).alloc (Nat.le_refl _) (.cells #[.int .i64 L, .int .i64 S, .slice a l.length ca] 52)).alloc (by simp) (.cells #[.int .i64 0, .int .i64 0, .slice none 0 0] 26)).alloc (by simp; omega) (.cells #[.int .i64 L, .int .i64 S, .slice none 0 0] 26))
  have k0 := blk_stay (o' := .cells #[.int .i64 L, .int .i64 S, .slice none 0 0] 26) (blk_new3 (w.alloc (.cells #[.int .i64 L, .int .i64 S, .slice a l.length ca] 52)) (.int .i64 0) (.int .i64 0) (.slice none 0 0) 26)
  have k1 := blk_new3 ((w.alloc (.cells #[.int .i64 L, .int .i64 S, .slice a l.length ca] 52)).alloc (.cells #[.int .i64 0, .int .i64 0, .slice none 0 0] 26)) (.int .i64 L) (.int .i64 S) (.slice none 0 0) 26
  simp only [World.size_alloc] at k0 k1
  generalize hW0 : ((w.alloc (.cells #[.int .i64 L, .int .i64 S, .slice a l.length ca] 52)).alloc (.cells #[.int .i64 0, .int .i64 0, .slice none 0 0] 26)).alloc (.cells #[.int .i64 L, .int .i64 S, .slice none 0 0] 26) = W0 at *
  have hs0 : W0.heap.size = w.heap.size + 3 := by rw [← hW0]; simp
  clear hW0
  refine (toBrakeS_any _ l _ (HR.out.below hbl rfl) hln).mono ?_
  rintro e w1 ⟨v', rfl, o1, b1⟩
  obtain ⟨a', c', rfl⟩ := (Rs.of_own o1).shape
  have K0 := blk_keep k0 b1 (by omega)
  have K1 := blk_keep k1 b1 (by omega)
  have hs1 := b1.size
  have T1 := Lib.hid (hbl.trans (b1.mono hbl.size))
  have HB := Lib.hid (betw_of o1)
  have HO := Lib.hid (own_by (b := w.heap.size + 1 + 1) (own_mono o1 hbl.size) (grown_put w1 ⟨w.heap.size + 1 + 1, 2, none⟩ (.slice a' l.length c')) (fun h => by have := (HB.out _ h).1; omega))
  clear k0 k1 hbl o1 b1
  obtain ⟨p0, p1, p2⟩ := blk_cell3 K1
  obtain ⟨m0, m1, m2⟩ := blk_froz3 K1
  have K2 := blk_put (i := 2) (v := .slice a' l.length c') K1
  have K3 : (w1.setCell ⟨w.heap.size + 1 + 1, 2, none⟩ (.slice a' l.length c')).heap[w.heap.size + 1]? = some (.cells #[.int .i64 0, .int .i64 0, .slice none 0 0] 26 (0, 0)) := (blk_by (by omega)).trans K0
  have T2 := Lib.hid (T1.out.setCell (p := ⟨w.heap.size + 1 + 1, 2, none⟩) (by show w.heap.size ≤ w.heap.size + 1 + 1; omega) (.slice a' l.length c'))
  simp at K2
  obtain ⟨q0, q1, q2⟩ := blk_cell3 K2
  obtain ⟨r0, r1, r2⟩ := blk_cell3 K3
  obtain ⟨s0, s1, s2⟩ := blk_froz3 K3
  have Z := blk_all3 (x := .int .i64 L) (y := .int .i64 S) (z := .slice a' l.length c') K3
  obtain ⟨z0, z1, z2⟩ := blk_cell3 Z
  have Z0 := Lib.hid z0
  have Z1 := Lib.hid z1
  have Z2 := Lib.hid z2
  have HOF := Lib.hid (own_by HO.out (grown_all3 (w1.setCell ⟨w.heap.size + 1 + 1, 2, none⟩ (.slice a' l.length c')) (w.heap.size + 1) (.int .i64 L) (.int .i64 S) (.slice a' l.length c')) (fun h => by have := (HB.out _ h).1; omega))
  have HTF := Lib.hid (below_all3 T2.out (b := w.heap.size + 1) (by omega) (.int .i64 L) (.int .i64 S) (.slice a' l.length c'))
  clear K0 K1 K2 K3 Z z0 z1 z2 HO T1 T2 HB
  go_wp2
  refine bodyPost_ret (v := .agg #[.int .i64 L, .int .i64 S, (.slice a' l.length c')]) (by simp [results, Tryd.results41, go_sem, Z0.out, Z1.out, Z2.out]) rfl ⟨_, rfl, HOF.out, HTF.out⟩
set_option maxHeartbeats 1000000 in
theorem eqDrive_c (L S : Int) (va vb : Value) (l : List Brk) (w : World) (ha : Rs w va l.length (brks l)) (hb : Rs w vb l.length (brks l)) :
    Calls Tryd.prog 43 #[.agg #[.int .i64 L, .int .i64 S, va], .agg #[.int .i64 L, .int .i64 S, vb]] w fun e w' => e = .returned (.bool true) ∧ Below w.heap.size w w' := by
  have HA := Lib.hid ha
  have HB := Lib.hid hb
  obtain ⟨a, ca, rfl⟩ := ha.shape
  obtain ⟨b, cb, rfl⟩ := hb.shape
  clear ha hb
  go_enter Tryd.func43, Tryd.ntmps43
  go_wp2_with fail
  have hbl := ((Below.refl w.heap.size w).alloc (Nat.le_refl _) (.cells #[.int .i64 L, .int .i64 S, .slice a l.length ca] 26)).alloc (by simp) (.cells #[.int .i64 L, .int .i64 S, .slice b l.length cb] 26)
  refine (eqBrakeS_same _ _ l _ (HA.out.below hbl rfl) (HB.out.below hbl rfl)).mono ?_
  rintro e w1 ⟨rfl, b1⟩
  have t1 := hbl.trans (b1.mono hbl.size)
  go_wp2
  go_ret
  exact ⟨rfl, t1⟩
set_option maxHeartbeats 400000 in
theorem markDrive_any (B k n : Nat) (L S : Int) (v : Value) (xs : List Value) (w : World) (hk : k ≤ 8388608) (hn : n ≤ 8388608) (hB : B ≤ w.heap.size) (hown : w.ownsRow B 35 2 v n xs) :
    Calls Tryd.prog 44 #[.agg #[.int .i64 L, .int .i64 S, v], .int .i64 (k : Int)] w fun e w' => e = .returned (.int .i64 ((k + n * 2 : Nat) : Int)) ∧ w'.ownsRow B 35 2 v n (brks (mksBrk k n)) ∧ w.grownBy w' v.ownBlock := by
  have HO := Lib.hid hown
  obtain ⟨a, ca, rfl⟩ := (Rs.of_own hown).shape
  clear hown
  go_enter Tryd.func44, Tryd.ntmps44
  go_wp2_with fail
  refine (markBrakeS_any B k n _ xs _ hk hn (by simp; omega) (HO.out.alloc _)).mono ?_
  rintro e w1 ⟨rfl, o1, g1⟩
  have G1 := Lib.hid ((World.grownBy_alloc w (.cells #[.int .i64 L, .int .i64 S, .slice a n ca] 26) (Value.slice a n ca).ownBlock).trans g1)
  have O1 := Lib.hid o1
  clear g1 o1
  go_wp2
  go_ret
  exact ⟨rfl, O1.out, G1.out⟩
end Go.Proofs.YthmoogkllpcebaaDoor
