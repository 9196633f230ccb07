/- spec.ParseCabin. Condition: sizes. -/
import Derived.Test.YtiogjocbiagipabDoorPcSpecM
import Derived.Test.YtiogjocbiagipabDoorPcImpl
import Derived.Test.YtiogjocbiagipabDoorSplitW
import Derived.Deep.RegionHeld3
namespace Go.Proofs.YtiogjocbiagipabDoor
open Go.RowKit
set_option linter.unusedVariables false
theorem pcL1Read_c (s : ByteArray) (n : Int) (b : Bool) (w : World) (hs : s.size ≤ 1048576) (h : RdN s n b) :
    Calls Tryd.prog 68 #[.string s] w fun e w' => e = .returned (.tuple #[.int .i64 n, .bool b]) ∧ Below w.heap.size w w' := by
  rcases h with ⟨rfl, rfl, h0, h1⟩ | ⟨rfl, rfl, h0⟩
  · exact l1Read_yes n w h0 h1
  · exact l1Read_no s w (by unfold maxLen; omega) h0
set_option maxRecDepth 100000 in
set_option maxHeartbeats 4000000 in
theorem specParseCabin_c (s : ByteArray) (w : World) (hs : s.size ≤ 1048576) :
    Calls Tryd.prog 20 #[.string s] w fun e w' => e = .returned (PcRes s) ∧ Below w.heap.size w w' := by
  have hlen := splitAll_len 32 s
  have HNO : Hid ((∀ d, ¬ Pc s d) → PcRes s = .tuple #[.agg #[.int .i64 0, .int .i64 0, .int .i64 0, .int .i64 0, .int .i64 0], .bool false]) := Lib.hid (fun h => by
    obtain ⟨h1, h2⟩ := pc_no h
    unfold PcRes; rw [h1, h2])
  have HYE : Hid (∀ d, Pc s d → PcRes s = .tuple #[.agg #[.int .i64 d.i, .int .i64 d.s, .int .i64 d.w, .int .i64 d.g, .int .i64 d.p], .bool true]) := Lib.hid (fun d h => by
    obtain ⟨h1, h2⟩ := pc_yes h
    unfold PcRes; rw [h1, h2])
  have HF := Lib.hid (fun d (h : Pc s d) => sp_fact h)
  go_enter Tryd.func20, Tryd.ntmps20
  go_wp2_with fail
  refine (l1Split_any s 32 _ (by omega)).mono ?_
  rintro e w1 ⟨v, rfl, o, b1⟩
  have hsh : ∃ a cap, v = .slice a (splitAll 32 s).length cap := by
    rcases own_cases o with ⟨h0, _, a, cap, rfl⟩ | ⟨g, cap, rfl, _⟩
    · omega
    · exact ⟨_, _, rfl⟩
  obtain ⟨va, vc, rfl⟩ := hsh
  have hpos : 0 < (splitAll 32 s).length := by omega
  obtain ⟨g1, rfl, hg1, hgn⟩ : ∃ g, va = some ⟨g, 0, none⟩ ∧ g < w1.heap.size ∧ w.heap.size < g := by
    rcases own_cases o with ⟨h0, _, _⟩ | ⟨g, cap, h, hB, hg, _⟩
    · omega
    · simp at h; exact ⟨g, h.1, hg, by simp at hB; omega⟩
  have HC : Hid (∀ W, Below w1.heap.size w1 W → ∀ k (h : k < (splitAll 32 s).length), W.cell? ⟨g1, k, none⟩ = some (.string (splitAll 32 s)[k])) := Lib.hid (fun W hb k h => by
    have h1 := (hb.cell (p := ⟨g1, k, none⟩) hg1)
    rw [h1]
    exact (o.cellAt k (by omega)).trans (by simp [h]))
  have B1 := Lib.hid b1
  have HWz : Hid (∀ k (h : k < (splitAll 32 s).length), (splitAll 32 s)[k].size ≤ s.size) := Lib.hid (fun k h => word_size 32 s (List.getElem_mem h))
  have HRD := Lib.hid (fun (u1 u2 u3 u4 : ByteArray) (n1 n2 n3 n4 : Int) (b1 b2 b3 b4 : Bool) h1 h2 h3 h4 r1 r2 r3 r4 => sp_reads (s := s) (u1 := u1) (u2 := u2) (u3 := u3) (u4 := u4) (n1 := n1) (n2 := n2) (n3 := n3) (n4 := n4) (b1 := b1) (b2 := b2) (b3 := b3) (b4 := b4) h1 h2 h3 h4 r1 r2 r3 r4)
  have BW : Hid (Below w.heap.size w w1) := Lib.hid (((Below.refl _ _).alloc (Nat.le_refl _) _).trans (b1.mono (by simp)))
  have RW : Hid (w1.heap[w.heap.size]? = some (.cells #[.int .i64 0, .int .i64 0, .int .i64 0, .int .i64 0, .int .i64 0] 34 (0, 0))) := Lib.hid ((b1.block _ (by simp)).trans (heap_alloc_new _ _))
  have HG : Hid (∀ k, k < (splitAll 32 s).length → ∃ u, (splitAll 32 s)[k]? = some u ∧ u.size ≤ s.size ∧ ∀ W, Below w1.heap.size w1 W → W.cell? ⟨g1, k, none⟩ = some (.string u)) := Lib.hid (fun k h => ⟨_, List.getElem?_eq_getElem h, HWz.out k h, fun W hW => HC.out W hW k h⟩)
  clear o b1 HC HWz B1
  by_cases hbig : 60 < s.size
  · have HR := Lib.hid (HNO.out (fun d hd => by have := (HF.out d hd).1; omega))
    clear HNO HYE HF HRD HG
    have p0 := cell_of_row w1 w.heap.size 0 _ _ _ RW.out
    have m0 := frozen_of_row w1 w.heap.size 0 _ _ RW.out
    have p1 := cell_of_row w1 w.heap.size 1 _ _ _ RW.out
    have m1 := frozen_of_row w1 w.heap.size 1 _ _ RW.out
    have p2 := cell_of_row w1 w.heap.size 2 _ _ _ RW.out
    have m2 := frozen_of_row w1 w.heap.size 2 _ _ RW.out
    have p3 := cell_of_row w1 w.heap.size 3 _ _ _ RW.out
    have m3 := frozen_of_row w1 w.heap.size 3 _ _ RW.out
    have p4 := cell_of_row w1 w.heap.size 4 _ _ _ RW.out
    have m4 := frozen_of_row w1 w.heap.size 4 _ _ RW.out
    go_wp2_with fail
    have BL := blk_allP (x := ⟨0, 0, 0, 0, 0⟩) (y := ⟨0, 0, 0, 0, 0⟩) RW.out
    have Z0 : (((((w1.setCell ⟨w.heap.size, 0, none⟩ (.int .i64 0)).setCell ⟨w.heap.size, 1, none⟩ (.int .i64 0)).setCell ⟨w.heap.size, 2, none⟩ (.int .i64 0)).setCell ⟨w.heap.size, 3, none⟩ (.int .i64 0)).setCell ⟨w.heap.size, 4, none⟩ (.int .i64 0)).cell? ⟨w.heap.size, 0, none⟩ = some (.int .i64 0) := cell_of_row _ w.heap.size 0 _ _ _ BL
    have Z1 : (((((w1.setCell ⟨w.heap.size, 0, none⟩ (.int .i64 0)).setCell ⟨w.heap.size, 1, none⟩ (.int .i64 0)).setCell ⟨w.heap.size, 2, none⟩ (.int .i64 0)).setCell ⟨w.heap.size, 3, none⟩ (.int .i64 0)).setCell ⟨w.heap.size, 4, none⟩ (.int .i64 0)).cell? ⟨w.heap.size, 1, none⟩ = some (.int .i64 0) := cell_of_row _ w.heap.size 1 _ _ _ BL
    have Z2 : (((((w1.setCell ⟨w.heap.size, 0, none⟩ (.int .i64 0)).setCell ⟨w.heap.size, 1, none⟩ (.int .i64 0)).setCell ⟨w.heap.size, 2, none⟩ (.int .i64 0)).setCell ⟨w.heap.size, 3, none⟩ (.int .i64 0)).setCell ⟨w.heap.size, 4, none⟩ (.int .i64 0)).cell? ⟨w.heap.size, 2, none⟩ = some (.int .i64 0) := cell_of_row _ w.heap.size 2 _ _ _ BL
    have Z3 : (((((w1.setCell ⟨w.heap.size, 0, none⟩ (.int .i64 0)).setCell ⟨w.heap.size, 1, none⟩ (.int .i64 0)).setCell ⟨w.heap.size, 2, none⟩ (.int .i64 0)).setCell ⟨w.heap.size, 3, none⟩ (.int .i64 0)).setCell ⟨w.heap.size, 4, none⟩ (.int .i64 0)).cell? ⟨w.heap.size, 3, none⟩ = some (.int .i64 0) := cell_of_row _ w.heap.size 3 _ _ _ BL
    have Z4 : (((((w1.setCell ⟨w.heap.size, 0, none⟩ (.int .i64 0)).setCell ⟨w.heap.size, 1, none⟩ (.int .i64 0)).setCell ⟨w.heap.size, 2, none⟩ (.int .i64 0)).setCell ⟨w.heap.size, 3, none⟩ (.int .i64 0)).setCell ⟨w.heap.size, 4, none⟩ (.int .i64 0)).cell? ⟨w.heap.size, 4, none⟩ = some (.int .i64 0) := cell_of_row _ w.heap.size 4 _ _ _ BL
    have BF : Below w.heap.size w (((((w1.setCell ⟨w.heap.size, 0, none⟩ (.int .i64 0)).setCell ⟨w.heap.size, 1, none⟩ (.int .i64 0)).setCell ⟨w.heap.size, 2, none⟩ (.int .i64 0)).setCell ⟨w.heap.size, 3, none⟩ (.int .i64 0)).setCell ⟨w.heap.size, 4, none⟩ (.int .i64 0)) := below_setP (below_setP (below_setP (below_setP (below_setP BW.out (Nat.le_refl _) _ _) (Nat.le_refl _) _ _) (Nat.le_refl _) _ _) (Nat.le_refl _) _ _) (Nat.le_refl _) _ _
    clear BL
    generalize (((((w1.setCell ⟨w.heap.size, 0, none⟩ (.int .i64 0)).setCell ⟨w.heap.size, 1, none⟩ (.int .i64 0)).setCell ⟨w.heap.size, 2, none⟩ (.int .i64 0)).setCell ⟨w.heap.size, 3, none⟩ (.int .i64 0)).setCell ⟨w.heap.size, 4, none⟩ (.int .i64 0)) = YF at *
    refine bodyPost_ret (v := .tuple #[.agg #[.int .i64 0, .int .i64 0, .int .i64 0, .int .i64 0, .int .i64 0], .bool false]) (by simp [results, Tryd.results20, go_sem, Z0, Z1, Z2, Z3, Z4]) rfl ⟨by rw [HR.out], BF⟩
  · have hsz : s.size ≤ 60 := by omega
    clear hbig
    by_cases hn : (splitAll 32 s).length = 9 ∨ (splitAll 32 s).length = 10
    · obtain ⟨u1, x1, z1, k1⟩ := HG.out 1 (by omega)
      obtain ⟨u2, x2, z2, k2⟩ := HG.out 2 (by omega)
      obtain ⟨u3, x3, z3, k3⟩ := HG.out 4 (by omega)
      obtain ⟨u4, x4, z4, k4⟩ := HG.out ((splitAll 32 s).length - 2) (by omega)
      by_cases hu : u1.size < 2
      · have HR := Lib.hid (HNO.out (fun d hd => by
          have h1 := (HF.out d hd).2.2.1
          obtain ⟨g1, g2, g3, g4, g5⟩ := (isC_iff d).1 hd.1
          have h2 := (num_size d.i (by omega) (by omega)).2
          rw [h1] at x1
          have h3 := congrArg ByteArray.size (Option.some.inj x1)
          rw [ByteArray.size_append] at h3
          have e : (⟨#[58]⟩ : ByteArray).size = 1 := rfl
          omega))
        have c1 := k1 w1 (Below.refl _ _)
        have hu' : (u1.size : Int) < 2 := by omega
        clear HNO HYE HF HRD HG x1 x2 x3 x4 k1 k2 k3 k4 z1 z2 z3 z4 hlen hpos
        generalize (splitAll 32 s).length = n at *
        rcases hn with rfl | rfl
        · have p0 := cell_of_row w1 w.heap.size 0 _ _ _ RW.out
          have m0 := frozen_of_row w1 w.heap.size 0 _ _ RW.out
          have p1 := cell_of_row w1 w.heap.size 1 _ _ _ RW.out
          have m1 := frozen_of_row w1 w.heap.size 1 _ _ RW.out
          have p2 := cell_of_row w1 w.heap.size 2 _ _ _ RW.out
          have m2 := frozen_of_row w1 w.heap.size 2 _ _ RW.out
          have p3 := cell_of_row w1 w.heap.size 3 _ _ _ RW.out
          have m3 := frozen_of_row w1 w.heap.size 3 _ _ RW.out
          have p4 := cell_of_row w1 w.heap.size 4 _ _ _ RW.out
          have m4 := frozen_of_row w1 w.heap.size 4 _ _ RW.out
          go_wp2_with fail
          have BL := blk_allP (x := ⟨0, 0, 0, 0, 0⟩) (y := ⟨0, 0, 0, 0, 0⟩) RW.out
          have Z0 : (((((w1.setCell ⟨w.heap.size, 0, none⟩ (.int .i64 0)).setCell ⟨w.heap.size, 1, none⟩ (.int .i64 0)).setCell ⟨w.heap.size, 2, none⟩ (.int .i64 0)).setCell ⟨w.heap.size, 3, none⟩ (.int .i64 0)).setCell ⟨w.heap.size, 4, none⟩ (.int .i64 0)).cell? ⟨w.heap.size, 0, none⟩ = some (.int .i64 0) := cell_of_row _ w.heap.size 0 _ _ _ BL
          have Z1 : (((((w1.setCell ⟨w.heap.size, 0, none⟩ (.int .i64 0)).setCell ⟨w.heap.size, 1, none⟩ (.int .i64 0)).setCell ⟨w.heap.size, 2, none⟩ (.int .i64 0)).setCell ⟨w.heap.size, 3, none⟩ (.int .i64 0)).setCell ⟨w.heap.size, 4, none⟩ (.int .i64 0)).cell? ⟨w.heap.size, 1, none⟩ = some (.int .i64 0) := cell_of_row _ w.heap.size 1 _ _ _ BL
          have Z2 : (((((w1.setCell ⟨w.heap.size, 0, none⟩ (.int .i64 0)).setCell ⟨w.heap.size, 1, none⟩ (.int .i64 0)).setCell ⟨w.heap.size, 2, none⟩ (.int .i64 0)).setCell ⟨w.heap.size, 3, none⟩ (.int .i64 0)).setCell ⟨w.heap.size, 4, none⟩ (.int .i64 0)).cell? ⟨w.heap.size, 2, none⟩ = some (.int .i64 0) := cell_of_row _ w.heap.size 2 _ _ _ BL
          have Z3 : (((((w1.setCell ⟨w.heap.size, 0, none⟩ (.int .i64 0)).setCell ⟨w.heap.size, 1, none⟩ (.int .i64 0)).setCell ⟨w.heap.size, 2, none⟩ (.int .i64 0)).setCell ⟨w.heap.size, 3, none⟩ (.int .i64 0)).setCell ⟨w.heap.size, 4, none⟩ (.int .i64 0)).cell? ⟨w.heap.size, 3, none⟩ = some (.int .i64 0) := cell_of_row _ w.heap.size 3 _ _ _ BL
          have Z4 : (((((w1.setCell ⟨w.heap.size, 0, none⟩ (.int .i64 0)).setCell ⟨w.heap.size, 1, none⟩ (.int .i64 0)).setCell ⟨w.heap.size, 2, none⟩ (.int .i64 0)).setCell ⟨w.heap.size, 3, none⟩ (.int .i64 0)).setCell ⟨w.heap.size, 4, none⟩ (.int .i64 0)).cell? ⟨w.heap.size, 4, none⟩ = some (.int .i64 0) := cell_of_row _ w.heap.size 4 _ _ _ BL
          have BF : Below w.heap.size w (((((w1.setCell ⟨w.heap.size, 0, none⟩ (.int .i64 0)).setCell ⟨w.heap.size, 1, none⟩ (.int .i64 0)).setCell ⟨w.heap.size, 2, none⟩ (.int .i64 0)).setCell ⟨w.heap.size, 3, none⟩ (.int .i64 0)).setCell ⟨w.heap.size, 4, none⟩ (.int .i64 0)) := below_setP (below_setP (below_setP (below_setP (below_setP BW.out (Nat.le_refl _) _ _) (Nat.le_refl _) _ _) (Nat.le_refl _) _ _) (Nat.le_refl _) _ _) (Nat.le_refl _) _ _
          clear BL
          generalize (((((w1.setCell ⟨w.heap.size, 0, none⟩ (.int .i64 0)).setCell ⟨w.heap.size, 1, none⟩ (.int .i64 0)).setCell ⟨w.heap.size, 2, none⟩ (.int .i64 0)).setCell ⟨w.heap.size, 3, none⟩ (.int .i64 0)).setCell ⟨w.heap.size, 4, none⟩ (.int .i64 0)) = YF at *
          refine bodyPost_ret (v := .tuple #[.agg #[.int .i64 0, .int .i64 0, .int .i64 0, .int .i64 0, .int .i64 0], .bool false]) (by simp [results, Tryd.results20, go_sem, Z0, Z1, Z2, Z3, Z4]) rfl ⟨by rw [HR.out], BF⟩
        · have p0 := cell_of_row w1 w.heap.size 0 _ _ _ RW.out
          have m0 := frozen_of_row w1 w.heap.size 0 _ _ RW.out
          have p1 := cell_of_row w1 w.heap.size 1 _ _ _ RW.out
          have m1 := frozen_of_row w1 w.heap.size 1 _ _ RW.out
          have p2 := cell_of_row w1 w.heap.size 2 _ _ _ RW.out
          have m2 := frozen_of_row w1 w.heap.size 2 _ _ RW.out
          have p3 := cell_of_row w1 w.heap.size 3 _ _ _ RW.out
          have m3 := frozen_of_row w1 w.heap.size 3 _ _ RW.out
          have p4 := cell_of_row w1 w.heap.size 4 _ _ _ RW.out
          have m4 := frozen_of_row w1 w.heap.size 4 _ _ RW.out
          go_wp2_with fail
          have BL := blk_allP (x := ⟨0, 0, 0, 0, 0⟩) (y := ⟨0, 0, 0, 0, 0⟩) RW.out
          have Z0 : (((((w1.setCell ⟨w.heap.size, 0, none⟩ (.int .i64 0)).setCell ⟨w.heap.size, 1, none⟩ (.int .i64 0)).setCell ⟨w.heap.size, 2, none⟩ (.int .i64 0)).setCell ⟨w.heap.size, 3, none⟩ (.int .i64 0)).setCell ⟨w.heap.size, 4, none⟩ (.int .i64 0)).cell? ⟨w.heap.size, 0, none⟩ = some (.int .i64 0) := cell_of_row _ w.heap.size 0 _ _ _ BL
          have Z1 : (((((w1.setCell ⟨w.heap.size, 0, none⟩ (.int .i64 0)).setCell ⟨w.heap.size, 1, none⟩ (.int .i64 0)).setCell ⟨w.heap.size, 2, none⟩ (.int .i64 0)).setCell ⟨w.heap.size, 3, none⟩ (.int .i64 0)).setCell ⟨w.heap.size, 4, none⟩ (.int .i64 0)).cell? ⟨w.heap.size, 1, none⟩ = some (.int .i64 0) := cell_of_row _ w.heap.size 1 _ _ _ BL
          have Z2 : (((((w1.setCell ⟨w.heap.size, 0, none⟩ (.int .i64 0)).setCell ⟨w.heap.size, 1, none⟩ (.int .i64 0)).setCell ⟨w.heap.size, 2, none⟩ (.int .i64 0)).setCell ⟨w.heap.size, 3, none⟩ (.int .i64 0)).setCell ⟨w.heap.size, 4, none⟩ (.int .i64 0)).cell? ⟨w.heap.size, 2, none⟩ = some (.int .i64 0) := cell_of_row _ w.heap.size 2 _ _ _ BL
          have Z3 : (((((w1.setCell ⟨w.heap.size, 0, none⟩ (.int .i64 0)).setCell ⟨w.heap.size, 1, none⟩ (.int .i64 0)).setCell ⟨w.heap.size, 2, none⟩ (.int .i64 0)).setCell ⟨w.heap.size, 3, none⟩ (.int .i64 0)).setCell ⟨w.heap.size, 4, none⟩ (.int .i64 0)).cell? ⟨w.heap.size, 3, none⟩ = some (.int .i64 0) := cell_of_row _ w.heap.size 3 _ _ _ BL
          have Z4 : (((((w1.setCell ⟨w.heap.size, 0, none⟩ (.int .i64 0)).setCell ⟨w.heap.size, 1, none⟩ (.int .i64 0)).setCell ⟨w.heap.size, 2, none⟩ (.int .i64 0)).setCell ⟨w.heap.size, 3, none⟩ (.int .i64 0)).setCell ⟨w.heap.size, 4, none⟩ (.int .i64 0)).cell? ⟨w.heap.size, 4, none⟩ = some (.int .i64 0) := cell_of_row _ w.heap.size 4 _ _ _ BL
          have BF : Below w.heap.size w (((((w1.setCell ⟨w.heap.size, 0, none⟩ (.int .i64 0)).setCell ⟨w.heap.size, 1, none⟩ (.int .i64 0)).setCell ⟨w.heap.size, 2, none⟩ (.int .i64 0)).setCell ⟨w.heap.size, 3, none⟩ (.int .i64 0)).setCell ⟨w.heap.size, 4, none⟩ (.int .i64 0)) := below_setP (below_setP (below_setP (below_setP (below_setP BW.out (Nat.le_refl _) _ _) (Nat.le_refl _) _ _) (Nat.le_refl _) _ _) (Nat.le_refl _) _ _) (Nat.le_refl _) _ _
          clear BL
          generalize (((((w1.setCell ⟨w.heap.size, 0, none⟩ (.int .i64 0)).setCell ⟨w.heap.size, 1, none⟩ (.int .i64 0)).setCell ⟨w.heap.size, 2, none⟩ (.int .i64 0)).setCell ⟨w.heap.size, 3, none⟩ (.int .i64 0)).setCell ⟨w.heap.size, 4, none⟩ (.int .i64 0)) = YF at *
          refine bodyPost_ret (v := .tuple #[.agg #[.int .i64 0, .int .i64 0, .int .i64 0, .int .i64 0, .int .i64 0], .bool false]) (by simp [results, Tryd.results20, go_sem, Z0, Z1, Z2, Z3, Z4]) rfl ⟨by rw [HR.out], BF⟩
      · obtain ⟨n1, b1, r1⟩ := rdN_ex (u1.extract 0 (u1.size - 1))
        obtain ⟨n2, b2, r2⟩ := rdN_ex u2
        obtain ⟨n3, b3, r3⟩ := rdN_ex u3
        obtain ⟨n4, b4, r4⟩ := rdN_ex u4
        have HD := Lib.hid (HRD.out u1 u2 u3 u4 n1 n2 n3 n4 b1 b2 b3 b4 x1 x2 x3 x4 r1 r2 r3 r4)
        have zx : (u1.extract 0 (u1.size - 1)).size ≤ u1.size := by rw [← sz_list, ← sz_list, ext_list, List.length_take, List.length_drop]; omega
        obtain ⟨mu, hmu⟩ : ∃ m : Nat, u1.size - 1 = m := ⟨_, rfl⟩
        rw [hmu] at r1 zx
        have hwr : IntKind.i64.wrap ((u1.size : Int) - 1) = (mu : Int) := (pred_in u1.size (by omega) (by omega)).1.trans (by omega)
        have hm0 : (0 : Int) ≤ (mu : Int) := by omega
        have hm1 : (mu : Int) ≤ (u1.size : Int) := by omega
        have G1 := Lib.hid (fun W => pcL1Read_c _ n1 b1 W (by omega) r1)
        have G2 := Lib.hid (fun W => pcL1Read_c _ n2 b2 W (by omega) r2)
        have G3 := Lib.hid (fun W => pcL1Read_c _ n3 b3 W (by omega) r3)
        have G4 := Lib.hid (fun W => pcL1Read_c _ n4 b4 W (by omega) r4)
        replace k1 := Lib.hid k1
        replace k2 := Lib.hid k2
        replace k3 := Lib.hid k3
        replace k4 := Lib.hid k4
        clear HF HRD HG x1 x2 x3 x4 z1 z2 z3 z4 zx r1 r2 r3 r4 hlen hpos
        generalize (splitAll 32 s).length = n at *
        rcases hn with rfl | rfl
        · have c1 := k1.out w1 (Below.refl _ _)
          go_wp2_with fail
          have hlt : w.heap.size < w1.heap.size := (Array.getElem?_eq_some_iff.1 RW.out).1
          have B5 : Hid (Below w.heap.size w (w1.alloc (.cells #[.int .i64 0, .int .i64 0, .int .i64 0, .int .i64 0, .int .i64 0] 34))) := Lib.hid (BW.out.alloc (Nat.le_of_lt hlt) _)
          have BQ : Hid (Below w1.heap.size w1 (w1.alloc (.cells #[.int .i64 0, .int .i64 0, .int .i64 0, .int .i64 0, .int .i64 0] 34))) := Lib.hid ((Below.refl _ _).alloc (Nat.le_refl _) _)
          have R5 : Hid ((w1.alloc (.cells #[.int .i64 0, .int .i64 0, .int .i64 0, .int .i64 0, .int .i64 0] 34)).heap[w.heap.size]? = some (.cells #[.int .i64 0, .int .i64 0, .int .i64 0, .int .i64 0, .int .i64 0] 34 (0, 0))) := Lib.hid (blk_oldP RW.out)
          have C5 : Hid ((w1.alloc (.cells #[.int .i64 0, .int .i64 0, .int .i64 0, .int .i64 0, .int .i64 0] 34)).heap[w1.heap.size]? = some (.cells #[.int .i64 0, .int .i64 0, .int .i64 0, .int .i64 0, .int .i64 0] 34 (0, 0))) := Lib.hid (heap_alloc_new _ _)
          generalize w1.alloc (.cells #[.int .i64 0, .int .i64 0, .int .i64 0, .int .i64 0, .int .i64 0] 34) = X0 at *
          clear c1
          have c1 := k1.out X0 BQ.out
          have KP : ∀ W, Below X0.heap.size X0 W → W.cell? ⟨g1, 1, none⟩ = some (.string u1) := fun W hW => k1.out _ (BQ.out.trans (hW.mono BQ.out.size))
          have r00 := Below.refl X0.heap.size X0
          have rdw : Below X0.heap.size X0 X0.drew := below_drewN (Below.refl _ _) 1
          go_region_held3 (fun w' => w'.cell? ⟨g1, 1, none⟩ = some (.string u1)) (first | with_reducible exact KP _ b5 | with_reducible exact KP _ r00 | with_reducible exact KP _ rdw | exact (World.cell?_setCell_other _ _ _ _ (by simp)).trans (KP _ b5))
            (first
            | (go_at_call 68; refine (G1.out _).mono ?_; rintro e X1 ⟨rfl, b4⟩; have b5 : Below X0.heap.size X0 X1 := rdw.trans b4; have p := cell_of_row X1 w1.heap.size 0 _ _ _ (stepQ B5.out R5.out C5.out b5).2.2; have m := frozen_of_row X1 w1.heap.size 0 _ _ (stepQ B5.out R5.out C5.out b5).2.2)
            | fail)
          clear KP r00 c1
          obtain ⟨B6, R6, C6⟩ := stepQ B5.out R5.out C5.out b5
          have Q6 := (BQ.out.trans (b5.mono BQ.out.size)).setCell (p := ⟨w1.heap.size, 0, none⟩) (Nat.le_refl _) (.int .i64 n1)
          obtain ⟨B7, R7, C7⟩ := setQ (i := 0) (v := .int .i64 n1) hlt B6 R6 C6
          clear b4 b5 p m rdw BQ B5 R5 C5 B6 R6 C6
          have BQ := Lib.hid Q6
          have B5 := Lib.hid B7
          have R5 := Lib.hid R7
          have C5 := Lib.hid C7
          clear Q6 B7 R7 C7
          generalize X1.setCell ⟨w1.heap.size, 0, none⟩ (.int .i64 n1) = Y1 at *
          have c1 : Y1.cell? ⟨g1, 2, none⟩ = some (.string u2) := k2.out Y1 BQ.out
          go_wp2_with fail
          refine (G2.out _).mono ?_
          rintro e X2 ⟨rfl, b⟩
          obtain ⟨B6, R6, C6⟩ := stepQ B5.out R5.out C5.out b
          have p := cell_of_row X2 w1.heap.size 1 _ _ _ C6
          have m := frozen_of_row X2 w1.heap.size 1 _ _ C6
          have Q6 := (BQ.out.trans (b.mono BQ.out.size)).setCell (p := ⟨w1.heap.size, 1, none⟩) (Nat.le_refl _) (.int .i64 n2)
          obtain ⟨B7, R7, C7⟩ := setQ (i := 1) (v := .int .i64 n2) hlt B6 R6 C6
          clear BQ B5 R5 C5 c1
          have BQ := Lib.hid Q6
          have B5 := Lib.hid B7
          have R5 := Lib.hid R7
          have C5 := Lib.hid C7
          clear Q6 B6 R6 C6 B7 R7 C7 b
          have c1 : (X2.setCell ⟨w1.heap.size, 1, none⟩ (.int .i64 n2)).cell? ⟨g1, 4, none⟩ = some (.string u3) := k3.out _ BQ.out
          go_wp2_with fail
          clear p m
          generalize X2.setCell ⟨w1.heap.size, 1, none⟩ (.int .i64 n2) = Y2 at *
          refine (G3.out _).mono ?_
          rintro e X3 ⟨rfl, b⟩
          obtain ⟨B6, R6, C6⟩ := stepQ B5.out R5.out C5.out b
          have p := cell_of_row X3 w1.heap.size 2 _ _ _ C6
          have m := frozen_of_row X3 w1.heap.size 2 _ _ C6
          have Q6 := (BQ.out.trans (b.mono BQ.out.size)).setCell (p := ⟨w1.heap.size, 2, none⟩) (Nat.le_refl _) (.int .i64 n3)
          obtain ⟨B7, R7, C7⟩ := setQ (i := 2) (v := .int .i64 n3) hlt B6 R6 C6
          clear BQ B5 R5 C5 c1
          have BQ := Lib.hid Q6
          have B5 := Lib.hid B7
          have R5 := Lib.hid R7
          have C5 := Lib.hid C7
          clear Q6 B6 R6 C6 B7 R7 C7 b
          have c1 : (X3.setCell ⟨w1.heap.size, 2, none⟩ (.int .i64 n3)).cell? ⟨g1, 7, none⟩ = some (.string u4) := k4.out _ BQ.out
          go_wp2_with fail
          clear p m
          generalize X3.setCell ⟨w1.heap.size, 2, none⟩ (.int .i64 n3) = Y3 at *
          refine (G4.out _).mono ?_
          rintro e X4 ⟨rfl, b⟩
          obtain ⟨B6, R6, C6⟩ := stepQ B5.out R5.out C5.out b
          have p := cell_of_row X4 w1.heap.size 4 _ _ _ C6
          have m := frozen_of_row X4 w1.heap.size 4 _ _ C6
          have Q6 := (BQ.out.trans (b.mono BQ.out.size)).setCell (p := ⟨w1.heap.size, 4, none⟩) (Nat.le_refl _) (.int .i64 n4)
          obtain ⟨B7, R7, C7⟩ := setQ (i := 4) (v := .int .i64 n4) hlt B6 R6 C6
          clear BQ B5 R5 C5 c1
          have BQ := Lib.hid Q6
          have B5 := Lib.hid B7
          have R5 := Lib.hid R7
          have C5 := Lib.hid C7
          clear Q6 B6 R6 C6 B7 R7 C7 b
          go_wp2_with fail
          clear p m
          generalize X4.setCell ⟨w1.heap.size, 4, none⟩ (.int .i64 n4) = Y4 at *
          have HN0 : Hid (∀ j : Nat, j < 0 → ¬ Pc s ⟨n1, n2, n3, (j : Int), n4⟩) := Lib.hid (fun j h => absurd h (Nat.not_lt_zero _))
          have CC : Hid (Y4.heap[w1.heap.size]? = some (.cells #[.int .i64 n1, .int .i64 n2, .int .i64 n3, .int .i64 0, .int .i64 n4] 34 (0, 0))) := Lib.hid (C5.out.trans rfl)
          clear k1 k2 k3 k4 G1 G2 G3 G4 C5 BQ BW RW
          go_loopw [7] (fun i wr => ∃ (k : Nat) (g : Int), k ≤ 4 ∧ i = .int .i64 k ∧ Hid (∀ j : Nat, j < k → ¬ Pc s ⟨n1, n2, n3, (j : Int), n4⟩) ∧ Hid (wr.heap[w1.heap.size]? = some (.cells #[.int .i64 n1, .int .i64 n2, .int .i64 n3, .int .i64 g, .int .i64 n4] 34 (0, 0))) ∧ Hid (wr.heap[w.heap.size]? = some (.cells #[.int .i64 0, .int .i64 0, .int .i64 0, .int .i64 0, .int .i64 0] 34 (0, 0))) ∧ Hid (Below w.heap.size w wr)) (fun i _ => 4 - (intOf i).toNat)
          case atStart => exact ⟨0, 0, by omega, rfl, HN0, CC, R5, B5⟩
          case round =>
            obtain ⟨k, g, hk, rfl, HN, C, R, B⟩ := hrel
            clear HN0 CC R5 B5
            by_cases hk4 : k < 4
            · have p := cell_of_row wr w1.heap.size 3 _ _ _ C.out
              have m := frozen_of_row wr w1.heap.size 3 _ _ C.out
              obtain ⟨B7, R7, C7⟩ := setQ (i := 3) (v := .int .i64 (k : Int)) hlt B.out R.out C.out
              replace C7 : (wr.setCell ⟨w1.heap.size, 3, none⟩ (.int .i64 (k : Int))).heap[w1.heap.size]? = some (.cells #[.int .i64 n1, .int .i64 n2, .int .i64 n3, .int .i64 (k : Int), .int .i64 n4] 34 (0, 0)) := C7.trans rfl
              have c0 : (wr.setCell ⟨w1.heap.size, 3, none⟩ (.int .i64 (k : Int))).cell? ⟨w1.heap.size, 0, none⟩ = some (.int .i64 n1) := cell_of_row _ w1.heap.size 0 _ _ _ C7
              have c1 : (wr.setCell ⟨w1.heap.size, 3, none⟩ (.int .i64 (k : Int))).cell? ⟨w1.heap.size, 1, none⟩ = some (.int .i64 n2) := cell_of_row _ w1.heap.size 1 _ _ _ C7
              have c2 : (wr.setCell ⟨w1.heap.size, 3, none⟩ (.int .i64 (k : Int))).cell? ⟨w1.heap.size, 2, none⟩ = some (.int .i64 n3) := cell_of_row _ w1.heap.size 2 _ _ _ C7
              have c3 : (wr.setCell ⟨w1.heap.size, 3, none⟩ (.int .i64 (k : Int))).cell? ⟨w1.heap.size, 3, none⟩ = some (.int .i64 (k : Int)) := cell_of_row _ w1.heap.size 3 _ _ _ C7
              have c4 : (wr.setCell ⟨w1.heap.size, 3, none⟩ (.int .i64 (k : Int))).cell? ⟨w1.heap.size, 4, none⟩ = some (.int .i64 n4) := cell_of_row _ w1.heap.size 4 _ _ _ C7
              have hki : (k : Int) < 4 := by omega
              obtain ⟨hs1, hs2, hs3⟩ := succ_in k (by omega)
              have E := Lib.hid (l5One_c ⟨n1, n2, n3, (k : Int), n4⟩)
              have HST : Hid (¬ Pc s ⟨n1, n2, n3, (k : Int), n4⟩ → ∀ j : Nat, j < k + 1 → ¬ Pc s ⟨n1, n2, n3, (j : Int), n4⟩) := Lib.hid (fun h j hj => by
                by_cases e : j < k
                · exact HN.out j e
                · have : j = k := by omega
                  subst this; exact h)
              replace B7 := Lib.hid B7
              replace R7 := Lib.hid R7
              replace C7 := Lib.hid C7
              clear C R B HN
              cases hb : isC ⟨n1, n2, n3, (k : Int), n4⟩ with
              | false =>
                have HS := Lib.hid (HST.out (fun h => by rw [h.1] at hb; cases hb))
                rw [hb] at E
                clear HST hb
                go_wp2_with fail
                refine (E.out _).mono ?_
                rintro e V1 ⟨rfl, b⟩
                obtain ⟨B8, R8, C8⟩ := stepQ B7.out R7.out C7.out b
                replace B8 := Lib.hid B8
                replace R8 := Lib.hid R8
                replace C8 := Lib.hid C8
                clear b p m c0 c1 c2 c3 c4 B7 R7 C7 E
                go_wp2
                exact ⟨⟨k + 1, k, by omega, by simp, HS, C8, R8, B8⟩, by simp only [intOf]; omega⟩
              | true =>
                have T := Lib.hid (fun W => l5Text_c ⟨n1, n2, n3, (k : Int), n4⟩ W hb)
                rw [hb] at E
                go_wp2_with fail
                refine (E.out _).mono ?_
                rintro e V1 ⟨rfl, b⟩
                obtain ⟨B8, R8, C8⟩ := stepQ B7.out R7.out C7.out b
                clear b p m c0 c1 c2 c3 c4 B7 R7 C7 E
                have c0 : V1.cell? ⟨w1.heap.size, 0, none⟩ = some (.int .i64 n1) := cell_of_row _ w1.heap.size 0 _ _ _ C8
                have c1 : V1.cell? ⟨w1.heap.size, 1, none⟩ = some (.int .i64 n2) := cell_of_row _ w1.heap.size 1 _ _ _ C8
                have c2 : V1.cell? ⟨w1.heap.size, 2, none⟩ = some (.int .i64 n3) := cell_of_row _ w1.heap.size 2 _ _ _ C8
                have c3 : V1.cell? ⟨w1.heap.size, 3, none⟩ = some (.int .i64 (k : Int)) := cell_of_row _ w1.heap.size 3 _ _ _ C8
                have c4 : V1.cell? ⟨w1.heap.size, 4, none⟩ = some (.int .i64 n4) := cell_of_row _ w1.heap.size 4 _ _ _ C8
                replace B8 := Lib.hid B8
                replace R8 := Lib.hid R8
                replace C8 := Lib.hid C8
                go_wp2_with fail
                refine (T.out _).mono ?_
                rintro e V2 ⟨rfl, b⟩
                obtain ⟨B9, R9, C9⟩ := stepQ B8.out R8.out C8.out b
                clear b c0 c1 c2 c3 c4 B8 R8 C8 T
                replace B9 := Lib.hid B9
                replace R9 := Lib.hid R9
                replace C9 := Lib.hid C9
                by_cases hq : cabT ⟨n1, n2, n3, (k : Int), n4⟩ = s
                · have HR := Lib.hid (HYE.out ⟨n1, n2, n3, (k : Int), n4⟩ ⟨hb, hq⟩)
                  have z : ((cabT ⟨n1, n2, n3, (k : Int), n4⟩).toList == s.toList) = true := str_eq hq
                  clear HST HYE HNO HD hb hq
                  generalize cabT ⟨n1, n2, n3, (k : Int), n4⟩ = tx at *
                  have c0 : V2.cell? ⟨w1.heap.size, 0, none⟩ = some (.int .i64 n1) := cell_of_row _ w1.heap.size 0 _ _ _ C9.out
                  have c1 : V2.cell? ⟨w1.heap.size, 1, none⟩ = some (.int .i64 n2) := cell_of_row _ w1.heap.size 1 _ _ _ C9.out
                  have c2 : V2.cell? ⟨w1.heap.size, 2, none⟩ = some (.int .i64 n3) := cell_of_row _ w1.heap.size 2 _ _ _ C9.out
                  have c3 : V2.cell? ⟨w1.heap.size, 3, none⟩ = some (.int .i64 (k : Int)) := cell_of_row _ w1.heap.size 3 _ _ _ C9.out
                  have c4 : V2.cell? ⟨w1.heap.size, 4, none⟩ = some (.int .i64 n4) := cell_of_row _ w1.heap.size 4 _ _ _ C9.out
                  have p0 := cell_of_row V2 w.heap.size 0 _ _ _ R9.out
                  have m0 := frozen_of_row V2 w.heap.size 0 _ _ R9.out
                  have p1 := cell_of_row V2 w.heap.size 1 _ _ _ R9.out
                  have m1 := frozen_of_row V2 w.heap.size 1 _ _ R9.out
                  have p2 := cell_of_row V2 w.heap.size 2 _ _ _ R9.out
                  have m2 := frozen_of_row V2 w.heap.size 2 _ _ R9.out
                  have p3 := cell_of_row V2 w.heap.size 3 _ _ _ R9.out
                  have m3 := frozen_of_row V2 w.heap.size 3 _ _ R9.out
                  have p4 := cell_of_row V2 w.heap.size 4 _ _ _ R9.out
                  have m4 := frozen_of_row V2 w.heap.size 4 _ _ R9.out
                  go_wp2_with fail
                  have BL := blk_allP (x := ⟨0, 0, 0, 0, 0⟩) (y := ⟨n1, n2, n3, (k : Int), n4⟩) R9.out
                  have Z0 : (((((V2.setCell ⟨w.heap.size, 0, none⟩ (.int .i64 n1)).setCell ⟨w.heap.size, 1, none⟩ (.int .i64 n2)).setCell ⟨w.heap.size, 2, none⟩ (.int .i64 n3)).setCell ⟨w.heap.size, 3, none⟩ (.int .i64 (k : Int))).setCell ⟨w.heap.size, 4, none⟩ (.int .i64 n4)).cell? ⟨w.heap.size, 0, none⟩ = some (.int .i64 n1) := cell_of_row _ w.heap.size 0 _ _ _ BL
                  have Z1 : (((((V2.setCell ⟨w.heap.size, 0, none⟩ (.int .i64 n1)).setCell ⟨w.heap.size, 1, none⟩ (.int .i64 n2)).setCell ⟨w.heap.size, 2, none⟩ (.int .i64 n3)).setCell ⟨w.heap.size, 3, none⟩ (.int .i64 (k : Int))).setCell ⟨w.heap.size, 4, none⟩ (.int .i64 n4)).cell? ⟨w.heap.size, 1, none⟩ = some (.int .i64 n2) := cell_of_row _ w.heap.size 1 _ _ _ BL
                  have Z2 : (((((V2.setCell ⟨w.heap.size, 0, none⟩ (.int .i64 n1)).setCell ⟨w.heap.size, 1, none⟩ (.int .i64 n2)).setCell ⟨w.heap.size, 2, none⟩ (.int .i64 n3)).setCell ⟨w.heap.size, 3, none⟩ (.int .i64 (k : Int))).setCell ⟨w.heap.size, 4, none⟩ (.int .i64 n4)).cell? ⟨w.heap.size, 2, none⟩ = some (.int .i64 n3) := cell_of_row _ w.heap.size 2 _ _ _ BL
                  have Z3 : (((((V2.setCell ⟨w.heap.size, 0, none⟩ (.int .i64 n1)).setCell ⟨w.heap.size, 1, none⟩ (.int .i64 n2)).setCell ⟨w.heap.size, 2, none⟩ (.int .i64 n3)).setCell ⟨w.heap.size, 3, none⟩ (.int .i64 (k : Int))).setCell ⟨w.heap.size, 4, none⟩ (.int .i64 n4)).cell? ⟨w.heap.size, 3, none⟩ = some (.int .i64 (k : Int)) := cell_of_row _ w.heap.size 3 _ _ _ BL
                  have Z4 : (((((V2.setCell ⟨w.heap.size, 0, none⟩ (.int .i64 n1)).setCell ⟨w.heap.size, 1, none⟩ (.int .i64 n2)).setCell ⟨w.heap.size, 2, none⟩ (.int .i64 n3)).setCell ⟨w.heap.size, 3, none⟩ (.int .i64 (k : Int))).setCell ⟨w.heap.size, 4, none⟩ (.int .i64 n4)).cell? ⟨w.heap.size, 4, none⟩ = some (.int .i64 n4) := cell_of_row _ w.heap.size 4 _ _ _ BL
                  have BF : Below w.heap.size w (((((V2.setCell ⟨w.heap.size, 0, none⟩ (.int .i64 n1)).setCell ⟨w.heap.size, 1, none⟩ (.int .i64 n2)).setCell ⟨w.heap.size, 2, none⟩ (.int .i64 n3)).setCell ⟨w.heap.size, 3, none⟩ (.int .i64 (k : Int))).setCell ⟨w.heap.size, 4, none⟩ (.int .i64 n4)) := below_setP (below_setP (below_setP (below_setP (below_setP B9.out (Nat.le_refl _) _ _) (Nat.le_refl _) _ _) (Nat.le_refl _) _ _) (Nat.le_refl _) _ _) (Nat.le_refl _) _ _
                  clear BL
                  generalize (((((V2.setCell ⟨w.heap.size, 0, none⟩ (.int .i64 n1)).setCell ⟨w.heap.size, 1, none⟩ (.int .i64 n2)).setCell ⟨w.heap.size, 2, none⟩ (.int .i64 n3)).setCell ⟨w.heap.size, 3, none⟩ (.int .i64 (k : Int))).setCell ⟨w.heap.size, 4, none⟩ (.int .i64 n4)) = YF at *
                  refine bodyPost_ret (v := .tuple #[.agg #[.int .i64 n1, .int .i64 n2, .int .i64 n3, .int .i64 (k : Int), .int .i64 n4], .bool true]) (by simp [results, Tryd.results20, go_sem, Z0, Z1, Z2, Z3, Z4]) rfl ⟨by rw [HR.out], BF⟩
                · have HS := Lib.hid (HST.out (fun h => hq h.2))
                  have z : ((cabT ⟨n1, n2, n3, (k : Int), n4⟩).toList == s.toList) = false := str_ne hq
                  clear HST HYE HNO HD hb hq
                  generalize cabT ⟨n1, n2, n3, (k : Int), n4⟩ = tx at *
                  go_wp2
                  exact ⟨⟨k + 1, k, by omega, by simp, HS, C9, R9, B9⟩, by simp only [intOf]; omega⟩
            · have HR := Lib.hid (HNO.out (sp_done HD.out (fun j hj => HN.out j (by omega))))
              have hki : ¬ (k : Int) < 4 := by omega
              clear HN HYE HNO HD C
              have p0 := cell_of_row wr w.heap.size 0 _ _ _ R.out
              have m0 := frozen_of_row wr w.heap.size 0 _ _ R.out
              have p1 := cell_of_row wr w.heap.size 1 _ _ _ R.out
              have m1 := frozen_of_row wr w.heap.size 1 _ _ R.out
              have p2 := cell_of_row wr w.heap.size 2 _ _ _ R.out
              have m2 := frozen_of_row wr w.heap.size 2 _ _ R.out
              have p3 := cell_of_row wr w.heap.size 3 _ _ _ R.out
              have m3 := frozen_of_row wr w.heap.size 3 _ _ R.out
              have p4 := cell_of_row wr w.heap.size 4 _ _ _ R.out
              have m4 := frozen_of_row wr w.heap.size 4 _ _ R.out
              go_wp2_with fail
              have BL := blk_allP (x := ⟨0, 0, 0, 0, 0⟩) (y := ⟨0, 0, 0, 0, 0⟩) R.out
              have Z0 : (((((wr.setCell ⟨w.heap.size, 0, none⟩ (.int .i64 0)).setCell ⟨w.heap.size, 1, none⟩ (.int .i64 0)).setCell ⟨w.heap.size, 2, none⟩ (.int .i64 0)).setCell ⟨w.heap.size, 3, none⟩ (.int .i64 0)).setCell ⟨w.heap.size, 4, none⟩ (.int .i64 0)).cell? ⟨w.heap.size, 0, none⟩ = some (.int .i64 0) := cell_of_row _ w.heap.size 0 _ _ _ BL
              have Z1 : (((((wr.setCell ⟨w.heap.size, 0, none⟩ (.int .i64 0)).setCell ⟨w.heap.size, 1, none⟩ (.int .i64 0)).setCell ⟨w.heap.size, 2, none⟩ (.int .i64 0)).setCell ⟨w.heap.size, 3, none⟩ (.int .i64 0)).setCell ⟨w.heap.size, 4, none⟩ (.int .i64 0)).cell? ⟨w.heap.size, 1, none⟩ = some (.int .i64 0) := cell_of_row _ w.heap.size 1 _ _ _ BL
              have Z2 : (((((wr.setCell ⟨w.heap.size, 0, none⟩ (.int .i64 0)).setCell ⟨w.heap.size, 1, none⟩ (.int .i64 0)).setCell ⟨w.heap.size, 2, none⟩ (.int .i64 0)).setCell ⟨w.heap.size, 3, none⟩ (.int .i64 0)).setCell ⟨w.heap.size, 4, none⟩ (.int .i64 0)).cell? ⟨w.heap.size, 2, none⟩ = some (.int .i64 0) := cell_of_row _ w.heap.size 2 _ _ _ BL
              have Z3 : (((((wr.setCell ⟨w.heap.size, 0, none⟩ (.int .i64 0)).setCell ⟨w.heap.size, 1, none⟩ (.int .i64 0)).setCell ⟨w.heap.size, 2, none⟩ (.int .i64 0)).setCell ⟨w.heap.size, 3, none⟩ (.int .i64 0)).setCell ⟨w.heap.size, 4, none⟩ (.int .i64 0)).cell? ⟨w.heap.size, 3, none⟩ = some (.int .i64 0) := cell_of_row _ w.heap.size 3 _ _ _ BL
              have Z4 : (((((wr.setCell ⟨w.heap.size, 0, none⟩ (.int .i64 0)).setCell ⟨w.heap.size, 1, none⟩ (.int .i64 0)).setCell ⟨w.heap.size, 2, none⟩ (.int .i64 0)).setCell ⟨w.heap.size, 3, none⟩ (.int .i64 0)).setCell ⟨w.heap.size, 4, none⟩ (.int .i64 0)).cell? ⟨w.heap.size, 4, none⟩ = some (.int .i64 0) := cell_of_row _ w.heap.size 4 _ _ _ BL
              have BF : Below w.heap.size w (((((wr.setCell ⟨w.heap.size, 0, none⟩ (.int .i64 0)).setCell ⟨w.heap.size, 1, none⟩ (.int .i64 0)).setCell ⟨w.heap.size, 2, none⟩ (.int .i64 0)).setCell ⟨w.heap.size, 3, none⟩ (.int .i64 0)).setCell ⟨w.heap.size, 4, none⟩ (.int .i64 0)) := below_setP (below_setP (below_setP (below_setP (below_setP B.out (Nat.le_refl _) _ _) (Nat.le_refl _) _ _) (Nat.le_refl _) _ _) (Nat.le_refl _) _ _) (Nat.le_refl _) _ _
              clear BL
              generalize (((((wr.setCell ⟨w.heap.size, 0, none⟩ (.int .i64 0)).setCell ⟨w.heap.size, 1, none⟩ (.int .i64 0)).setCell ⟨w.heap.size, 2, none⟩ (.int .i64 0)).setCell ⟨w.heap.size, 3, none⟩ (.int .i64 0)).setCell ⟨w.heap.size, 4, none⟩ (.int .i64 0)) = YF at *
              refine bodyPost_ret (v := .tuple #[.agg #[.int .i64 0, .int .i64 0, .int .i64 0, .int .i64 0, .int .i64 0], .bool false]) (by simp [results, Tryd.results20, go_sem, Z0, Z1, Z2, Z3, Z4]) rfl ⟨by rw [HR.out], BF⟩
        · have c1 := k1.out w1 (Below.refl _ _)
          go_wp2_with fail
          have hlt : w.heap.size < w1.heap.size := (Array.getElem?_eq_some_iff.1 RW.out).1
          have B5 : Hid (Below w.heap.size w (w1.alloc (.cells #[.int .i64 0, .int .i64 0, .int .i64 0, .int .i64 0, .int .i64 0] 34))) := Lib.hid (BW.out.alloc (Nat.le_of_lt hlt) _)
          have BQ : Hid (Below w1.heap.size w1 (w1.alloc (.cells #[.int .i64 0, .int .i64 0, .int .i64 0, .int .i64 0, .int .i64 0] 34))) := Lib.hid ((Below.refl _ _).alloc (Nat.le_refl _) _)
          have R5 : Hid ((w1.alloc (.cells #[.int .i64 0, .int .i64 0, .int .i64 0, .int .i64 0, .int .i64 0] 34)).heap[w.heap.size]? = some (.cells #[.int .i64 0, .int .i64 0, .int .i64 0, .int .i64 0, .int .i64 0] 34 (0, 0))) := Lib.hid (blk_oldP RW.out)
          have C5 : Hid ((w1.alloc (.cells #[.int .i64 0, .int .i64 0, .int .i64 0, .int .i64 0, .int .i64 0] 34)).heap[w1.heap.size]? = some (.cells #[.int .i64 0, .int .i64 0, .int .i64 0, .int .i64 0, .int .i64 0] 34 (0, 0))) := Lib.hid (heap_alloc_new _ _)
          generalize w1.alloc (.cells #[.int .i64 0, .int .i64 0, .int .i64 0, .int .i64 0, .int .i64 0] 34) = X0 at *
          clear c1
          have c1 := k1.out X0 BQ.out
          have KP : ∀ W, Below X0.heap.size X0 W → W.cell? ⟨g1, 1, none⟩ = some (.string u1) := fun W hW => k1.out _ (BQ.out.trans (hW.mono BQ.out.size))
          have r00 := Below.refl X0.heap.size X0
          have rdw : Below X0.heap.size X0 X0.drew := below_drewN (Below.refl _ _) 1
          go_region_held3 (fun w' => w'.cell? ⟨g1, 1, none⟩ = some (.string u1)) (first | with_reducible exact KP _ b5 | with_reducible exact KP _ r00 | with_reducible exact KP _ rdw | exact (World.cell?_setCell_other _ _ _ _ (by simp)).trans (KP _ b5))
            (first
            | (go_at_call 68; refine (G1.out _).mono ?_; rintro e X1 ⟨rfl, b4⟩; have b5 : Below X0.heap.size X0 X1 := rdw.trans b4; have p := cell_of_row X1 w1.heap.size 0 _ _ _ (stepQ B5.out R5.out C5.out b5).2.2; have m := frozen_of_row X1 w1.heap.size 0 _ _ (stepQ B5.out R5.out C5.out b5).2.2)
            | fail)
          clear KP r00 c1
          obtain ⟨B6, R6, C6⟩ := stepQ B5.out R5.out C5.out b5
          have Q6 := (BQ.out.trans (b5.mono BQ.out.size)).setCell (p := ⟨w1.heap.size, 0, none⟩) (Nat.le_refl _) (.int .i64 n1)
          obtain ⟨B7, R7, C7⟩ := setQ (i := 0) (v := .int .i64 n1) hlt B6 R6 C6
          clear b4 b5 p m rdw BQ B5 R5 C5 B6 R6 C6
          have BQ := Lib.hid Q6
          have B5 := Lib.hid B7
          have R5 := Lib.hid R7
          have C5 := Lib.hid C7
          clear Q6 B7 R7 C7
          generalize X1.setCell ⟨w1.heap.size, 0, none⟩ (.int .i64 n1) = Y1 at *
          have c1 : Y1.cell? ⟨g1, 2, none⟩ = some (.string u2) := k2.out Y1 BQ.out
          go_wp2_with fail
          refine (G2.out _).mono ?_
          rintro e X2 ⟨rfl, b⟩
          obtain ⟨B6, R6, C6⟩ := stepQ B5.out R5.out C5.out b
          have p := cell_of_row X2 w1.heap.size 1 _ _ _ C6
          have m := frozen_of_row X2 w1.heap.size 1 _ _ C6
          have Q6 := (BQ.out.trans (b.mono BQ.out.size)).setCell (p := ⟨w1.heap.size, 1, none⟩) (Nat.le_refl _) (.int .i64 n2)
          obtain ⟨B7, R7, C7⟩ := setQ (i := 1) (v := .int .i64 n2) hlt B6 R6 C6
          clear BQ B5 R5 C5 c1
          have BQ := Lib.hid Q6
          have B5 := Lib.hid B7
          have R5 := Lib.hid R7
          have C5 := Lib.hid C7
          clear Q6 B6 R6 C6 B7 R7 C7 b
          have c1 : (X2.setCell ⟨w1.heap.size, 1, none⟩ (.int .i64 n2)).cell? ⟨g1, 4, none⟩ = some (.string u3) := k3.out _ BQ.out
          go_wp2_with fail
          clear p m
          generalize X2.setCell ⟨w1.heap.size, 1, none⟩ (.int .i64 n2) = Y2 at *
          refine (G3.out _).mono ?_
          rintro e X3 ⟨rfl, b⟩
          obtain ⟨B6, R6, C6⟩ := stepQ B5.out R5.out C5.out b
          have p := cell_of_row X3 w1.heap.size 2 _ _ _ C6
          have m := frozen_of_row X3 w1.heap.size 2 _ _ C6
          have Q6 := (BQ.out.trans (b.mono BQ.out.size)).setCell (p := ⟨w1.heap.size, 2, none⟩) (Nat.le_refl _) (.int .i64 n3)
          obtain ⟨B7, R7, C7⟩ := setQ (i := 2) (v := .int .i64 n3) hlt B6 R6 C6
          clear BQ B5 R5 C5 c1
          have BQ := Lib.hid Q6
          have B5 := Lib.hid B7
          have R5 := Lib.hid R7
          have C5 := Lib.hid C7
          clear Q6 B6 R6 C6 B7 R7 C7 b
          have c1 : (X3.setCell ⟨w1.heap.size, 2, none⟩ (.int .i64 n3)).cell? ⟨g1, 8, none⟩ = some (.string u4) := k4.out _ BQ.out
          go_wp2_with fail
          clear p m
          generalize X3.setCell ⟨w1.heap.size, 2, none⟩ (.int .i64 n3) = Y3 at *
          refine (G4.out _).mono ?_
          rintro e X4 ⟨rfl, b⟩
          obtain ⟨B6, R6, C6⟩ := stepQ B5.out R5.out C5.out b
          have p := cell_of_row X4 w1.heap.size 4 _ _ _ C6
          have m := frozen_of_row X4 w1.heap.size 4 _ _ C6
          have Q6 := (BQ.out.trans (b.mono BQ.out.size)).setCell (p := ⟨w1.heap.size, 4, none⟩) (Nat.le_refl _) (.int .i64 n4)
          obtain ⟨B7, R7, C7⟩ := setQ (i := 4) (v := .int .i64 n4) hlt B6 R6 C6
          clear BQ B5 R5 C5 c1
          have BQ := Lib.hid Q6
          have B5 := Lib.hid B7
          have R5 := Lib.hid R7
          have C5 := Lib.hid C7
          clear Q6 B6 R6 C6 B7 R7 C7 b
          go_wp2_with fail
          clear p m
          generalize X4.setCell ⟨w1.heap.size, 4, none⟩ (.int .i64 n4) = Y4 at *
          have HN0 : Hid (∀ j : Nat, j < 0 → ¬ Pc s ⟨n1, n2, n3, (j : Int), n4⟩) := Lib.hid (fun j h => absurd h (Nat.not_lt_zero _))
          have CC : Hid (Y4.heap[w1.heap.size]? = some (.cells #[.int .i64 n1, .int .i64 n2, .int .i64 n3, .int .i64 0, .int .i64 n4] 34 (0, 0))) := Lib.hid (C5.out.trans rfl)
          clear k1 k2 k3 k4 G1 G2 G3 G4 C5 BQ BW RW
          go_loopw [7] (fun i wr => ∃ (k : Nat) (g : Int), k ≤ 4 ∧ i = .int .i64 k ∧ Hid (∀ j : Nat, j < k → ¬ Pc s ⟨n1, n2, n3, (j : Int), n4⟩) ∧ Hid (wr.heap[w1.heap.size]? = some (.cells #[.int .i64 n1, .int .i64 n2, .int .i64 n3, .int .i64 g, .int .i64 n4] 34 (0, 0))) ∧ Hid (wr.heap[w.heap.size]? = some (.cells #[.int .i64 0, .int .i64 0, .int .i64 0, .int .i64 0, .int .i64 0] 34 (0, 0))) ∧ Hid (Below w.heap.size w wr)) (fun i _ => 4 - (intOf i).toNat)
          case atStart => exact ⟨0, 0, by omega, rfl, HN0, CC, R5, B5⟩
          case round =>
            obtain ⟨k, g, hk, rfl, HN, C, R, B⟩ := hrel
            clear HN0 CC R5 B5
            by_cases hk4 : k < 4
            · have p := cell_of_row wr w1.heap.size 3 _ _ _ C.out
              have m := frozen_of_row wr w1.heap.size 3 _ _ C.out
              obtain ⟨B7, R7, C7⟩ := setQ (i := 3) (v := .int .i64 (k : Int)) hlt B.out R.out C.out
              replace C7 : (wr.setCell ⟨w1.heap.size, 3, none⟩ (.int .i64 (k : Int))).heap[w1.heap.size]? = some (.cells #[.int .i64 n1, .int .i64 n2, .int .i64 n3, .int .i64 (k : Int), .int .i64 n4] 34 (0, 0)) := C7.trans rfl
              have c0 : (wr.setCell ⟨w1.heap.size, 3, none⟩ (.int .i64 (k : Int))).cell? ⟨w1.heap.size, 0, none⟩ = some (.int .i64 n1) := cell_of_row _ w1.heap.size 0 _ _ _ C7
              have c1 : (wr.setCell ⟨w1.heap.size, 3, none⟩ (.int .i64 (k : Int))).cell? ⟨w1.heap.size, 1, none⟩ = some (.int .i64 n2) := cell_of_row _ w1.heap.size 1 _ _ _ C7
              have c2 : (wr.setCell ⟨w1.heap.size, 3, none⟩ (.int .i64 (k : Int))).cell? ⟨w1.heap.size, 2, none⟩ = some (.int .i64 n3) := cell_of_row _ w1.heap.size 2 _ _ _ C7
              have c3 : (wr.setCell ⟨w1.heap.size, 3, none⟩ (.int .i64 (k : Int))).cell? ⟨w1.heap.size, 3, none⟩ = some (.int .i64 (k : Int)) := cell_of_row _ w1.heap.size 3 _ _ _ C7
              have c4 : (wr.setCell ⟨w1.heap.size, 3, none⟩ (.int .i64 (k : Int))).cell? ⟨w1.heap.size, 4, none⟩ = some (.int .i64 n4) := cell_of_row _ w1.heap.size 4 _ _ _ C7
              have hki : (k : Int) < 4 := by omega
              obtain ⟨hs1, hs2, hs3⟩ := succ_in k (by omega)
              have E := Lib.hid (l5One_c ⟨n1, n2, n3, (k : Int), n4⟩)
              have HST : Hid (¬ Pc s ⟨n1, n2, n3, (k : Int), n4⟩ → ∀ j : Nat, j < k + 1 → ¬ Pc s ⟨n1, n2, n3, (j : Int), n4⟩) := Lib.hid (fun h j hj => by
                by_cases e : j < k
                · exact HN.out j e
                · have : j = k := by omega
                  subst this; exact h)
              replace B7 := Lib.hid B7
              replace R7 := Lib.hid R7
              replace C7 := Lib.hid C7
              clear C R B HN
              cases hb : isC ⟨n1, n2, n3, (k : Int), n4⟩ with
              | false =>
                have HS := Lib.hid (HST.out (fun h => by rw [h.1] at hb; cases hb))
                rw [hb] at E
                clear HST hb
                go_wp2_with fail
                refine (E.out _).mono ?_
                rintro e V1 ⟨rfl, b⟩
                obtain ⟨B8, R8, C8⟩ := stepQ B7.out R7.out C7.out b
                replace B8 := Lib.hid B8
                replace R8 := Lib.hid R8
                replace C8 := Lib.hid C8
                clear b p m c0 c1 c2 c3 c4 B7 R7 C7 E
                go_wp2
                exact ⟨⟨k + 1, k, by omega, by simp, HS, C8, R8, B8⟩, by simp only [intOf]; omega⟩
              | true =>
                have T := Lib.hid (fun W => l5Text_c ⟨n1, n2, n3, (k : Int), n4⟩ W hb)
                rw [hb] at E
                go_wp2_with fail
                refine (E.out _).mono ?_
                rintro e V1 ⟨rfl, b⟩
                obtain ⟨B8, R8, C8⟩ := stepQ B7.out R7.out C7.out b
                clear b p m c0 c1 c2 c3 c4 B7 R7 C7 E
                have c0 : V1.cell? ⟨w1.heap.size, 0, none⟩ = some (.int .i64 n1) := cell_of_row _ w1.heap.size 0 _ _ _ C8
                have c1 : V1.cell? ⟨w1.heap.size, 1, none⟩ = some (.int .i64 n2) := cell_of_row _ w1.heap.size 1 _ _ _ C8
                have c2 : V1.cell? ⟨w1.heap.size, 2, none⟩ = some (.int .i64 n3) := cell_of_row _ w1.heap.size 2 _ _ _ C8
                have c3 : V1.cell? ⟨w1.heap.size, 3, none⟩ = some (.int .i64 (k : Int)) := cell_of_row _ w1.heap.size 3 _ _ _ C8
                have c4 : V1.cell? ⟨w1.heap.size, 4, none⟩ = some (.int .i64 n4) := cell_of_row _ w1.heap.size 4 _ _ _ C8
                replace B8 := Lib.hid B8
                replace R8 := Lib.hid R8
                replace C8 := Lib.hid C8
                go_wp2_with fail
                refine (T.out _).mono ?_
                rintro e V2 ⟨rfl, b⟩
                obtain ⟨B9, R9, C9⟩ := stepQ B8.out R8.out C8.out b
                clear b c0 c1 c2 c3 c4 B8 R8 C8 T
                replace B9 := Lib.hid B9
                replace R9 := Lib.hid R9
                replace C9 := Lib.hid C9
                by_cases hq : cabT ⟨n1, n2, n3, (k : Int), n4⟩ = s
                · have HR := Lib.hid (HYE.out ⟨n1, n2, n3, (k : Int), n4⟩ ⟨hb, hq⟩)
                  have z : ((cabT ⟨n1, n2, n3, (k : Int), n4⟩).toList == s.toList) = true := str_eq hq
                  clear HST HYE HNO HD hb hq
                  generalize cabT ⟨n1, n2, n3, (k : Int), n4⟩ = tx at *
                  have c0 : V2.cell? ⟨w1.heap.size, 0, none⟩ = some (.int .i64 n1) := cell_of_row _ w1.heap.size 0 _ _ _ C9.out
                  have c1 : V2.cell? ⟨w1.heap.size, 1, none⟩ = some (.int .i64 n2) := cell_of_row _ w1.heap.size 1 _ _ _ C9.out
                  have c2 : V2.cell? ⟨w1.heap.size, 2, none⟩ = some (.int .i64 n3) := cell_of_row _ w1.heap.size 2 _ _ _ C9.out
                  have c3 : V2.cell? ⟨w1.heap.size, 3, none⟩ = some (.int .i64 (k : Int)) := cell_of_row _ w1.heap.size 3 _ _ _ C9.out
                  have c4 : V2.cell? ⟨w1.heap.size, 4, none⟩ = some (.int .i64 n4) := cell_of_row _ w1.heap.size 4 _ _ _ C9.out
                  have p0 := cell_of_row V2 w.heap.size 0 _ _ _ R9.out
                  have m0 := frozen_of_row V2 w.heap.size 0 _ _ R9.out
                  have p1 := cell_of_row V2 w.heap.size 1 _ _ _ R9.out
                  have m1 := frozen_of_row V2 w.heap.size 1 _ _ R9.out
                  have p2 := cell_of_row V2 w.heap.size 2 _ _ _ R9.out
                  have m2 := frozen_of_row V2 w.heap.size 2 _ _ R9.out
                  have p3 := cell_of_row V2 w.heap.size 3 _ _ _ R9.out
                  have m3 := frozen_of_row V2 w.heap.size 3 _ _ R9.out
                  have p4 := cell_of_row V2 w.heap.size 4 _ _ _ R9.out
                  have m4 := frozen_of_row V2 w.heap.size 4 _ _ R9.out
                  go_wp2_with fail
                  have BL := blk_allP (x := ⟨0, 0, 0, 0, 0⟩) (y := ⟨n1, n2, n3, (k : Int), n4⟩) R9.out
                  have Z0 : (((((V2.setCell ⟨w.heap.size, 0, none⟩ (.int .i64 n1)).setCell ⟨w.heap.size, 1, none⟩ (.int .i64 n2)).setCell ⟨w.heap.size, 2, none⟩ (.int .i64 n3)).setCell ⟨w.heap.size, 3, none⟩ (.int .i64 (k : Int))).setCell ⟨w.heap.size, 4, none⟩ (.int .i64 n4)).cell? ⟨w.heap.size, 0, none⟩ = some (.int .i64 n1) := cell_of_row _ w.heap.size 0 _ _ _ BL
                  have Z1 : (((((V2.setCell ⟨w.heap.size, 0, none⟩ (.int .i64 n1)).setCell ⟨w.heap.size, 1, none⟩ (.int .i64 n2)).setCell ⟨w.heap.size, 2, none⟩ (.int .i64 n3)).setCell ⟨w.heap.size, 3, none⟩ (.int .i64 (k : Int))).setCell ⟨w.heap.size, 4, none⟩ (.int .i64 n4)).cell? ⟨w.heap.size, 1, none⟩ = some (.int .i64 n2) := cell_of_row _ w.heap.size 1 _ _ _ BL
                  have Z2 : (((((V2.setCell ⟨w.heap.size, 0, none⟩ (.int .i64 n1)).setCell ⟨w.heap.size, 1, none⟩ (.int .i64 n2)).setCell ⟨w.heap.size, 2, none⟩ (.int .i64 n3)).setCell ⟨w.heap.size, 3, none⟩ (.int .i64 (k : Int))).setCell ⟨w.heap.size, 4, none⟩ (.int .i64 n4)).cell? ⟨w.heap.size, 2, none⟩ = some (.int .i64 n3) := cell_of_row _ w.heap.size 2 _ _ _ BL
                  have Z3 : (((((V2.setCell ⟨w.heap.size, 0, none⟩ (.int .i64 n1)).setCell ⟨w.heap.size, 1, none⟩ (.int .i64 n2)).setCell ⟨w.heap.size, 2, none⟩ (.int .i64 n3)).setCell ⟨w.heap.size, 3, none⟩ (.int .i64 (k : Int))).setCell ⟨w.heap.size, 4, none⟩ (.int .i64 n4)).cell? ⟨w.heap.size, 3, none⟩ = some (.int .i64 (k : Int)) := cell_of_row _ w.heap.size 3 _ _ _ BL
                  have Z4 : (((((V2.setCell ⟨w.heap.size, 0, none⟩ (.int .i64 n1)).setCell ⟨w.heap.size, 1, none⟩ (.int .i64 n2)).setCell ⟨w.heap.size, 2, none⟩ (.int .i64 n3)).setCell ⟨w.heap.size, 3, none⟩ (.int .i64 (k : Int))).setCell ⟨w.heap.size, 4, none⟩ (.int .i64 n4)).cell? ⟨w.heap.size, 4, none⟩ = some (.int .i64 n4) := cell_of_row _ w.heap.size 4 _ _ _ BL
                  have BF : Below w.heap.size w (((((V2.setCell ⟨w.heap.size, 0, none⟩ (.int .i64 n1)).setCell ⟨w.heap.size, 1, none⟩ (.int .i64 n2)).setCell ⟨w.heap.size, 2, none⟩ (.int .i64 n3)).setCell ⟨w.heap.size, 3, none⟩ (.int .i64 (k : Int))).setCell ⟨w.heap.size, 4, none⟩ (.int .i64 n4)) := below_setP (below_setP (below_setP (below_setP (below_setP B9.out (Nat.le_refl _) _ _) (Nat.le_refl _) _ _) (Nat.le_refl _) _ _) (Nat.le_refl _) _ _) (Nat.le_refl _) _ _
                  clear BL
                  generalize (((((V2.setCell ⟨w.heap.size, 0, none⟩ (.int .i64 n1)).setCell ⟨w.heap.size, 1, none⟩ (.int .i64 n2)).setCell ⟨w.heap.size, 2, none⟩ (.int .i64 n3)).setCell ⟨w.heap.size, 3, none⟩ (.int .i64 (k : Int))).setCell ⟨w.heap.size, 4, none⟩ (.int .i64 n4)) = YF at *
                  refine bodyPost_ret (v := .tuple #[.agg #[.int .i64 n1, .int .i64 n2, .int .i64 n3, .int .i64 (k : Int), .int .i64 n4], .bool true]) (by simp [results, Tryd.results20, go_sem, Z0, Z1, Z2, Z3, Z4]) rfl ⟨by rw [HR.out], BF⟩
                · have HS := Lib.hid (HST.out (fun h => hq h.2))
                  have z : ((cabT ⟨n1, n2, n3, (k : Int), n4⟩).toList == s.toList) = false := str_ne hq
                  clear HST HYE HNO HD hb hq
                  generalize cabT ⟨n1, n2, n3, (k : Int), n4⟩ = tx at *
                  go_wp2
                  exact ⟨⟨k + 1, k, by omega, by simp, HS, C9, R9, B9⟩, by simp only [intOf]; omega⟩
            · have HR := Lib.hid (HNO.out (sp_done HD.out (fun j hj => HN.out j (by omega))))
              have hki : ¬ (k : Int) < 4 := by omega
              clear HN HYE HNO HD C
              have p0 := cell_of_row wr w.heap.size 0 _ _ _ R.out
              have m0 := frozen_of_row wr w.heap.size 0 _ _ R.out
              have p1 := cell_of_row wr w.heap.size 1 _ _ _ R.out
              have m1 := frozen_of_row wr w.heap.size 1 _ _ R.out
              have p2 := cell_of_row wr w.heap.size 2 _ _ _ R.out
              have m2 := frozen_of_row wr w.heap.size 2 _ _ R.out
              have p3 := cell_of_row wr w.heap.size 3 _ _ _ R.out
              have m3 := frozen_of_row wr w.heap.size 3 _ _ R.out
              have p4 := cell_of_row wr w.heap.size 4 _ _ _ R.out
              have m4 := frozen_of_row wr w.heap.size 4 _ _ R.out
              go_wp2_with fail
              have BL := blk_allP (x := ⟨0, 0, 0, 0, 0⟩) (y := ⟨0, 0, 0, 0, 0⟩) R.out
              have Z0 : (((((wr.setCell ⟨w.heap.size, 0, none⟩ (.int .i64 0)).setCell ⟨w.heap.size, 1, none⟩ (.int .i64 0)).setCell ⟨w.heap.size, 2, none⟩ (.int .i64 0)).setCell ⟨w.heap.size, 3, none⟩ (.int .i64 0)).setCell ⟨w.heap.size, 4, none⟩ (.int .i64 0)).cell? ⟨w.heap.size, 0, none⟩ = some (.int .i64 0) := cell_of_row _ w.heap.size 0 _ _ _ BL
              have Z1 : (((((wr.setCell ⟨w.heap.size, 0, none⟩ (.int .i64 0)).setCell ⟨w.heap.size, 1, none⟩ (.int .i64 0)).setCell ⟨w.heap.size, 2, none⟩ (.int .i64 0)).setCell ⟨w.heap.size, 3, none⟩ (.int .i64 0)).setCell ⟨w.heap.size, 4, none⟩ (.int .i64 0)).cell? ⟨w.heap.size, 1, none⟩ = some (.int .i64 0) := cell_of_row _ w.heap.size 1 _ _ _ BL
              have Z2 : (((((wr.setCell ⟨w.heap.size, 0, none⟩ (.int .i64 0)).setCell ⟨w.heap.size, 1, none⟩ (.int .i64 0)).setCell ⟨w.heap.size, 2, none⟩ (.int .i64 0)).setCell ⟨w.heap.size, 3, none⟩ (.int .i64 0)).setCell ⟨w.heap.size, 4, none⟩ (.int .i64 0)).cell? ⟨w.heap.size, 2, none⟩ = some (.int .i64 0) := cell_of_row _ w.heap.size 2 _ _ _ BL
              have Z3 : (((((wr.setCell ⟨w.heap.size, 0, none⟩ (.int .i64 0)).setCell ⟨w.heap.size, 1, none⟩ (.int .i64 0)).setCell ⟨w.heap.size, 2, none⟩ (.int .i64 0)).setCell ⟨w.heap.size, 3, none⟩ (.int .i64 0)).setCell ⟨w.heap.size, 4, none⟩ (.int .i64 0)).cell? ⟨w.heap.size, 3, none⟩ = some (.int .i64 0) := cell_of_row _ w.heap.size 3 _ _ _ BL
              have Z4 : (((((wr.setCell ⟨w.heap.size, 0, none⟩ (.int .i64 0)).setCell ⟨w.heap.size, 1, none⟩ (.int .i64 0)).setCell ⟨w.heap.size, 2, none⟩ (.int .i64 0)).setCell ⟨w.heap.size, 3, none⟩ (.int .i64 0)).setCell ⟨w.heap.size, 4, none⟩ (.int .i64 0)).cell? ⟨w.heap.size, 4, none⟩ = some (.int .i64 0) := cell_of_row _ w.heap.size 4 _ _ _ BL
              have BF : Below w.heap.size w (((((wr.setCell ⟨w.heap.size, 0, none⟩ (.int .i64 0)).setCell ⟨w.heap.size, 1, none⟩ (.int .i64 0)).setCell ⟨w.heap.size, 2, none⟩ (.int .i64 0)).setCell ⟨w.heap.size, 3, none⟩ (.int .i64 0)).setCell ⟨w.heap.size, 4, none⟩ (.int .i64 0)) := below_setP (below_setP (below_setP (below_setP (below_setP B.out (Nat.le_refl _) _ _) (Nat.le_refl _) _ _) (Nat.le_refl _) _ _) (Nat.le_refl _) _ _) (Nat.le_refl _) _ _
              clear BL
              generalize (((((wr.setCell ⟨w.heap.size, 0, none⟩ (.int .i64 0)).setCell ⟨w.heap.size, 1, none⟩ (.int .i64 0)).setCell ⟨w.heap.size, 2, none⟩ (.int .i64 0)).setCell ⟨w.heap.size, 3, none⟩ (.int .i64 0)).setCell ⟨w.heap.size, 4, none⟩ (.int .i64 0)) = YF at *
              refine bodyPost_ret (v := .tuple #[.agg #[.int .i64 0, .int .i64 0, .int .i64 0, .int .i64 0, .int .i64 0], .bool false]) (by simp [results, Tryd.results20, go_sem, Z0, Z1, Z2, Z3, Z4]) rfl ⟨by rw [HR.out], BF⟩
    · have HR := Lib.hid (HNO.out (fun d hd => by have := (HF.out d hd).2.1; omega))
      clear HNO HYE HF HRD HG hlen hpos
      generalize (splitAll 32 s).length = n at *
      have p0 := cell_of_row w1 w.heap.size 0 _ _ _ RW.out
      have m0 := frozen_of_row w1 w.heap.size 0 _ _ RW.out
      have p1 := cell_of_row w1 w.heap.size 1 _ _ _ RW.out
      have m1 := frozen_of_row w1 w.heap.size 1 _ _ RW.out
      have p2 := cell_of_row w1 w.heap.size 2 _ _ _ RW.out
      have m2 := frozen_of_row w1 w.heap.size 2 _ _ RW.out
      have p3 := cell_of_row w1 w.heap.size 3 _ _ _ RW.out
      have m3 := frozen_of_row w1 w.heap.size 3 _ _ RW.out
      have p4 := cell_of_row w1 w.heap.size 4 _ _ _ RW.out
      have m4 := frozen_of_row w1 w.heap.size 4 _ _ RW.out
      go_wp2_with fail
      have BL := blk_allP (x := ⟨0, 0, 0, 0, 0⟩) (y := ⟨0, 0, 0, 0, 0⟩) RW.out
      have Z0 : (((((w1.setCell ⟨w.heap.size, 0, none⟩ (.int .i64 0)).setCell ⟨w.heap.size, 1, none⟩ (.int .i64 0)).setCell ⟨w.heap.size, 2, none⟩ (.int .i64 0)).setCell ⟨w.heap.size, 3, none⟩ (.int .i64 0)).setCell ⟨w.heap.size, 4, none⟩ (.int .i64 0)).cell? ⟨w.heap.size, 0, none⟩ = some (.int .i64 0) := cell_of_row _ w.heap.size 0 _ _ _ BL
      have Z1 : (((((w1.setCell ⟨w.heap.size, 0, none⟩ (.int .i64 0)).setCell ⟨w.heap.size, 1, none⟩ (.int .i64 0)).setCell ⟨w.heap.size, 2, none⟩ (.int .i64 0)).setCell ⟨w.heap.size, 3, none⟩ (.int .i64 0)).setCell ⟨w.heap.size, 4, none⟩ (.int .i64 0)).cell? ⟨w.heap.size, 1, none⟩ = some (.int .i64 0) := cell_of_row _ w.heap.size 1 _ _ _ BL
      have Z2 : (((((w1.setCell ⟨w.heap.size, 0, none⟩ (.int .i64 0)).setCell ⟨w.heap.size, 1, none⟩ (.int .i64 0)).setCell ⟨w.heap.size, 2, none⟩ (.int .i64 0)).setCell ⟨w.heap.size, 3, none⟩ (.int .i64 0)).setCell ⟨w.heap.size, 4, none⟩ (.int .i64 0)).cell? ⟨w.heap.size, 2, none⟩ = some (.int .i64 0) := cell_of_row _ w.heap.size 2 _ _ _ BL
      have Z3 : (((((w1.setCell ⟨w.heap.size, 0, none⟩ (.int .i64 0)).setCell ⟨w.heap.size, 1, none⟩ (.int .i64 0)).setCell ⟨w.heap.size, 2, none⟩ (.int .i64 0)).setCell ⟨w.heap.size, 3, none⟩ (.int .i64 0)).setCell ⟨w.heap.size, 4, none⟩ (.int .i64 0)).cell? ⟨w.heap.size, 3, none⟩ = some (.int .i64 0) := cell_of_row _ w.heap.size 3 _ _ _ BL
      have Z4 : (((((w1.setCell ⟨w.heap.size, 0, none⟩ (.int .i64 0)).setCell ⟨w.heap.size, 1, none⟩ (.int .i64 0)).setCell ⟨w.heap.size, 2, none⟩ (.int .i64 0)).setCell ⟨w.heap.size, 3, none⟩ (.int .i64 0)).setCell ⟨w.heap.size, 4, none⟩ (.int .i64 0)).cell? ⟨w.heap.size, 4, none⟩ = some (.int .i64 0) := cell_of_row _ w.heap.size 4 _ _ _ BL
      have BF : Below w.heap.size w (((((w1.setCell ⟨w.heap.size, 0, none⟩ (.int .i64 0)).setCell ⟨w.heap.size, 1, none⟩ (.int .i64 0)).setCell ⟨w.heap.size, 2, none⟩ (.int .i64 0)).setCell ⟨w.heap.size, 3, none⟩ (.int .i64 0)).setCell ⟨w.heap.size, 4, none⟩ (.int .i64 0)) := below_setP (below_setP (below_setP (below_setP (below_setP BW.out (Nat.le_refl _) _ _) (Nat.le_refl _) _ _) (Nat.le_refl _) _ _) (Nat.le_refl _) _ _) (Nat.le_refl _) _ _
      clear BL
      generalize (((((w1.setCell ⟨w.heap.size, 0, none⟩ (.int .i64 0)).setCell ⟨w.heap.size, 1, none⟩ (.int .i64 0)).setCell ⟨w.heap.size, 2, none⟩ (.int .i64 0)).setCell ⟨w.heap.size, 3, none⟩ (.int .i64 0)).setCell ⟨w.heap.size, 4, none⟩ (.int .i64 0)) = YF at *
      refine bodyPost_ret (v := .tuple #[.agg #[.int .i64 0, .int .i64 0, .int .i64 0, .int .i64 0, .int .i64 0], .bool false]) (by simp [results, Tryd.results20, go_sem, Z0, Z1, Z2, Z3, Z4]) rfl ⟨by rw [HR.out], BF⟩
end Go.Proofs.YtiogjocbiagipabDoor
