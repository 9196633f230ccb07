/- The sum of any number of fractions. Condition: sizes. -/
import Derived.Test.YtmmjbdffpgohdaaFracC
import Derived.Test.YtmmjbdffpgohdaaRatS
import Derived.Test.YtmmjbdffpgohdaaAft
import Derived.Deep.Heap
namespace Go.Proofs.Ytmmjbdffpgohdaa
open Go.RowKit
set_option linter.unusedVariables false
/-- One more fraction. -/
def stepF (s t : Rat) : Rat := ⟨rN (s.n * t.d + t.n * s.d) (s.d * t.d), rD (s.n * t.d + t.n * s.d) (s.d * t.d)⟩
def sumF (ts : List Rat) : Rat := ts.foldl stepF ⟨0, 1⟩
theorem sumF_take (ts : List Rat) (k : Nat) (h : k < ts.length) : sumF (ts.take (k + 1)) = stepF (sumF (ts.take k)) (gth ts k) := by
  rw [take_gth ts k h, sumF, List.foldl_append]; rfl
/-- Each step's products and its sum are within bounds. -/
def FineS (s t : Rat) : Prop := (-576460752303423488 ≤ s.n * t.d ∧ s.n * t.d ≤ 576460752303423488) ∧ (-576460752303423488 ≤ t.n * s.d ∧ t.n * s.d ≤ 576460752303423488) ∧ 0 < s.d * t.d ∧ s.d * t.d ≤ 1152921504606846976
def Fine (ts : List Rat) : Prop := ∀ k, k < ts.length → FineS (sumF (ts.take k)) (gth ts k)
theorem heap_set {w : World} {b i j : Nat} {v : Value} (h : b ≠ j) : (w.setCell ⟨b, i, none⟩ v).heap[j]? = w.heap[j]? := by
  simp [World.setCell, Array.getElem?_modify, h]
theorem blk_set {w : World} {b i : Nat} {cs : Array Value} {t : TypeId} {v : Value} (h : w.heap[b]? = some (.cells cs t (0, 0))) : (w.setCell ⟨b, i, none⟩ v).heap[b]? = some (.cells (cs.setIfInBounds i v) t (0, 0)) := by
  simp [World.setCell, Array.getElem?_modify, h]
set_option maxRecDepth 100000 in
set_option maxHeartbeats 4000000 in
theorem sumOf_c (v : Value) (ts : List Rat) (w : World) (hr : Rs w v ts.length (rats ts)) (hn : ts.length ≤ 1048576) (hf : Fine ts) :
    Calls Try.prog 62 #[v] w fun e w' => e = .returned (.agg #[.int .i64 (sumF ts).n, .int .i64 (sumF ts).d]) ∧ Below w.heap.size w w' := by
  obtain ⟨ao, a, oa, ca, rfl, hao, hat⟩ := hr.form_Rat
  have HA := Lib.hid hao
  have HL := Lib.hid hat
  have HF := Lib.hid hf
  clear hr hao hat hf
  go_enter Try.func62, Try.ntmps62
  go_wp2
  go_loopw [11] (fun i wr => ∃ j : Nat, j ≤ ts.length ∧ i = .int .i64 j ∧ Below w.heap.size w wr ∧ w.heap.size + 1 < wr.heap.size ∧ Hid (wr.heap[w.heap.size]? = some (.cells #[.int .i64 0, .int .i64 0] 80 (0, 0))) ∧ Hid (wr.heap[w.heap.size + 1]? = some (.cells #[.int .i64 (sumF (ts.take j)).n, .int .i64 (sumF (ts.take j)).d] 80 (0, 0)))) (fun i _ => ts.length - (intOf i).toNat)
  case atStart =>
    refine ⟨0, Nat.zero_le _, rfl, ((Below.refl _ _).alloc (Nat.le_refl _) _).alloc (by simp) _, by simp, Lib.hid ?_, Lib.hid ?_⟩
    · rw [((Below.refl (w.heap.size + 1) (w.alloc (.cells #[.int .i64 0, .int .i64 0] 80))).alloc (by simp) _).block _ (by omega)]
      exact heap_alloc_new _ _
    · have := heap_alloc_new (w.alloc (.cells #[.int .i64 0, .int .i64 0] 80)) (.cells #[.int .i64 0, .int .i64 1] 80)
      rw [show (w.alloc (.cells #[.int .i64 0, .int .i64 0] 80)).heap.size = w.heap.size + 1 by simp] at this
      exact this
  case round =>
    obtain ⟨j, hj, rfl, hb, hsz, H0, H1⟩ := hrel
    by_cases hlt : j < ts.length
    · obtain ⟨rfl, hla, hlm⟩ := HA.out (by omega)
      obtain ⟨c0, c1⟩ := (HL.out.below hb hla) j hlt
      have HS := Lib.hid (sumF_take ts j hlt)
      obtain ⟨⟨f1, f2⟩, ⟨f3, f4⟩, f5, f6⟩ := HF.out j hlt
      have hlaw : a < wr.heap.size := by omega
      generalize sumF (ts.take j) = s at *
      generalize gth ts j = t at *
      have p0 := cell_of_row wr (w.heap.size + 1) 0 _ _ _ H1.out
      have p1 := cell_of_row wr (w.heap.size + 1) 1 _ _ _ H1.out
      have m0 := frozen_of_row wr (w.heap.size + 1) 0 _ _ H1.out
      have m1 := frozen_of_row wr (w.heap.size + 1) 1 _ _ H1.out
      simp at p0 p1
      have s1 : IntKind.i64.wrap (s.n * t.d) = s.n * t.d := IntWalk.i64_in _ (by omega)
      have s2 : IntKind.i64.wrap (t.n * s.d) = t.n * s.d := IntWalk.i64_in _ (by omega)
      have s3 : IntKind.i64.wrap (s.n * t.d + t.n * s.d) = s.n * t.d + t.n * s.d := IntWalk.i64_in _ (by omega)
      have s4 : IntKind.i64.wrap (s.d * t.d) = s.d * t.d := IntWalk.i64_in _ (by omega)
      have d0 : (wr.alloc (.cells #[.int .i64 t.n, .int .i64 t.d] 80)).cell? ⟨wr.heap.size, 0, none⟩ = some (.int .i64 t.n) := by rw [World.cell?_alloc_at _ _ _ _ rfl]; rfl
      have d1 : (wr.alloc (.cells #[.int .i64 t.n, .int .i64 t.d] 80)).cell? ⟨wr.heap.size, 1, none⟩ = some (.int .i64 t.d) := by rw [World.cell?_alloc_at _ _ _ _ rfl]; rfl
      go_wp2_with fail
      refine (fraction_g _ _ _ (by omega) (by omega) f5 f6).mono ?_
      rintro e w2 ⟨rfl, d2⟩
      have B2 : Below wr.heap.size wr w2 := Drew.below_trans ((Below.refl _ _).alloc (Nat.le_refl _) _) d2
      have K1 := (B2.block (w.heap.size + 1) (by omega)).trans H1.out
      have K0 := (B2.block w.heap.size (by omega)).trans H0.out
      have hs2 := B2.size
      have HB := Lib.hid (hb.trans (B2.mono hb.size))
      have HP : Hid (sumF (ts.take (j + 1)) = ⟨rN (s.n * t.d + t.n * s.d) (s.d * t.d), rD (s.n * t.d + t.n * s.d) (s.d * t.d)⟩) := HS
      clear p0 p1 m0 m1 d0 d1 c0 c1 s1 s2 s3 s4 f1 f2 f3 f4 f5 f6 B2 d2 HS
      generalize rN (s.n * t.d + t.n * s.d) (s.d * t.d) = N at *
      generalize rD (s.n * t.d + t.n * s.d) (s.d * t.d) = D at *
      have p0 := cell_of_row w2 (w.heap.size + 1) 0 _ _ _ K1
      have p1 := cell_of_row w2 (w.heap.size + 1) 1 _ _ _ K1
      have m0 := frozen_of_row w2 (w.heap.size + 1) 0 _ _ K1
      have m1 := frozen_of_row w2 (w.heap.size + 1) 1 _ _ K1
      simp at p0 p1
      have HK1 := Lib.hid (blk_set (i := 1) (v := .int .i64 D) (blk_set (i := 0) (v := .int .i64 N) K1))
      have HK0 : Hid (((w2.setCell ⟨w.heap.size + 1, 0, none⟩ (.int .i64 N)).setCell ⟨w.heap.size + 1, 1, none⟩ (.int .i64 D)).heap[w.heap.size]? = some (.cells #[.int .i64 0, .int .i64 0] 80 (0, 0))) := Lib.hid (by
        rw [heap_set (by omega), heap_set (by omega)]; exact K0)
      have hz : ((w2.setCell ⟨w.heap.size + 1, 0, none⟩ (.int .i64 N)).setCell ⟨w.heap.size + 1, 1, none⟩ (.int .i64 D)).heap.size = w2.heap.size := by rw [Go.Deep.nblk_setCell, Go.Deep.nblk_setCell]
      clear K0 K1
      go_wp2
      go_roundw
      case rel =>
        refine ⟨j + 1, by omega, by go_num, (HB.out.setCell (by show w.heap.size ≤ w.heap.size + 1; omega) _).setCell (by show w.heap.size ≤ w.heap.size + 1; omega) _, by rw [hz]; omega, HK0, Lib.hid ?_⟩
        rw [HK1.out, HP.out]; rfl
      case measure => simp [intOf]; omega
    · obtain rfl : j = ts.length := by omega
      have hT : ts.take ts.length = ts := List.take_length
      rw [hT] at H1
      have p0 := cell_of_row wr (w.heap.size + 1) 0 _ _ _ H1.out
      have p1 := cell_of_row wr (w.heap.size + 1) 1 _ _ _ H1.out
      have q0 := cell_of_row wr w.heap.size 0 _ _ _ H0.out
      have q1 := cell_of_row wr w.heap.size 1 _ _ _ H0.out
      have m0 := frozen_of_row wr w.heap.size 0 _ _ H0.out
      have m1 := frozen_of_row wr w.heap.size 1 _ _ H0.out
      simp at p0 p1 q0 q1
      have b0 := blk_set (i := 0) (v := .int .i64 (sumF ts).n) H0.out
      have z0 := cell_of_row _ w.heap.size 0 _ _ _ b0
      have b1 := blk_set (i := 1) (v := .int .i64 (sumF ts).d) b0
      have z1 := cell_of_row _ w.heap.size 1 _ _ _ b1
      simp at z0 z1
      have Z0 := Lib.hid z0
      have Z1 := Lib.hid z1
      clear b0 b1 z0 z1
      go_wp2
      refine bodyPost_ret (v := .agg #[.int .i64 (sumF ts).n, .int .i64 (sumF ts).d]) (by simp [results, Try.results62, go_sem, Z0.out, Z1.out]) rfl ⟨rfl, ?_⟩
      exact (hb.setCell (Nat.le_refl _) _).setCell (Nat.le_refl _) _
end Go.Proofs.Ytmmjbdffpgohdaa
