/- The program's tensions: the changes along the line, in an array. Condition: sizes. -/
import Derived.Test.YtmmjbdffpgohdaaCaseC
import Derived.Deep.RegionHeld3
import Derived.Deep.AppendLies
import Derived.WalkSpells
import Derived.StillTactics
import Derived.RangeFuncBox
import Derived.Deep.Heap
import Derived.Deep.DeepCutAuto
namespace Go.Proofs.Ytmmjbdffpgohdaa
open Go.RowKit
set_option linter.unusedVariables false
def chA (l : List Sup) (g f : Int) (k j : Nat) : Int := if j ≤ k then chg l g f j else 0
def chArr (l : List Sup) (g f : Int) (k : Nat) : Array Value := #[.int .i64 (chA l g f k 0), .int .i64 (chA l g f k 1), .int .i64 (chA l g f k 2), .int .i64 (chA l g f k 3), .int .i64 (chA l g f k 4), .int .i64 (chA l g f k 5), .int .i64 (chA l g f k 6), .int .i64 (chA l g f k 7)]
theorem chArr_at (l : List Sup) (g f : Int) (k : Nat) : ∀ j : Nat, j < 8 → (chArr l g f k)[j]? = some (.int .i64 (chA l g f k j))
  | 0, _ => rfl
  | 1, _ => rfl
  | 2, _ => rfl
  | 3, _ => rfl
  | 4, _ => rfl
  | 5, _ => rfl
  | 6, _ => rfl
  | 7, _ => rfl
  | j + 8, h => by omega
theorem chArr_set (l : List Sup) (g f : Int) : ∀ k : Nat, k < 7 → (chArr l g f k).setIfInBounds (k + 1) (.int .i64 (chg l g f (k + 1))) = chArr l g f (k + 1)
  | 0, _ => rfl
  | 1, _ => rfl
  | 2, _ => rfl
  | 3, _ => rfl
  | 4, _ => rfl
  | 5, _ => rfl
  | 6, _ => rfl
  | k + 7, h => by omega
theorem chA_le {l : List Sup} {g f : Int} {k j : Nat} (h : j ≤ k) : chA l g f k j = chg l g f j := by simp [chA, h]
theorem chA_gt {l : List Sup} {g f : Int} {k j : Nat} (h : k < j) : chA l g f k j = 0 := by
  have : ¬ j ≤ k := by omega
  simp [chA, this]
theorem heap_setC {w : World} {b i j : Nat} {v : Value} (h : b ≠ j) : (w.setCell ⟨b, i, none⟩ v).heap[j]? = w.heap[j]? := by
  simp [World.setCell, Array.getElem?_modify, h]
theorem blk_setC {w : World} {b i : Nat} {cs : Array Value} {t : TypeId} {v : Value} (h : w.heap[b]? = some (.cells cs t (0, 0))) : (w.setCell ⟨b, i, none⟩ v).heap[b]? = some (.cells (cs.setIfInBounds i v) t (0, 0)) := by
  simp [World.setCell, Array.getElem?_modify, h]
theorem load_row8 {P : Program} {w : World} {g : Nat} {t : TypeId} {A : Array Value} {fr : Nat × Nat} (h8 : A.size = 8) (hg : w.heap[g]? = some (.cells A t fr)) :
    (loadCellsFrom ⟨g, 0, none⟩ 0 8 #[]).run P w = .ok A w := by
  rw [← h8]
  have := run_loadCells_list (P := P) w ⟨g, 0, none⟩ A.toList (fun j v hv => by
    have hadd : (⟨g, 0, none⟩ : Addr).add j = ⟨g, j, none⟩ := by unfold Addr.add; split <;> simp_all
    rw [hadd, cell_of_row _ _ j A t fr hg]
    simpa using hv)
  simpa [loadCells] using this
theorem store_row8 {P : Program} {w : World} {g : Nat} {t : TypeId} {A B : Array Value} (h8 : A.size = 8) (h1 : A.all (·.oneCell') = true) (hg : w.heap[g]? = some (.cells B t (0, 0))) (hB : B.size = 8 := by rfl) :
    (storeCells ⟨g, 0, none⟩ A.toList 0).run P w = .ok () (w.setRow g A) := by
  have := run_storeCells_from (P := P) g t A.toList 0 B w hg (by simp; omega) (fun v hv => (Array.all_eq_true_iff_forall_mem.1 h1) v (by simpa using hv))
  simpa using this
theorem below_setRowC {B : Nat} {w w' : World} (h : Below B w w') {g : Nat} (A : Array Value) (hg : B ≤ g := by exact Nat.le_refl _) : Below B w (w'.setRow g A) :=
  ⟨h.os, h.tape, h.output, by rw [setRow_size]; exact h.size, fun k hk => (setRow_other w' g k A (by omega)).trans (h.block k hk)⟩
abbrev zArr : Array Value := #[.int .i64 0, .int .i64 0, .int .i64 0, .int .i64 0, .int .i64 0, .int .i64 0, .int .i64 0, .int .i64 0]
set_option maxRecDepth 100000 in
set_option maxHeartbeats 4000000 in
theorem tensionChanges_c (v : Value) (l : List Sup) (g f : Int) (w : World) (hr : Rs w v l.length (sups l)) (hl : IsL l) (hg : 1 ≤ g ∧ g ≤ 1000) (hf : -1000 ≤ f ∧ f ≤ 1000) :
    Calls Try.prog 75 #[v, .int .i64 g, .int .i64 f] w fun e w' => e = .returned (.agg (chArr l g f (l.length - 1))) ∧ Below w.heap.size w w' := by
  have h2 := hl.two
  have h8 := hl.eight
  obtain ⟨a, oa, ca, rfl, hla, hm, hs⟩ := hr.sup (by omega)
  have HR := Lib.hid hr
  have HL := Lib.hid hl
  clear hr hl hs
  go_enter Try.func75, Try.ntmps75
  go_wp2
  go_loopw [12] (fun i wr => ∃ k : Nat, k + 1 ≤ l.length ∧ i = .int .i64 k ∧ Below w.heap.size w wr ∧ w.heap.size + 1 < wr.heap.size ∧ Hid (wr.heap[w.heap.size]? = some (.cells zArr 93 (0, 0))) ∧ Hid (wr.heap[w.heap.size + 1]? = some (.cells (chArr l g f k) 93 (0, 0)))) (fun i _ => l.length - (intOf i).toNat)
  case atStart =>
    refine ⟨0, by omega, rfl, ((Below.refl _ _).alloc (Nat.le_refl _) _).alloc (by simp) _, by simp, Lib.hid ?_, Lib.hid ?_⟩
    · rw [((Below.refl (w.heap.size + 1) (w.alloc (.cells zArr 93))).alloc (by simp) _).block _ (by omega)]
      exact heap_alloc_new _ _
    · have := heap_alloc_new (w.alloc (.cells zArr 93)) (.cells zArr 93)
      rw [show (w.alloc (.cells zArr 93)).heap.size = w.heap.size + 1 by simp] at this
      exact this
  case round =>
    obtain ⟨k, hk, rfl, hb, hsz, H0, H1⟩ := hrel
    by_cases hlt : k + 1 < l.length
    · have c0 : wr.cell? ⟨w.heap.size + 1, k, none⟩ = some (.int .i64 (chg l g f k)) := by
        rw [cell_of_row wr (w.heap.size + 1) k _ _ _ H1.out, chArr_at l g f k k (by omega), chA_le (Nat.le_refl _)]
      have HS := Lib.hid (fun W (hW : Drew wr W) => spanRise_c (.slice (some ⟨a, oa, none⟩) l.length ca) l k W (HR.out.below (Drew.below_trans hb hW) rfl) HL.out hlt)
      have HN := Lib.hid (chArr_set l g f k (by omega))
      have HC := Lib.hid (chg_succ l g f k)
      have e1 := gs_bd hg (srise_bd HL.out hlt)
      have e2 := chg_in HL.out hg hf (k := k) (by omega)
      generalize srise l k = S at *
      generalize chg l g f k = C at *
      have s1 : IntKind.i64.wrap (g * S) = g * S := IntWalk.i64_in _ (by omega)
      have s2 : IntKind.i64.wrap (C + g * S) = C + g * S := IntWalk.i64_in _ (by omega)
      have s3 : IntKind.i64.wrap (C + g * S + f) = C + g * S + f := IntWalk.i64_in _ (by omega)
      obtain ⟨p1, p2, p3⟩ := succ_in k (by omega)
      have hlt' : (k : Int) < (l.length : Int) - 1 := by omega
      have k8 : k < 8 := by omega
      have k9 : k + 1 < 8 := by omega
      have k8i : (k : Int) < 8 := by omega
      have k9i : (k : Int) + 1 < 8 := by omega
      have c0d : wr.drew.cell? ⟨w.heap.size + 1, k, none⟩ = some (.int .i64 C) := c0
      have HA := Lib.hid H1.out
      have HB := Lib.hid hb
      go_wp2_with fail
      go_region_held3 (fun w' => w'.cell? ⟨w.heap.size + 1, k, none⟩ = some (.int .i64 C)) (first | exact c0 | exact c0d | exact ce | exact (ks _))
        (first
        | (go_at_call 100; refine (HS.out _ (by first | exact ⟨0, rfl⟩ | exact ⟨1, rfl⟩ | fail)).mono ?_; rintro e w4 ⟨rfl, d4⟩; have D4 : Drew wr w4 := (by first | exact d4 | exact (Drew.trans ⟨1, rfl⟩ d4) | fail); have K4 := (D4.below wr.heap.size).block (w.heap.size + 1) (by omega) |>.trans HA.out; have ce := (D4.cell ⟨w.heap.size + 1, k, none⟩).trans c0; have cn := cell_of_row w4 (w.heap.size + 1) (k + 1) _ _ _ K4; rw [chArr_at l g f k (k + 1) (by omega)] at cn; have cf := frozen_of_row w4 (w.heap.size + 1) (k + 1) _ _ K4; have ks : ∀ v, (w4.setCell ⟨w.heap.size + 1, k + 1, none⟩ v).cell? ⟨w.heap.size + 1, k, none⟩ = some (.int .i64 C) := (fun v => by rw [cell_of_row _ _ k _ _ _ (blk_setC (i := k + 1) (v := v) K4), Array.getElem?_setIfInBounds_ne (by omega), ← cell_of_row w4 _ k _ _ _ K4]; exact ce)))
      have HK1 : Hid ((w4.setCell ⟨w.heap.size + 1, k + 1, none⟩ (.int .i64 (C + g * S + f))).heap[w.heap.size + 1]? = some (.cells (chArr l g f (k + 1)) 93 (0, 0))) := Lib.hid (by
        rw [blk_setC K4, ← HC.out, HN.out])
      have HK0 : Hid ((w4.setCell ⟨w.heap.size + 1, k + 1, none⟩ (.int .i64 (C + g * S + f))).heap[w.heap.size]? = some (.cells zArr 93 (0, 0))) := Lib.hid (by
        rw [heap_setC (by omega)]
        exact ((D4.below wr.heap.size).block w.heap.size (by omega)).trans H0.out)
      have hz : (w4.setCell ⟨w.heap.size + 1, k + 1, none⟩ (.int .i64 (C + g * S + f))).heap.size = wr.heap.size := by rw [Go.Deep.nblk_setCell, D4.size]
      have HB4 := Lib.hid ((Drew.below_trans HB.out D4).setCell (by show w.heap.size ≤ w.heap.size + 1; omega) (p := ⟨w.heap.size + 1, k + 1, none⟩) (.int .i64 (C + g * S + f)))
      clear K4 ce cn cf ks c0 c0d s1 s2 s3 H0 H1 HS HN p2 p3
      go_wp2
      go_roundw
      case rel => exact ⟨k + 1, by omega, by go_num, HB4.out, by rw [hz]; omega, HK0, HK1⟩
      case measure => simp [intOf]; omega
    · obtain rfl : k = l.length - 1 := by omega
      obtain ⟨A, hA⟩ : ∃ A, A = chArr l g f (l.length - 1) := ⟨_, rfl⟩
      have h8A : A.size = 8 := by rw [hA]; rfl
      have h1A : A.all (·.oneCell') = true := by rw [hA]; simp [chArr, Value.oneCell']
      rw [← hA] at H1
      have HAe := Lib.hid hA
      clear hA
      have HK0 := Lib.hid H0.out
      have HBW := Lib.hid (below_setRowC hb A)
      have HI : Hid ((Try.prog.info? 93).map (·.size) = some A.size) := Lib.hid (by rw [h8A]; kernel_rfl)
      have H8 : Hid (A.size = 8) := Lib.hid h8A
      clear h8A
      go_upto_region 7 with fail
      refine wp_region_lit ?_
      refine wpList_load_row rfl 93 _ rfl (w.heap.size + 1) rfl 93 A (0, 0) _ H1.out Try.underlying93 rfl HI.out ?_
      refine wpList_store_row rfl 93 _ _ rfl w.heap.size A rfl rfl 93 zArr HK0.out HI.out (by rw [H8.out]; rfl) h1A ?_
      go_wp2
      refine bodyPost_ret (v := .agg A) (results_cell_row rfl _ _ w.heap.size 93 A (0, 0) _ rfl (setRow_heap wr w.heap.size zArr A _ _ HK0.out) Try.underlying93 rfl HI.out) rfl ⟨by rw [HAe.out], HBW.out⟩
end Go.Proofs.Ytmmjbdffpgohdaa
