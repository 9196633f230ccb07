/- BoardText, the specification with a cabin. Condition: sizes. -/
import Derived.Test.YtinlcbljpclccaaDoorBoTi
import Derived.Deep.DeepCutAuto
import Derived.Deep.RegionHeld3
namespace Go.Proofs.YtinlcbljpclccaaDoor
open Go.RowKit
set_option linter.unusedVariables false
set_option maxRecDepth 100000 in
set_option maxHeartbeats 16000000 in
theorem specBT_0 (S I V G : Int) (L : Bool) (w : World) (hv : plV ⟨0, S, I, V, L, G⟩ = true) (h0 : 0 < S) :
    Calls Tryd.prog 17 #[.agg #[.int .i64 0, .int .i64 S, .int .i64 I, .int .i64 V, .bool L, .int .i64 G]] w fun e w' => e = .returned (.tuple #[.string (btT ⟨0, S, I, V, L, G⟩), .bool true]) ∧ Below w.heap.size w w' := by
  have HX : Hid (btT ⟨0, S, I, V, L, G⟩ = if L then (⟨#[99, 97, 98, 105, 110, 32]⟩ : ByteArray) ++ num I ++ (⟨#[47]⟩ : ByteArray) ++ num S ++ (⟨#[32, 115, 104, 117, 116]⟩ : ByteArray) ++ (⟨#[44, 32]⟩ : ByteArray) ++ num V ++ (⟨#[32, 119, 97, 105, 116, 105, 110, 103]⟩ : ByteArray) ++ (⟨#[32, 40, 108, 101, 118, 101, 108, 41]⟩ : ByteArray) else (⟨#[99, 97, 98, 105, 110, 32]⟩ : ByteArray) ++ num I ++ (⟨#[47]⟩ : ByteArray) ++ num S ++ (⟨#[32, 115, 104, 117, 116]⟩ : ByteArray) ++ (⟨#[44, 32]⟩ : ByteArray) ++ num V ++ (⟨#[32, 119, 97, 105, 116, 105, 110, 103]⟩ : ByteArray)) := Lib.hid (by unfold btT btA; rw [if_pos h0]; rfl)
  have hb := (plV_iff _).1 hv
  dsimp only at hb
  have E0 := Lib.hid (fun W => l14Good_cB ⟨0, S, I, V, L, G⟩ W hv)
  have z1 := num_len 1 I (by omega) (by omega)
  have z2 := num_len 1 S (by omega) (by omega)
  have z3 := num_len 2 V (by omega) (by omega)
  have K0 := Lib.hid (heap_alloc_new w (.cells #[.int .i64 0, .int .i64 S, .int .i64 I, .int .i64 V, .bool L, .int .i64 G] 25))
  have T0 := Lib.hid ((Below.refl w.heap.size w).alloc (Nat.le_refl _) (.cells #[.int .i64 0, .int .i64 S, .int .i64 I, .int .i64 V, .bool L, .int .i64 G] 25))
  have hVr : -999999 ≤ V ∧ V ≤ 999999 := by omega
  have hIr : -999999 ≤ I ∧ I ≤ 999999 := by omega
  have hSr : -999999 ≤ S ∧ S ≤ 999999 := by omega
  have kk0 : ¬ 9223372036854775807 < 6 + (num I).size := by omega
  have kk1 : ¬ 9223372036854775807 < 6 + (num I).size + 1 := by omega
  have kk2 : ¬ 9223372036854775807 < 6 + (num I).size + 1 + (num S).size := by omega
  have kk3 : ¬ 9223372036854775807 < 6 + (num I).size + 1 + (num S).size + 5 := by omega
  clear hv hb
  generalize btT ⟨0, S, I, V, L, G⟩ = TX at *
  go_enter Tryd.func17, Tryd.ntmps17
  go_wp2_with fail
  generalize w.alloc (.cells #[.int .i64 0, .int .i64 S, .int .i64 I, .int .i64 V, .bool L, .int .i64 G] 25) = W0 at *
  refine (E0.out _).mono ?_
  rintro e W1 ⟨rfl, t⟩
  have K1 := Lib.hid (blk_kept K0.out t)
  have T1 := Lib.hid (T0.out.trans (t.mono T0.out.size))
  clear t K0 T0 E0
  obtain ⟨c0, c1, c2, c3, c4, c5⟩ := blk_cell6 K1.out
  have hl1 := blk_lt K1.out
  go_wp2_with fail
  have kH0 := Lib.hid (fun m : Nat => (blk_cell6 (blk_stay (o' := (.cells #[.string ⟨#[32, 115, 104, 117, 116]⟩, .string ⟨#[32, 111, 112, 101, 110]⟩] 9)) (show (W1.drewN m).heap[w.heap.size]? = _ from K1.out))).1)
  have kH1 := Lib.hid (fun m : Nat => (blk_cell6 (blk_stay (o' := (.cells #[.string ⟨#[32, 115, 104, 117, 116]⟩, .string ⟨#[32, 111, 112, 101, 110]⟩] 9)) (show (W1.drewN m).heap[w.heap.size]? = _ from K1.out))).2.1)
  have kH2 := Lib.hid (fun m : Nat => (blk_cell6 (blk_stay (o' := (.cells #[.string ⟨#[32, 115, 104, 117, 116]⟩, .string ⟨#[32, 111, 112, 101, 110]⟩] 9)) (show (W1.drewN m).heap[w.heap.size]? = _ from K1.out))).2.2.1)
  have kHl : Hid (∀ m : Nat, ((W1.drewN m).alloc (.cells #[.string ⟨#[32, 115, 104, 117, 116]⟩, .string ⟨#[32, 111, 112, 101, 110]⟩] 9)).cell? ⟨W1.heap.size, 0, none⟩ = some (.string ⟨#[32, 115, 104, 117, 116]⟩)) := Lib.hid (fun m => (cell_of_row _ _ 0 _ _ _ (heap_alloc_new (W1.drewN m) (.cells #[.string ⟨#[32, 115, 104, 117, 116]⟩, .string ⟨#[32, 111, 112, 101, 110]⟩] 9))).trans rfl)
  have kH0a := kH0.out (1)
  have kH1a := kH1.out (1)
  have kH2a := kH2.out (1)
  have kHla := kHl.out (1)
  go_cut [4] from 11 to 25 (fun s4 wx => s4 = .string ((⟨#[99, 97, 98, 105, 110, 32]⟩ : ByteArray) ++ num I ++ (⟨#[47]⟩ : ByteArray) ++ num S ++ (⟨#[32, 115, 104, 117, 116]⟩ : ByteArray)) ∧ Hid (Below W1.heap.size W1 wx))
  case first =>
    as_aux_lemma =>
    go_region_law (first
        | (go_simp; go_at_call 28; with_reducible (show Calls _ _ #[.int .i64 I] _ _); refine (l1NumB_c I _ hIr.1 hIr.2).mono ?_; rintro e9 W9 ⟨rfl, mI, rfl⟩; have kH0b := kH0.out (1 + mI); have kH1b := kH1.out (1 + mI); have kH2b := kH2.out (1 + mI); have kHlb := kHl.out (1 + mI))
        | (go_simp; go_at_call 28; with_reducible (show Calls _ _ #[.int .i64 S] _ _); refine (l1NumB_c S _ hSr.1 hSr.2).mono ?_; rintro e9 W9 ⟨rfl, mS, rfl⟩; have kH0c := kH0.out (1 + mI + mS); have kH1c := kH1.out (1 + mI + mS); have kH2c := kH2.out (1 + mI + mS); have kHlc := kHl.out (1 + mI + mS))
        | fail)
    all_goals (try go_wp2_with fail)
    all_goals go_meet
    all_goals (case rel => exact ⟨rfl, Lib.hid (by (repeat (with_reducible (first | refine below_al ?_ _ | refine Below.drew ?_ | refine below_drewN ?_ _ | exact Below.refl _ _))); first | done | fail)⟩)
  case rest =>
    obtain ⟨rfl, hcut⟩ := hcut
    obtain ⟨W2, hY⟩ := named12 hcut
    subst hY
    have K2 := Lib.hid (blk_kept K1.out hcut.out)
    have T2 := Lib.hid (T1.out.trans (hcut.out.mono T1.out.size))
    clear hcut c0 c1 c2 c3 c4 c5 kH0 kH1 kH2 kHl kH0a kH1a kH2a kHla
    obtain ⟨c0, c1, c2, c3, c4, c5⟩ := blk_cell6 K2.out
    go_wp2_with fail
    refine (l1NumB_c V _ hVr.1 hVr.2).mono ?_
    rintro e W3 ⟨rfl, m3, hW3⟩
    have t : Below W2.heap.size W2 W3 := by rw [hW3]; exact below_drewN (Below.refl _ _) m3
    clear hW3
    have K3 := Lib.hid (blk_kept K2.out t)
    have T3 := Lib.hid (T2.out.trans (t.mono T2.out.size))
    clear t c0 c1 c2 c3 c4 c5
    obtain ⟨c0, c1, c2, c3, c4, c5⟩ := blk_cell6 K3.out
    cases L
    all_goals
      go_wp2
      go_ret2
      exact ⟨ret_tB (by have e := HX.out; first | exact e.symm | (rw [e]; simp [ByteArray.append_assoc]; done)) rfl, T3.out⟩
end Go.Proofs.YtinlcbljpclccaaDoor
