/- BoardText: the program's and the specification's answer as one function. Condition: the tables are as laid. -/
import Derived.Test.YtinlcbljpclccaaDoorBpA
import Derived.Test.YtinlcbljpclccaaDoorLawK
import Derived.Test.YtinlcbljpclccaaDoorAft
import Derived.Test.YtinlcbljpclccaaDoorFmtW
import Derived.Deep.DeepCutAuto
import Derived.Deep.RegionHeld3
namespace Go.Proofs.YtinlcbljpclccaaDoor
open Go.RowKit
set_option linter.unusedVariables false
/-- The text of a platform. -/
def btA (p : Plt) : ByteArray := if 0 < p.s then (⟨#[99, 97, 98, 105, 110, 32]⟩ : ByteArray) ++ num p.i ++ (⟨#[47]⟩ : ByteArray) ++ num p.s ++ (if p.d = 1 then (⟨#[32, 111, 112, 101, 110]⟩ : ByteArray) else (⟨#[32, 115, 104, 117, 116]⟩ : ByteArray)) else (⟨#[110, 111, 32, 99, 97, 98, 105, 110]⟩ : ByteArray)
def btT (p : Plt) : ByteArray := if p.l then btA p ++ (⟨#[44, 32]⟩ : ByteArray) ++ num p.w ++ (⟨#[32, 119, 97, 105, 116, 105, 110, 103]⟩ : ByteArray) ++ (⟨#[32, 40, 108, 101, 118, 101, 108, 41]⟩ : ByteArray) else btA p ++ (⟨#[44, 32]⟩ : ByteArray) ++ num p.w ++ (⟨#[32, 119, 97, 105, 116, 105, 110, 103]⟩ : ByteArray)
def btV (p : Plt) : ByteArray := if plV p then btT p else ⟨#[]⟩
theorem bt_no {p : Plt} (h : plV p = false) : btV p = ⟨#[]⟩ := by simp [btV, h]
theorem bt_yes {p : Plt} (h : plV p = true) : btV p = btT p := by simp [btV, h]
theorem itoaB_c (n : Int) (w : World) (h0 : -9223372036854775808 ≤ n) (h1 : n ≤ 9223372036854775807) (ht : TabP w) :
    Calls Tryd.prog 27 #[.int .i64 n] w fun e w' => e = .returned (.string (num n)) ∧ Below w.heap.size w w' :=
  (Tryd.strconv_Itoa n h0 h1 w ht).mono fun _ _ ⟨he, k, os, hw⟩ => ⟨he, by rw [hw]; exact below_grow _ _ _⟩
theorem l1NumB_c (n : Int) (w : World) (h0 : -999999 ≤ n) (h1 : n ≤ 999999) :
    Calls Tryd.prog 28 #[.int .i64 n] w fun e w' => e = .returned (.string (num n)) ∧ ∃ m, w' = w.drewN m := l1Num_any n w (by omega) (by omega)
theorem l1NumC_c (n : Int) (w : World) (h0 : -999999 ≤ n) (h1 : n ≤ 999999) :
    Calls Tryd.prog 28 #[.int .i64 n] w fun e w' => e = .returned (.string (num n)) ∧ Below w.heap.size w w' :=
  (l1NumB_c n w h0 h1).mono fun _ _ ⟨he, m, hw⟩ => ⟨he, by rw [hw]; exact below_drewN (Below.refl _ _) m⟩
theorem ret_tB {a b : ByteArray} {c d : Bool} (h : a = b) (g : c = d) : Ending.returned (.tuple #[.string a, .bool c]) = .returned (.tuple #[.string b, .bool d]) := by rw [h, g]
theorem l14Good_cB (p : Plt) (w : World) (h : plV p = true) :
    Calls Tryd.prog 21 #[.agg #[.int .i64 p.d, .int .i64 p.s, .int .i64 p.i, .int .i64 p.w, .bool p.l, .int .i64 p.g]] w fun e w' => e = .returned (.bool true) ∧ Below w.heap.size w w' := by
  have h1 := l14Good_c p w; rw [h] at h1; exact h1
theorem implIsPlatform_cB (p : Plt) (w : World) (h : plV p = true) :
    Calls Tryd.prog 18 #[.agg #[.int .i64 p.d, .int .i64 p.s, .int .i64 p.i, .int .i64 p.w, .bool p.l, .int .i64 p.g]] w fun e w' => e = .returned (.bool true) ∧ Below w.heap.size w w' := by
  have h1 := implIsPlatform_c p w; rw [h] at h1; exact h1
set_option maxRecDepth 100000 in
set_option maxHeartbeats 4000000 in
theorem implBT_0_0_c (S I V G : Int) (w : World) (hv : plV ⟨0, S, I, V, false, G⟩ = true) (h0 : 0 < S) (ht : TabP w) :
    Calls Tryd.prog 16 #[.agg #[.int .i64 0, .int .i64 S, .int .i64 I, .int .i64 V, .bool false, .int .i64 G]] w fun e w' => e = .returned (.tuple #[.string (btT ⟨0, S, I, V, false, G⟩), .bool true]) ∧ Below w.heap.size w w' := by
  have HX : Hid (btT ⟨0, S, I, V, false, G⟩ = (⟨#[99, 97, 98, 105, 110, 32]⟩ : ByteArray) ++ num I ++ (⟨#[47]⟩ : ByteArray) ++ num S ++ (⟨#[32, 115, 104, 117, 116]⟩ : ByteArray) ++ (⟨#[44, 32]⟩ : ByteArray) ++ num V ++ (⟨#[32, 119, 97, 105, 116, 105, 110, 103]⟩ : ByteArray)) := Lib.hid (by unfold btT btA; rw [if_pos h0]; rfl)
  have hb := (plV_iff _).1 hv
  dsimp only at hb
  have E0 := Lib.hid (fun W => implIsPlatform_cB ⟨0, S, I, V, false, G⟩ W hv)
  have z1 := num_len 1 I (by omega) (by omega)
  have z2 := num_len 1 S (by omega) (by omega)
  have z3 := num_len 2 V (by omega) (by omega)
  have K0 := Lib.hid (heap_alloc_new w (.cells #[.int .i64 0, .int .i64 S, .int .i64 I, .int .i64 V, .bool false, .int .i64 G] 25))
  have T0 := Lib.hid ((Below.refl w.heap.size w).alloc (Nat.le_refl _) (.cells #[.int .i64 0, .int .i64 S, .int .i64 I, .int .i64 V, .bool false, .int .i64 G] 25))
  have HTB : Hid (∀ W, Below w.heap.size w W → TabP W) := Lib.hid (fun W hW => ht.below hW)
  clear ht
  have hVr : -999999 ≤ V ∧ V ≤ 999999 := by omega
  have hIr : -999999 ≤ I ∧ I ≤ 999999 := by omega
  have hSr : -999999 ≤ S ∧ S ≤ 999999 := by omega
  clear hv hb
  generalize btT ⟨0, S, I, V, false, G⟩ = TX at *
  go_enter Tryd.func16, Tryd.ntmps16
  go_wp2_with fail
  generalize w.alloc (.cells #[.int .i64 0, .int .i64 S, .int .i64 I, .int .i64 V, .bool false, .int .i64 G] 25) = W0 at *
  refine (E0.out _).mono ?_
  rintro e W1 ⟨rfl, t⟩
  have K1 := Lib.hid (blk_kept K0.out t)
  have T1 := Lib.hid (T0.out.trans (t.mono T0.out.size))
  clear t K0 T0 E0
  obtain ⟨c0, c1, c2, c3, c4, c5⟩ := blk_cell6 K1.out
  have hl1 := blk_lt K1.out
  go_wp2_with fail
  have HTA : Hid (∀ x : Aft W1, TabP x.w) := Lib.hid (fun x => HTB.out _ (T1.out.trans (x.below.mono T1.out.size)))
  have D0 : ∀ x : Aft W1, x.w.cell? ⟨w.heap.size, 0, none⟩ = some (.int .i64 0) := fun x => x.cell c0
  have D1 : ∀ x : Aft W1, x.w.cell? ⟨w.heap.size, 1, none⟩ = some (.int .i64 S) := fun x => x.cell c1
  have D2 : ∀ x : Aft W1, x.w.cell? ⟨w.heap.size, 2, none⟩ = some (.int .i64 I) := fun x => x.cell c2
  have D3 : ∀ x : Aft W1, x.w.cell? ⟨w.heap.size, 3, none⟩ = some (.int .i64 V) := fun x => x.cell c3
  have D4 : ∀ x : Aft W1, x.w.cell? ⟨w.heap.size, 4, none⟩ = some (.bool false) := fun x => x.cell c4
  have D5 : ∀ x : Aft W1, x.w.cell? ⟨w.heap.size, 5, none⟩ = some (.int .i64 G) := fun x => x.cell c5
  clear c0 c1 c2 c3 c4 c5
  refine wp_region_aft (w0 := W1) (by kernel_rfl) (by kernel_rfl) (Below.refl _ _) ?_
  repeat (go_big_quiet_step ((go_at_call 27; exact aft_of (itoaB_c _ _ (by omega) (by omega) (HTA.out _)))))
  refine wpQuiet_nil ?_
  rintro _ ⟨x, rfl⟩
  have K2 := Lib.hid (blk_kept K1.out x.below)
  have T2 := Lib.hid (T1.out.trans (x.below.mono T1.out.size))
  clear D0 D1 D2 D3 D4 D5 HTA
  generalize x.w = W2 at *
  obtain ⟨c0, c1, c2, c3, c4, c5⟩ := blk_cell6 K2.out
  go_wp2_with fail
  refine (itoaB_c V _ (by omega) (by omega) (HTB.out _ T2.out)).mono ?_
  rintro e W3 ⟨rfl, t⟩
  have K3 := Lib.hid (blk_kept K2.out t)
  have T3 := Lib.hid (T2.out.trans (t.mono T2.out.size))
  clear t c0 c1 c2 c3 c4 c5
  obtain ⟨c0, c1, c2, c3, c4, c5⟩ := blk_cell6 K3.out
  go_wp2
  go_ret2
  exact ⟨ret_tB (by have e := HX.out; first | exact e.symm | (rw [e]; simp [ByteArray.append_assoc]; done)) rfl, T3.out⟩
set_option maxRecDepth 100000 in
set_option maxHeartbeats 4000000 in
theorem implBT_0_1_c (S I V G : Int) (w : World) (hv : plV ⟨0, S, I, V, true, G⟩ = true) (h0 : 0 < S) (ht : TabP w) :
    Calls Tryd.prog 16 #[.agg #[.int .i64 0, .int .i64 S, .int .i64 I, .int .i64 V, .bool true, .int .i64 G]] w fun e w' => e = .returned (.tuple #[.string (btT ⟨0, S, I, V, true, G⟩), .bool true]) ∧ Below w.heap.size w w' := by
  have HX : Hid (btT ⟨0, S, I, V, true, G⟩ = (⟨#[99, 97, 98, 105, 110, 32]⟩ : ByteArray) ++ num I ++ (⟨#[47]⟩ : ByteArray) ++ num S ++ (⟨#[32, 115, 104, 117, 116]⟩ : ByteArray) ++ (⟨#[44, 32]⟩ : ByteArray) ++ num V ++ (⟨#[32, 119, 97, 105, 116, 105, 110, 103]⟩ : ByteArray) ++ (⟨#[32, 40, 108, 101, 118, 101, 108, 41]⟩ : ByteArray)) := Lib.hid (by unfold btT btA; rw [if_pos h0]; rfl)
  have hb := (plV_iff _).1 hv
  dsimp only at hb
  have E0 := Lib.hid (fun W => implIsPlatform_cB ⟨0, S, I, V, true, G⟩ W hv)
  have z1 := num_len 1 I (by omega) (by omega)
  have z2 := num_len 1 S (by omega) (by omega)
  have z3 := num_len 2 V (by omega) (by omega)
  have K0 := Lib.hid (heap_alloc_new w (.cells #[.int .i64 0, .int .i64 S, .int .i64 I, .int .i64 V, .bool true, .int .i64 G] 25))
  have T0 := Lib.hid ((Below.refl w.heap.size w).alloc (Nat.le_refl _) (.cells #[.int .i64 0, .int .i64 S, .int .i64 I, .int .i64 V, .bool true, .int .i64 G] 25))
  have HTB : Hid (∀ W, Below w.heap.size w W → TabP W) := Lib.hid (fun W hW => ht.below hW)
  clear ht
  have hVr : -999999 ≤ V ∧ V ≤ 999999 := by omega
  have hIr : -999999 ≤ I ∧ I ≤ 999999 := by omega
  have hSr : -999999 ≤ S ∧ S ≤ 999999 := by omega
  clear hv hb
  generalize btT ⟨0, S, I, V, true, G⟩ = TX at *
  go_enter Tryd.func16, Tryd.ntmps16
  go_wp2_with fail
  generalize w.alloc (.cells #[.int .i64 0, .int .i64 S, .int .i64 I, .int .i64 V, .bool true, .int .i64 G] 25) = W0 at *
  refine (E0.out _).mono ?_
  rintro e W1 ⟨rfl, t⟩
  have K1 := Lib.hid (blk_kept K0.out t)
  have T1 := Lib.hid (T0.out.trans (t.mono T0.out.size))
  clear t K0 T0 E0
  obtain ⟨c0, c1, c2, c3, c4, c5⟩ := blk_cell6 K1.out
  have hl1 := blk_lt K1.out
  go_wp2_with fail
  have HTA : Hid (∀ x : Aft W1, TabP x.w) := Lib.hid (fun x => HTB.out _ (T1.out.trans (x.below.mono T1.out.size)))
  have D0 : ∀ x : Aft W1, x.w.cell? ⟨w.heap.size, 0, none⟩ = some (.int .i64 0) := fun x => x.cell c0
  have D1 : ∀ x : Aft W1, x.w.cell? ⟨w.heap.size, 1, none⟩ = some (.int .i64 S) := fun x => x.cell c1
  have D2 : ∀ x : Aft W1, x.w.cell? ⟨w.heap.size, 2, none⟩ = some (.int .i64 I) := fun x => x.cell c2
  have D3 : ∀ x : Aft W1, x.w.cell? ⟨w.heap.size, 3, none⟩ = some (.int .i64 V) := fun x => x.cell c3
  have D4 : ∀ x : Aft W1, x.w.cell? ⟨w.heap.size, 4, none⟩ = some (.bool true) := fun x => x.cell c4
  have D5 : ∀ x : Aft W1, x.w.cell? ⟨w.heap.size, 5, none⟩ = some (.int .i64 G) := fun x => x.cell c5
  clear c0 c1 c2 c3 c4 c5
  refine wp_region_aft (w0 := W1) (by kernel_rfl) (by kernel_rfl) (Below.refl _ _) ?_
  repeat (go_big_quiet_step ((go_at_call 27; exact aft_of (itoaB_c _ _ (by omega) (by omega) (HTA.out _)))))
  refine wpQuiet_nil ?_
  rintro _ ⟨x, rfl⟩
  have K2 := Lib.hid (blk_kept K1.out x.below)
  have T2 := Lib.hid (T1.out.trans (x.below.mono T1.out.size))
  clear D0 D1 D2 D3 D4 D5 HTA
  generalize x.w = W2 at *
  obtain ⟨c0, c1, c2, c3, c4, c5⟩ := blk_cell6 K2.out
  go_wp2_with fail
  refine (itoaB_c V _ (by omega) (by omega) (HTB.out _ T2.out)).mono ?_
  rintro e W3 ⟨rfl, t⟩
  have K3 := Lib.hid (blk_kept K2.out t)
  have T3 := Lib.hid (T2.out.trans (t.mono T2.out.size))
  clear t c0 c1 c2 c3 c4 c5
  obtain ⟨c0, c1, c2, c3, c4, c5⟩ := blk_cell6 K3.out
  go_wp2
  go_ret2
  exact ⟨ret_tB (by have e := HX.out; first | exact e.symm | (rw [e]; simp [ByteArray.append_assoc]; done)) rfl, T3.out⟩
set_option maxRecDepth 100000 in
set_option maxHeartbeats 4000000 in
theorem implBT_1_0_c (S I V G : Int) (w : World) (hv : plV ⟨1, S, I, V, false, G⟩ = true) (h0 : 0 < S) (ht : TabP w) :
    Calls Tryd.prog 16 #[.agg #[.int .i64 1, .int .i64 S, .int .i64 I, .int .i64 V, .bool false, .int .i64 G]] w fun e w' => e = .returned (.tuple #[.string (btT ⟨1, S, I, V, false, G⟩), .bool true]) ∧ Below w.heap.size w w' := by
  have HX : Hid (btT ⟨1, S, I, V, false, G⟩ = (⟨#[99, 97, 98, 105, 110, 32]⟩ : ByteArray) ++ num I ++ (⟨#[47]⟩ : ByteArray) ++ num S ++ (⟨#[32, 111, 112, 101, 110]⟩ : ByteArray) ++ (⟨#[44, 32]⟩ : ByteArray) ++ num V ++ (⟨#[32, 119, 97, 105, 116, 105, 110, 103]⟩ : ByteArray)) := Lib.hid (by unfold btT btA; rw [if_pos h0]; rfl)
  have hb := (plV_iff _).1 hv
  dsimp only at hb
  have E0 := Lib.hid (fun W => implIsPlatform_cB ⟨1, S, I, V, false, G⟩ W hv)
  have z1 := num_len 1 I (by omega) (by omega)
  have z2 := num_len 1 S (by omega) (by omega)
  have z3 := num_len 2 V (by omega) (by omega)
  have K0 := Lib.hid (heap_alloc_new w (.cells #[.int .i64 1, .int .i64 S, .int .i64 I, .int .i64 V, .bool false, .int .i64 G] 25))
  have T0 := Lib.hid ((Below.refl w.heap.size w).alloc (Nat.le_refl _) (.cells #[.int .i64 1, .int .i64 S, .int .i64 I, .int .i64 V, .bool false, .int .i64 G] 25))
  have HTB : Hid (∀ W, Below w.heap.size w W → TabP W) := Lib.hid (fun W hW => ht.below hW)
  clear ht
  have hVr : -999999 ≤ V ∧ V ≤ 999999 := by omega
  have hIr : -999999 ≤ I ∧ I ≤ 999999 := by omega
  have hSr : -999999 ≤ S ∧ S ≤ 999999 := by omega
  clear hv hb
  generalize btT ⟨1, S, I, V, false, G⟩ = TX at *
  go_enter Tryd.func16, Tryd.ntmps16
  go_wp2_with fail
  generalize w.alloc (.cells #[.int .i64 1, .int .i64 S, .int .i64 I, .int .i64 V, .bool false, .int .i64 G] 25) = W0 at *
  refine (E0.out _).mono ?_
  rintro e W1 ⟨rfl, t⟩
  have K1 := Lib.hid (blk_kept K0.out t)
  have T1 := Lib.hid (T0.out.trans (t.mono T0.out.size))
  clear t K0 T0 E0
  obtain ⟨c0, c1, c2, c3, c4, c5⟩ := blk_cell6 K1.out
  have hl1 := blk_lt K1.out
  go_wp2_with fail
  have HTA : Hid (∀ x : Aft W1, TabP x.w) := Lib.hid (fun x => HTB.out _ (T1.out.trans (x.below.mono T1.out.size)))
  have D0 : ∀ x : Aft W1, x.w.cell? ⟨w.heap.size, 0, none⟩ = some (.int .i64 1) := fun x => x.cell c0
  have D1 : ∀ x : Aft W1, x.w.cell? ⟨w.heap.size, 1, none⟩ = some (.int .i64 S) := fun x => x.cell c1
  have D2 : ∀ x : Aft W1, x.w.cell? ⟨w.heap.size, 2, none⟩ = some (.int .i64 I) := fun x => x.cell c2
  have D3 : ∀ x : Aft W1, x.w.cell? ⟨w.heap.size, 3, none⟩ = some (.int .i64 V) := fun x => x.cell c3
  have D4 : ∀ x : Aft W1, x.w.cell? ⟨w.heap.size, 4, none⟩ = some (.bool false) := fun x => x.cell c4
  have D5 : ∀ x : Aft W1, x.w.cell? ⟨w.heap.size, 5, none⟩ = some (.int .i64 G) := fun x => x.cell c5
  clear c0 c1 c2 c3 c4 c5
  refine wp_region_aft (w0 := W1) (by kernel_rfl) (by kernel_rfl) (Below.refl _ _) ?_
  repeat (go_big_quiet_step ((go_at_call 27; exact aft_of (itoaB_c _ _ (by omega) (by omega) (HTA.out _)))))
  refine wpQuiet_nil ?_
  rintro _ ⟨x, rfl⟩
  have K2 := Lib.hid (blk_kept K1.out x.below)
  have T2 := Lib.hid (T1.out.trans (x.below.mono T1.out.size))
  clear D0 D1 D2 D3 D4 D5 HTA
  generalize x.w = W2 at *
  obtain ⟨c0, c1, c2, c3, c4, c5⟩ := blk_cell6 K2.out
  go_wp2_with fail
  refine (itoaB_c V _ (by omega) (by omega) (HTB.out _ T2.out)).mono ?_
  rintro e W3 ⟨rfl, t⟩
  have K3 := Lib.hid (blk_kept K2.out t)
  have T3 := Lib.hid (T2.out.trans (t.mono T2.out.size))
  clear t c0 c1 c2 c3 c4 c5
  obtain ⟨c0, c1, c2, c3, c4, c5⟩ := blk_cell6 K3.out
  go_wp2
  go_ret2
  exact ⟨ret_tB (by have e := HX.out; first | exact e.symm | (rw [e]; simp [ByteArray.append_assoc]; done)) rfl, T3.out⟩
set_option maxRecDepth 100000 in
set_option maxHeartbeats 4000000 in
theorem implBT_1_1_c (S I V G : Int) (w : World) (hv : plV ⟨1, S, I, V, true, G⟩ = true) (h0 : 0 < S) (ht : TabP w) :
    Calls Tryd.prog 16 #[.agg #[.int .i64 1, .int .i64 S, .int .i64 I, .int .i64 V, .bool true, .int .i64 G]] w fun e w' => e = .returned (.tuple #[.string (btT ⟨1, S, I, V, true, G⟩), .bool true]) ∧ Below w.heap.size w w' := by
  have HX : Hid (btT ⟨1, S, I, V, true, G⟩ = (⟨#[99, 97, 98, 105, 110, 32]⟩ : ByteArray) ++ num I ++ (⟨#[47]⟩ : ByteArray) ++ num S ++ (⟨#[32, 111, 112, 101, 110]⟩ : ByteArray) ++ (⟨#[44, 32]⟩ : ByteArray) ++ num V ++ (⟨#[32, 119, 97, 105, 116, 105, 110, 103]⟩ : ByteArray) ++ (⟨#[32, 40, 108, 101, 118, 101, 108, 41]⟩ : ByteArray)) := Lib.hid (by unfold btT btA; rw [if_pos h0]; rfl)
  have hb := (plV_iff _).1 hv
  dsimp only at hb
  have E0 := Lib.hid (fun W => implIsPlatform_cB ⟨1, S, I, V, true, G⟩ W hv)
  have z1 := num_len 1 I (by omega) (by omega)
  have z2 := num_len 1 S (by omega) (by omega)
  have z3 := num_len 2 V (by omega) (by omega)
  have K0 := Lib.hid (heap_alloc_new w (.cells #[.int .i64 1, .int .i64 S, .int .i64 I, .int .i64 V, .bool true, .int .i64 G] 25))
  have T0 := Lib.hid ((Below.refl w.heap.size w).alloc (Nat.le_refl _) (.cells #[.int .i64 1, .int .i64 S, .int .i64 I, .int .i64 V, .bool true, .int .i64 G] 25))
  have HTB : Hid (∀ W, Below w.heap.size w W → TabP W) := Lib.hid (fun W hW => ht.below hW)
  clear ht
  have hVr : -999999 ≤ V ∧ V ≤ 999999 := by omega
  have hIr : -999999 ≤ I ∧ I ≤ 999999 := by omega
  have hSr : -999999 ≤ S ∧ S ≤ 999999 := by omega
  clear hv hb
  generalize btT ⟨1, S, I, V, true, G⟩ = TX at *
  go_enter Tryd.func16, Tryd.ntmps16
  go_wp2_with fail
  generalize w.alloc (.cells #[.int .i64 1, .int .i64 S, .int .i64 I, .int .i64 V, .bool true, .int .i64 G] 25) = W0 at *
  refine (E0.out _).mono ?_
  rintro e W1 ⟨rfl, t⟩
  have K1 := Lib.hid (blk_kept K0.out t)
  have T1 := Lib.hid (T0.out.trans (t.mono T0.out.size))
  clear t K0 T0 E0
  obtain ⟨c0, c1, c2, c3, c4, c5⟩ := blk_cell6 K1.out
  have hl1 := blk_lt K1.out
  go_wp2_with fail
  have HTA : Hid (∀ x : Aft W1, TabP x.w) := Lib.hid (fun x => HTB.out _ (T1.out.trans (x.below.mono T1.out.size)))
  have D0 : ∀ x : Aft W1, x.w.cell? ⟨w.heap.size, 0, none⟩ = some (.int .i64 1) := fun x => x.cell c0
  have D1 : ∀ x : Aft W1, x.w.cell? ⟨w.heap.size, 1, none⟩ = some (.int .i64 S) := fun x => x.cell c1
  have D2 : ∀ x : Aft W1, x.w.cell? ⟨w.heap.size, 2, none⟩ = some (.int .i64 I) := fun x => x.cell c2
  have D3 : ∀ x : Aft W1, x.w.cell? ⟨w.heap.size, 3, none⟩ = some (.int .i64 V) := fun x => x.cell c3
  have D4 : ∀ x : Aft W1, x.w.cell? ⟨w.heap.size, 4, none⟩ = some (.bool true) := fun x => x.cell c4
  have D5 : ∀ x : Aft W1, x.w.cell? ⟨w.heap.size, 5, none⟩ = some (.int .i64 G) := fun x => x.cell c5
  clear c0 c1 c2 c3 c4 c5
  refine wp_region_aft (w0 := W1) (by kernel_rfl) (by kernel_rfl) (Below.refl _ _) ?_
  repeat (go_big_quiet_step ((go_at_call 27; exact aft_of (itoaB_c _ _ (by omega) (by omega) (HTA.out _)))))
  refine wpQuiet_nil ?_
  rintro _ ⟨x, rfl⟩
  have K2 := Lib.hid (blk_kept K1.out x.below)
  have T2 := Lib.hid (T1.out.trans (x.below.mono T1.out.size))
  clear D0 D1 D2 D3 D4 D5 HTA
  generalize x.w = W2 at *
  obtain ⟨c0, c1, c2, c3, c4, c5⟩ := blk_cell6 K2.out
  go_wp2_with fail
  refine (itoaB_c V _ (by omega) (by omega) (HTB.out _ T2.out)).mono ?_
  rintro e W3 ⟨rfl, t⟩
  have K3 := Lib.hid (blk_kept K2.out t)
  have T3 := Lib.hid (T2.out.trans (t.mono T2.out.size))
  clear t c0 c1 c2 c3 c4 c5
  obtain ⟨c0, c1, c2, c3, c4, c5⟩ := blk_cell6 K3.out
  go_wp2
  go_ret2
  exact ⟨ret_tB (by have e := HX.out; first | exact e.symm | (rw [e]; simp [ByteArray.append_assoc]; done)) rfl, T3.out⟩
set_option maxRecDepth 100000 in
set_option maxHeartbeats 4000000 in
theorem implBT_0_0_n (V G : Int) (w : World) (hv : plV ⟨0, 0, 0, V, false, G⟩ = true) (ht : TabP w) :
    Calls Tryd.prog 16 #[.agg #[.int .i64 0, .int .i64 0, .int .i64 0, .int .i64 V, .bool false, .int .i64 G]] w fun e w' => e = .returned (.tuple #[.string (btT ⟨0, 0, 0, V, false, G⟩), .bool true]) ∧ Below w.heap.size w w' := by
  have HX : Hid (btT ⟨0, 0, 0, V, false, G⟩ = (⟨#[110, 111, 32, 99, 97, 98, 105, 110]⟩ : ByteArray) ++ (⟨#[44, 32]⟩ : ByteArray) ++ num V ++ (⟨#[32, 119, 97, 105, 116, 105, 110, 103]⟩ : ByteArray)) := Lib.hid (by unfold btT btA; rfl)
  have hb := (plV_iff _).1 hv
  dsimp only at hb
  have E0 := Lib.hid (fun W => implIsPlatform_cB ⟨0, 0, 0, V, false, G⟩ W hv)
  have z3 := num_len 2 V (by omega) (by omega)
  have K0 := Lib.hid (heap_alloc_new w (.cells #[.int .i64 0, .int .i64 0, .int .i64 0, .int .i64 V, .bool false, .int .i64 G] 25))
  have T0 := Lib.hid ((Below.refl w.heap.size w).alloc (Nat.le_refl _) (.cells #[.int .i64 0, .int .i64 0, .int .i64 0, .int .i64 V, .bool false, .int .i64 G] 25))
  have HTB : Hid (∀ W, Below w.heap.size w W → TabP W) := Lib.hid (fun W hW => ht.below hW)
  clear ht
  have hVr : -999999 ≤ V ∧ V ≤ 999999 := by omega
  clear hv hb
  generalize btT ⟨0, 0, 0, V, false, G⟩ = TX at *
  go_enter Tryd.func16, Tryd.ntmps16
  go_wp2_with fail
  generalize w.alloc (.cells #[.int .i64 0, .int .i64 0, .int .i64 0, .int .i64 V, .bool false, .int .i64 G] 25) = W0 at *
  refine (E0.out _).mono ?_
  rintro e W1 ⟨rfl, t⟩
  have K1 := Lib.hid (blk_kept K0.out t)
  have T1 := Lib.hid (T0.out.trans (t.mono T0.out.size))
  clear t K0 T0 E0
  obtain ⟨c0, c1, c2, c3, c4, c5⟩ := blk_cell6 K1.out
  have hl1 := blk_lt K1.out
  clear c0 c1 c2 c3 c4 c5
  generalize W1 = W2 at *
  have K2 := K1
  have T2 := T1
  obtain ⟨c0, c1, c2, c3, c4, c5⟩ := blk_cell6 K2.out
  go_wp2_with fail
  refine (itoaB_c V _ (by omega) (by omega) (HTB.out _ T2.out)).mono ?_
  rintro e W3 ⟨rfl, t⟩
  have K3 := Lib.hid (blk_kept K2.out t)
  have T3 := Lib.hid (T2.out.trans (t.mono T2.out.size))
  clear t c0 c1 c2 c3 c4 c5
  obtain ⟨c0, c1, c2, c3, c4, c5⟩ := blk_cell6 K3.out
  go_wp2
  go_ret2
  exact ⟨ret_tB (by have e := HX.out; first | exact e.symm | (rw [e]; simp [ByteArray.append_assoc]; done)) rfl, T3.out⟩
set_option maxRecDepth 100000 in
set_option maxHeartbeats 4000000 in
theorem implBT_0_1_n (V G : Int) (w : World) (hv : plV ⟨0, 0, 0, V, true, G⟩ = true) (ht : TabP w) :
    Calls Tryd.prog 16 #[.agg #[.int .i64 0, .int .i64 0, .int .i64 0, .int .i64 V, .bool true, .int .i64 G]] w fun e w' => e = .returned (.tuple #[.string (btT ⟨0, 0, 0, V, true, G⟩), .bool true]) ∧ Below w.heap.size w w' := by
  have HX : Hid (btT ⟨0, 0, 0, V, true, G⟩ = (⟨#[110, 111, 32, 99, 97, 98, 105, 110]⟩ : ByteArray) ++ (⟨#[44, 32]⟩ : ByteArray) ++ num V ++ (⟨#[32, 119, 97, 105, 116, 105, 110, 103]⟩ : ByteArray) ++ (⟨#[32, 40, 108, 101, 118, 101, 108, 41]⟩ : ByteArray)) := Lib.hid (by unfold btT btA; rfl)
  have hb := (plV_iff _).1 hv
  dsimp only at hb
  have E0 := Lib.hid (fun W => implIsPlatform_cB ⟨0, 0, 0, V, true, G⟩ W hv)
  have z3 := num_len 2 V (by omega) (by omega)
  have K0 := Lib.hid (heap_alloc_new w (.cells #[.int .i64 0, .int .i64 0, .int .i64 0, .int .i64 V, .bool true, .int .i64 G] 25))
  have T0 := Lib.hid ((Below.refl w.heap.size w).alloc (Nat.le_refl _) (.cells #[.int .i64 0, .int .i64 0, .int .i64 0, .int .i64 V, .bool true, .int .i64 G] 25))
  have HTB : Hid (∀ W, Below w.heap.size w W → TabP W) := Lib.hid (fun W hW => ht.below hW)
  clear ht
  have hVr : -999999 ≤ V ∧ V ≤ 999999 := by omega
  clear hv hb
  generalize btT ⟨0, 0, 0, V, true, G⟩ = TX at *
  go_enter Tryd.func16, Tryd.ntmps16
  go_wp2_with fail
  generalize w.alloc (.cells #[.int .i64 0, .int .i64 0, .int .i64 0, .int .i64 V, .bool true, .int .i64 G] 25) = W0 at *
  refine (E0.out _).mono ?_
  rintro e W1 ⟨rfl, t⟩
  have K1 := Lib.hid (blk_kept K0.out t)
  have T1 := Lib.hid (T0.out.trans (t.mono T0.out.size))
  clear t K0 T0 E0
  obtain ⟨c0, c1, c2, c3, c4, c5⟩ := blk_cell6 K1.out
  have hl1 := blk_lt K1.out
  clear c0 c1 c2 c3 c4 c5
  generalize W1 = W2 at *
  have K2 := K1
  have T2 := T1
  obtain ⟨c0, c1, c2, c3, c4, c5⟩ := blk_cell6 K2.out
  go_wp2_with fail
  refine (itoaB_c V _ (by omega) (by omega) (HTB.out _ T2.out)).mono ?_
  rintro e W3 ⟨rfl, t⟩
  have K3 := Lib.hid (blk_kept K2.out t)
  have T3 := Lib.hid (T2.out.trans (t.mono T2.out.size))
  clear t c0 c1 c2 c3 c4 c5
  obtain ⟨c0, c1, c2, c3, c4, c5⟩ := blk_cell6 K3.out
  go_wp2
  go_ret2
  exact ⟨ret_tB (by have e := HX.out; first | exact e.symm | (rw [e]; simp [ByteArray.append_assoc]; done)) rfl, T3.out⟩
set_option maxRecDepth 100000 in
set_option maxHeartbeats 4000000 in
theorem specBT_0_0_n (V G : Int) (w : World) (hv : plV ⟨0, 0, 0, V, false, G⟩ = true) :
    Calls Tryd.prog 17 #[.agg #[.int .i64 0, .int .i64 0, .int .i64 0, .int .i64 V, .bool false, .int .i64 G]] w fun e w' => e = .returned (.tuple #[.string (btT ⟨0, 0, 0, V, false, G⟩), .bool true]) ∧ Below w.heap.size w w' := by
  have HX : Hid (btT ⟨0, 0, 0, V, false, G⟩ = (⟨#[110, 111, 32, 99, 97, 98, 105, 110]⟩ : ByteArray) ++ (⟨#[44, 32]⟩ : ByteArray) ++ num V ++ (⟨#[32, 119, 97, 105, 116, 105, 110, 103]⟩ : ByteArray)) := Lib.hid (by unfold btT btA; rfl)
  have hb := (plV_iff _).1 hv
  dsimp only at hb
  have E0 := Lib.hid (fun W => l14Good_cB ⟨0, 0, 0, V, false, G⟩ W hv)
  have z3 := num_len 2 V (by omega) (by omega)
  have K0 := Lib.hid (heap_alloc_new w (.cells #[.int .i64 0, .int .i64 0, .int .i64 0, .int .i64 V, .bool false, .int .i64 G] 25))
  have T0 := Lib.hid ((Below.refl w.heap.size w).alloc (Nat.le_refl _) (.cells #[.int .i64 0, .int .i64 0, .int .i64 0, .int .i64 V, .bool false, .int .i64 G] 25))
  have hVr : -999999 ≤ V ∧ V ≤ 999999 := by omega
  clear hv hb
  generalize btT ⟨0, 0, 0, V, false, G⟩ = TX at *
  go_enter Tryd.func17, Tryd.ntmps17
  go_wp2_with fail
  generalize w.alloc (.cells #[.int .i64 0, .int .i64 0, .int .i64 0, .int .i64 V, .bool false, .int .i64 G] 25) = W0 at *
  refine (E0.out _).mono ?_
  rintro e W1 ⟨rfl, t⟩
  have K1 := Lib.hid (blk_kept K0.out t)
  have T1 := Lib.hid (T0.out.trans (t.mono T0.out.size))
  clear t K0 T0 E0
  obtain ⟨c0, c1, c2, c3, c4, c5⟩ := blk_cell6 K1.out
  have hl1 := blk_lt K1.out
  clear c0 c1 c2 c3 c4 c5
  generalize W1 = W2 at *
  have K2 := K1
  have T2 := T1
  obtain ⟨c0, c1, c2, c3, c4, c5⟩ := blk_cell6 K2.out
  go_wp2_with fail
  refine (l1NumB_c V _ hVr.1 hVr.2).mono ?_
  rintro e W3 ⟨rfl, m3, hW3⟩
  have t : Below W2.heap.size W2 W3 := by rw [hW3]; exact below_drewN (Below.refl _ _) m3
  clear hW3
  have K3 := Lib.hid (blk_kept K2.out t)
  have T3 := Lib.hid (T2.out.trans (t.mono T2.out.size))
  clear t c0 c1 c2 c3 c4 c5
  obtain ⟨c0, c1, c2, c3, c4, c5⟩ := blk_cell6 K3.out
  go_wp2
  go_ret2
  exact ⟨ret_tB (by have e := HX.out; first | exact e.symm | (rw [e]; simp [ByteArray.append_assoc]; done)) rfl, T3.out⟩
set_option maxRecDepth 100000 in
set_option maxHeartbeats 4000000 in
theorem specBT_0_1_n (V G : Int) (w : World) (hv : plV ⟨0, 0, 0, V, true, G⟩ = true) :
    Calls Tryd.prog 17 #[.agg #[.int .i64 0, .int .i64 0, .int .i64 0, .int .i64 V, .bool true, .int .i64 G]] w fun e w' => e = .returned (.tuple #[.string (btT ⟨0, 0, 0, V, true, G⟩), .bool true]) ∧ Below w.heap.size w w' := by
  have HX : Hid (btT ⟨0, 0, 0, V, true, G⟩ = (⟨#[110, 111, 32, 99, 97, 98, 105, 110]⟩ : ByteArray) ++ (⟨#[44, 32]⟩ : ByteArray) ++ num V ++ (⟨#[32, 119, 97, 105, 116, 105, 110, 103]⟩ : ByteArray) ++ (⟨#[32, 40, 108, 101, 118, 101, 108, 41]⟩ : ByteArray)) := Lib.hid (by unfold btT btA; rfl)
  have hb := (plV_iff _).1 hv
  dsimp only at hb
  have E0 := Lib.hid (fun W => l14Good_cB ⟨0, 0, 0, V, true, G⟩ W hv)
  have z3 := num_len 2 V (by omega) (by omega)
  have K0 := Lib.hid (heap_alloc_new w (.cells #[.int .i64 0, .int .i64 0, .int .i64 0, .int .i64 V, .bool true, .int .i64 G] 25))
  have T0 := Lib.hid ((Below.refl w.heap.size w).alloc (Nat.le_refl _) (.cells #[.int .i64 0, .int .i64 0, .int .i64 0, .int .i64 V, .bool true, .int .i64 G] 25))
  have hVr : -999999 ≤ V ∧ V ≤ 999999 := by omega
  clear hv hb
  generalize btT ⟨0, 0, 0, V, true, G⟩ = TX at *
  go_enter Tryd.func17, Tryd.ntmps17
  go_wp2_with fail
  generalize w.alloc (.cells #[.int .i64 0, .int .i64 0, .int .i64 0, .int .i64 V, .bool true, .int .i64 G] 25) = W0 at *
  refine (E0.out _).mono ?_
  rintro e W1 ⟨rfl, t⟩
  have K1 := Lib.hid (blk_kept K0.out t)
  have T1 := Lib.hid (T0.out.trans (t.mono T0.out.size))
  clear t K0 T0 E0
  obtain ⟨c0, c1, c2, c3, c4, c5⟩ := blk_cell6 K1.out
  have hl1 := blk_lt K1.out
  clear c0 c1 c2 c3 c4 c5
  generalize W1 = W2 at *
  have K2 := K1
  have T2 := T1
  obtain ⟨c0, c1, c2, c3, c4, c5⟩ := blk_cell6 K2.out
  go_wp2_with fail
  refine (l1NumB_c V _ hVr.1 hVr.2).mono ?_
  rintro e W3 ⟨rfl, m3, hW3⟩
  have t : Below W2.heap.size W2 W3 := by rw [hW3]; exact below_drewN (Below.refl _ _) m3
  clear hW3
  have K3 := Lib.hid (blk_kept K2.out t)
  have T3 := Lib.hid (T2.out.trans (t.mono T2.out.size))
  clear t c0 c1 c2 c3 c4 c5
  obtain ⟨c0, c1, c2, c3, c4, c5⟩ := blk_cell6 K3.out
  go_wp2
  go_ret2
  exact ⟨ret_tB (by have e := HX.out; first | exact e.symm | (rw [e]; simp [ByteArray.append_assoc]; done)) rfl, T3.out⟩
end Go.Proofs.YtinlcbljpclccaaDoor
