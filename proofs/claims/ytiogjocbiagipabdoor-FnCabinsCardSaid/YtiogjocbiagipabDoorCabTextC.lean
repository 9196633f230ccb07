/- CabinText: the program's and the specification's answer as one function. Condition: the tables are as laid. -/
import Derived.Test.YtiogjocbiagipabDoorCabW
import Derived.Test.YtiogjocbiagipabDoorAft
import Derived.Test.YtiogjocbiagipabDoorFmtW
namespace Go.Proofs.YtiogjocbiagipabDoor
open Go.RowKit
set_option linter.unusedVariables false
/-- A state's name. -/
def staT (g : Int) : ByteArray := if g = 0 then (⟨#[114, 101, 97, 100, 121]⟩ : ByteArray) else if g = 1 then (⟨#[111, 110, 32, 108, 105, 110, 101]⟩ : ByteArray) else if g = 2 then (⟨#[112, 97, 114, 107, 101, 100]⟩ : ByteArray) else (⟨#[98, 114, 111, 107, 101, 110]⟩ : ByteArray)
def staCells : Array Value := #[.string ⟨#[114, 101, 97, 100, 121]⟩, .string ⟨#[111, 110, 32, 108, 105, 110, 101]⟩, .string ⟨#[112, 97, 114, 107, 101, 100]⟩, .string ⟨#[98, 114, 111, 107, 101, 110]⟩]
/-- The program's table of names is as laid. -/
def StaP (w : World) : Prop := w.var? Tryd.prog "loop.example/g00935/impl.cabinStates" = some staCells
theorem gSta : Tryd.prog.globalNamed "loop.example/g00935/impl.cabinStates" = some 1 := by kernel_rfl
theorem sta_lt {w : World} (h : StaP w) : 1 < w.heap.size := by
  have h' : w.var? Tryd.prog "loop.example/g00935/impl.cabinStates" = _ := h
  unfold World.var? at h'
  simp only [gSta, Option.bind_some] at h'
  cases hb : w.heap[1]? with
  | none => simp [hb] at h'
  | some o => exact (Array.getElem?_eq_some_iff.1 hb).1
theorem StaP.below {w w' : World} (h : StaP w) (hb : Below w.heap.size w w') : StaP w' := var?_below hb gSta (sta_lt h) h
/-- The text of a cabin. -/
def cabT (c : Cab) : ByteArray := (⟨#[99, 97, 98, 105, 110, 32]⟩ : ByteArray) ++ num c.i ++ (⟨#[58, 32]⟩ : ByteArray) ++ num c.s ++ (⟨#[32, 115, 101, 97, 116, 115, 44, 32]⟩ : ByteArray) ++ num c.w ++ (⟨#[32, 107, 103, 44, 32]⟩ : ByteArray) ++ staT c.g ++ (⟨#[44, 32]⟩ : ByteArray) ++ num c.p ++ (⟨#[32, 116, 114, 105, 112, 115]⟩ : ByteArray)
def ctV (c : Cab) : ByteArray := if isC c then cabT c else ⟨#[]⟩
theorem ct_no {c : Cab} (h : isC c = false) : ctV c = ⟨#[]⟩ := by simp [ctV, h]
theorem ct_yes {c : Cab} (h : isC c = true) : ctV c = cabT c := by simp [ctV, h]
theorem itoaT_c (n : Int) (w : World) (h0 : -9223372036854775808 ≤ n) (h1 : n ≤ 9223372036854775807) (ht : TabP w) :
    Calls Tryd.prog 54 #[.int .i64 n] w fun e w' => e = .returned (.string (num n)) ∧ Below w.heap.size w w' :=
  (Tryd.strconv_Itoa n h0 h1 w ht).mono fun _ _ ⟨he, k, os, hw⟩ => ⟨he, by rw [hw]; exact below_grow _ _ _⟩
theorem l1NumT_c (n : Int) (w : World) (h0 : -999999 ≤ n) (h1 : n ≤ 999999) :
    Calls Tryd.prog 86 #[.int .i64 n] w fun e w' => e = .returned (.string (num n)) ∧ Below w.heap.size w w' :=
  (l1Num_any n w (by omega) (by omega)).mono fun _ _ ⟨he, m, hw⟩ => ⟨he, by rw [hw]; exact below_drewN (Below.refl _ _) m⟩
theorem ret_t {a b : ByteArray} {c d : Bool} (h : a = b) (g : c = d) : Ending.returned (.tuple #[.string a, .bool c]) = .returned (.tuple #[.string b, .bool d]) := by rw [h, g]
theorem ret_s {a b : ByteArray} (h : a = b) : Ending.returned (.string a) = .returned (.string b) := by rw [h]
set_option maxRecDepth 100000 in
set_option maxHeartbeats 4000000 in
theorem l5Text_0 (A S E R : Int) (w : World) (h1 : 1 ≤ A ∧ A ≤ 99) (h2 : 1 ≤ S ∧ S ≤ 16) (h3 : 100 ≤ E ∧ E ≤ 2000) (h4 : 0 ≤ R ∧ R ≤ 99999) :
    Calls Tryd.prog 56 #[.agg #[.int .i64 A, .int .i64 S, .int .i64 E, .int .i64 (0), .int .i64 R]] w fun e w' => e = .returned (.string (cabT ⟨A, S, E, 0, R⟩)) ∧ Below w.heap.size w w' := by
  have HX : Hid (cabT ⟨A, S, E, 0, R⟩ = (⟨#[99, 97, 98, 105, 110, 32]⟩ : ByteArray) ++ num A ++ (⟨#[58, 32]⟩ : ByteArray) ++ num S ++ (⟨#[32, 115, 101, 97, 116, 115, 44, 32]⟩ : ByteArray) ++ num E ++ (⟨#[32, 107, 103, 44, 32]⟩ : ByteArray) ++ (⟨#[114, 101, 97, 100, 121]⟩ : ByteArray) ++ (⟨#[44, 32]⟩ : ByteArray) ++ num R ++ (⟨#[32, 116, 114, 105, 112, 115]⟩ : ByteArray)) := Lib.hid rfl
  have z1 := num_len 5 A (by omega) (by omega)
  have z2 := num_len 5 S (by omega) (by omega)
  have z3 := num_len 5 E (by omega) (by omega)
  have z4 := num_len 5 R (by omega) (by omega)
  go_enter Tryd.func56, Tryd.ntmps56
  go_wp2_with fail
  have hBX : Hid (Below w.heap.size w ((w.alloc (.cells #[.int .i64 A, .int .i64 S, .int .i64 E, .int .i64 (0), .int .i64 R] 34)).alloc (.cells #[.string ⟨#[114, 101, 97, 100, 121]⟩, .string ⟨#[111, 110, 32, 108, 105, 110, 101]⟩, .string ⟨#[112, 97, 114, 107, 101, 100]⟩, .string ⟨#[98, 114, 111, 107, 101, 110]⟩] 9))) := Lib.hid (((Below.refl _ _).alloc (Nat.le_refl _) _).alloc (by simp) _)
  obtain ⟨d0, d1, d2, d3, d4⟩ := box_Cab w ⟨A, S, E, 0, R⟩ 34 _ rfl ((w.alloc (.cells #[.int .i64 A, .int .i64 S, .int .i64 E, .int .i64 (0), .int .i64 R] 34)).alloc (.cells #[.string ⟨#[114, 101, 97, 100, 121]⟩, .string ⟨#[111, 110, 32, 108, 105, 110, 101]⟩, .string ⟨#[112, 97, 114, 107, 101, 100]⟩, .string ⟨#[98, 114, 111, 107, 101, 110]⟩] 9)) (((Below.refl _ _).alloc (by simp) _))
  generalize ((w.alloc (.cells #[.int .i64 A, .int .i64 S, .int .i64 E, .int .i64 (0), .int .i64 R] 34)).alloc (.cells #[.string ⟨#[114, 101, 97, 100, 121]⟩, .string ⟨#[111, 110, 32, 108, 105, 110, 101]⟩, .string ⟨#[112, 97, 114, 107, 101, 100]⟩, .string ⟨#[98, 114, 111, 107, 101, 110]⟩] 9)) = W0 at *
  have D0 : ∀ x : Aft W0, x.w.cell? ⟨w.heap.size, 0, none⟩ = some (.int .i64 A) := fun x => x.cell d0
  have D1 : ∀ x : Aft W0, x.w.cell? ⟨w.heap.size, 1, none⟩ = some (.int .i64 S) := fun x => x.cell d1
  have D2 : ∀ x : Aft W0, x.w.cell? ⟨w.heap.size, 2, none⟩ = some (.int .i64 E) := fun x => x.cell d2
  have D3 : ∀ x : Aft W0, x.w.cell? ⟨w.heap.size, 3, none⟩ = some (.int .i64 (0)) := fun x => x.cell d3
  have D4 : ∀ x : Aft W0, x.w.cell? ⟨w.heap.size, 4, none⟩ = some (.int .i64 R) := fun x => x.cell d4
  clear d0 d1 d2 d3 d4
  refine wp_region_aft (w0 := W0) (by kernel_rfl) (by kernel_rfl) (Below.refl _ _) ?_
  repeat (go_big_quiet_step ((go_at_call 86; exact aft_of (l1NumT_c _ _ (by omega) (by omega)))))
  refine wpQuiet_nil ?_
  rintro _ ⟨x, rfl⟩
  go_wp2
  go_ret
  exact ⟨ret_s (by rw [HX.out]), hBX.out.trans (x.below.mono hBX.out.size)⟩
set_option maxRecDepth 100000 in
set_option maxHeartbeats 4000000 in
theorem implText_0 (A S E R : Int) (w : World) (h1 : 1 ≤ A ∧ A ≤ 99) (h2 : 1 ≤ S ∧ S ≤ 16) (h3 : 100 ≤ E ∧ E ≤ 2000) (h4 : 0 ≤ R ∧ R ≤ 99999) (ht : TabP w) (hs : StaP w) :
    Calls Tryd.prog 15 #[.agg #[.int .i64 A, .int .i64 S, .int .i64 E, .int .i64 (0), .int .i64 R]] w fun e w' => e = .returned (.tuple #[.string (cabT ⟨A, S, E, 0, R⟩), .bool true]) ∧ Below w.heap.size w w' := by
  have HX : Hid (cabT ⟨A, S, E, 0, R⟩ = (⟨#[99, 97, 98, 105, 110, 32]⟩ : ByteArray) ++ num A ++ (⟨#[58, 32]⟩ : ByteArray) ++ num S ++ (⟨#[32, 115, 101, 97, 116, 115, 44, 32]⟩ : ByteArray) ++ num E ++ (⟨#[32, 107, 103, 44, 32]⟩ : ByteArray) ++ (⟨#[114, 101, 97, 100, 121]⟩ : ByteArray) ++ (⟨#[44, 32]⟩ : ByteArray) ++ num R ++ (⟨#[32, 116, 114, 105, 112, 115]⟩ : ByteArray)) := Lib.hid rfl
  have E0 := Lib.hid (fun W => implIsCabin_c ⟨A, S, E, 0, R⟩ W)
  have hv : isC ⟨A, S, E, 0, R⟩ = true := (isC_iff _).2 ⟨h1, h2, h3, by show (0 : Int) ≤ 0 ∧ (0 : Int) ≤ 3; omega, h4⟩
  rw [hv] at E0
  have HTB : Hid (∀ W, Below w.heap.size w W → TabP W) := Lib.hid (fun W hW => ht.below hW)
  have HSB : Hid (∀ W, Below w.heap.size w W → W.cell? ⟨1, 0, none⟩ = some (.string (⟨#[114, 101, 97, 100, 121]⟩ : ByteArray))) := Lib.hid (fun W hW => World.var?_cell gSta (hs.below hW) 0)
  have HBX := Lib.hid (box_Cab w ⟨A, S, E, 0, R⟩ 34 _ rfl)
  clear ht hs hv
  have z1 := num_len 5 A (by omega) (by omega)
  have z2 := num_len 5 S (by omega) (by omega)
  have z3 := num_len 5 E (by omega) (by omega)
  have z4 := num_len 5 R (by omega) (by omega)
  go_enter Tryd.func15, Tryd.ntmps15
  go_wp2_with fail
  refine (E0.out _).mono ?_
  rintro e W0 ⟨rfl, b1⟩
  obtain ⟨d0, d1, d2, d3, d4⟩ := HBX.out W0 (by simpa using b1)
  have hBX : Hid (Below w.heap.size w W0) := Lib.hid (((Below.refl _ _).alloc (Nat.le_refl _) _).trans (b1.mono (by simp)))
  clear b1
  go_wp2_with fail
  have HTA : Hid (∀ x : Aft W0, TabP x.w) := Lib.hid (fun x => HTB.out _ (hBX.out.trans (x.below.mono hBX.out.size)))
  have D0 : ∀ x : Aft W0, x.w.cell? ⟨w.heap.size, 0, none⟩ = some (.int .i64 A) := fun x => x.cell d0
  have D1 : ∀ x : Aft W0, x.w.cell? ⟨w.heap.size, 1, none⟩ = some (.int .i64 S) := fun x => x.cell d1
  have D2 : ∀ x : Aft W0, x.w.cell? ⟨w.heap.size, 2, none⟩ = some (.int .i64 E) := fun x => x.cell d2
  have D3 : ∀ x : Aft W0, x.w.cell? ⟨w.heap.size, 3, none⟩ = some (.int .i64 (0)) := fun x => x.cell d3
  have D4 : ∀ x : Aft W0, x.w.cell? ⟨w.heap.size, 4, none⟩ = some (.int .i64 R) := fun x => x.cell d4
  have D5 : ∀ x : Aft W0, x.w.cell? ⟨1, 0, none⟩ = some (.string (⟨#[114, 101, 97, 100, 121]⟩ : ByteArray)) := fun x => HSB.out _ (hBX.out.trans (x.below.mono hBX.out.size))
  clear d0 d1 d2 d3 d4
  refine wp_region_aft (w0 := W0) (by kernel_rfl) (by kernel_rfl) (Below.refl _ _) ?_
  repeat (go_big_quiet_step ((go_at_call 54; exact aft_of (itoaT_c _ _ (by omega) (by omega) (HTA.out _)))))
  refine wpQuiet_nil ?_
  rintro _ ⟨x, rfl⟩
  go_wp2
  go_ret2
  exact ⟨ret_t (by rw [HX.out]) rfl, hBX.out.trans (x.below.mono hBX.out.size)⟩
set_option maxRecDepth 100000 in
set_option maxHeartbeats 4000000 in
theorem l5Text_1 (A S E R : Int) (w : World) (h1 : 1 ≤ A ∧ A ≤ 99) (h2 : 1 ≤ S ∧ S ≤ 16) (h3 : 100 ≤ E ∧ E ≤ 2000) (h4 : 0 ≤ R ∧ R ≤ 99999) :
    Calls Tryd.prog 56 #[.agg #[.int .i64 A, .int .i64 S, .int .i64 E, .int .i64 (1), .int .i64 R]] w fun e w' => e = .returned (.string (cabT ⟨A, S, E, 1, R⟩)) ∧ Below w.heap.size w w' := by
  have HX : Hid (cabT ⟨A, S, E, 1, R⟩ = (⟨#[99, 97, 98, 105, 110, 32]⟩ : ByteArray) ++ num A ++ (⟨#[58, 32]⟩ : ByteArray) ++ num S ++ (⟨#[32, 115, 101, 97, 116, 115, 44, 32]⟩ : ByteArray) ++ num E ++ (⟨#[32, 107, 103, 44, 32]⟩ : ByteArray) ++ (⟨#[111, 110, 32, 108, 105, 110, 101]⟩ : ByteArray) ++ (⟨#[44, 32]⟩ : ByteArray) ++ num R ++ (⟨#[32, 116, 114, 105, 112, 115]⟩ : ByteArray)) := Lib.hid rfl
  have z1 := num_len 5 A (by omega) (by omega)
  have z2 := num_len 5 S (by omega) (by omega)
  have z3 := num_len 5 E (by omega) (by omega)
  have z4 := num_len 5 R (by omega) (by omega)
  go_enter Tryd.func56, Tryd.ntmps56
  go_wp2_with fail
  have hBX : Hid (Below w.heap.size w ((w.alloc (.cells #[.int .i64 A, .int .i64 S, .int .i64 E, .int .i64 (1), .int .i64 R] 34)).alloc (.cells #[.string ⟨#[114, 101, 97, 100, 121]⟩, .string ⟨#[111, 110, 32, 108, 105, 110, 101]⟩, .string ⟨#[112, 97, 114, 107, 101, 100]⟩, .string ⟨#[98, 114, 111, 107, 101, 110]⟩] 9))) := Lib.hid (((Below.refl _ _).alloc (Nat.le_refl _) _).alloc (by simp) _)
  obtain ⟨d0, d1, d2, d3, d4⟩ := box_Cab w ⟨A, S, E, 1, R⟩ 34 _ rfl ((w.alloc (.cells #[.int .i64 A, .int .i64 S, .int .i64 E, .int .i64 (1), .int .i64 R] 34)).alloc (.cells #[.string ⟨#[114, 101, 97, 100, 121]⟩, .string ⟨#[111, 110, 32, 108, 105, 110, 101]⟩, .string ⟨#[112, 97, 114, 107, 101, 100]⟩, .string ⟨#[98, 114, 111, 107, 101, 110]⟩] 9)) (((Below.refl _ _).alloc (by simp) _))
  generalize ((w.alloc (.cells #[.int .i64 A, .int .i64 S, .int .i64 E, .int .i64 (1), .int .i64 R] 34)).alloc (.cells #[.string ⟨#[114, 101, 97, 100, 121]⟩, .string ⟨#[111, 110, 32, 108, 105, 110, 101]⟩, .string ⟨#[112, 97, 114, 107, 101, 100]⟩, .string ⟨#[98, 114, 111, 107, 101, 110]⟩] 9)) = W0 at *
  have D0 : ∀ x : Aft W0, x.w.cell? ⟨w.heap.size, 0, none⟩ = some (.int .i64 A) := fun x => x.cell d0
  have D1 : ∀ x : Aft W0, x.w.cell? ⟨w.heap.size, 1, none⟩ = some (.int .i64 S) := fun x => x.cell d1
  have D2 : ∀ x : Aft W0, x.w.cell? ⟨w.heap.size, 2, none⟩ = some (.int .i64 E) := fun x => x.cell d2
  have D3 : ∀ x : Aft W0, x.w.cell? ⟨w.heap.size, 3, none⟩ = some (.int .i64 (1)) := fun x => x.cell d3
  have D4 : ∀ x : Aft W0, x.w.cell? ⟨w.heap.size, 4, none⟩ = some (.int .i64 R) := fun x => x.cell d4
  clear d0 d1 d2 d3 d4
  refine wp_region_aft (w0 := W0) (by kernel_rfl) (by kernel_rfl) (Below.refl _ _) ?_
  repeat (go_big_quiet_step ((go_at_call 86; exact aft_of (l1NumT_c _ _ (by omega) (by omega)))))
  refine wpQuiet_nil ?_
  rintro _ ⟨x, rfl⟩
  go_wp2
  go_ret
  exact ⟨ret_s (by rw [HX.out]), hBX.out.trans (x.below.mono hBX.out.size)⟩
set_option maxRecDepth 100000 in
set_option maxHeartbeats 4000000 in
theorem implText_1 (A S E R : Int) (w : World) (h1 : 1 ≤ A ∧ A ≤ 99) (h2 : 1 ≤ S ∧ S ≤ 16) (h3 : 100 ≤ E ∧ E ≤ 2000) (h4 : 0 ≤ R ∧ R ≤ 99999) (ht : TabP w) (hs : StaP w) :
    Calls Tryd.prog 15 #[.agg #[.int .i64 A, .int .i64 S, .int .i64 E, .int .i64 (1), .int .i64 R]] w fun e w' => e = .returned (.tuple #[.string (cabT ⟨A, S, E, 1, R⟩), .bool true]) ∧ Below w.heap.size w w' := by
  have HX : Hid (cabT ⟨A, S, E, 1, R⟩ = (⟨#[99, 97, 98, 105, 110, 32]⟩ : ByteArray) ++ num A ++ (⟨#[58, 32]⟩ : ByteArray) ++ num S ++ (⟨#[32, 115, 101, 97, 116, 115, 44, 32]⟩ : ByteArray) ++ num E ++ (⟨#[32, 107, 103, 44, 32]⟩ : ByteArray) ++ (⟨#[111, 110, 32, 108, 105, 110, 101]⟩ : ByteArray) ++ (⟨#[44, 32]⟩ : ByteArray) ++ num R ++ (⟨#[32, 116, 114, 105, 112, 115]⟩ : ByteArray)) := Lib.hid rfl
  have E0 := Lib.hid (fun W => implIsCabin_c ⟨A, S, E, 1, R⟩ W)
  have hv : isC ⟨A, S, E, 1, R⟩ = true := (isC_iff _).2 ⟨h1, h2, h3, by show (0 : Int) ≤ 1 ∧ (1 : Int) ≤ 3; omega, h4⟩
  rw [hv] at E0
  have HTB : Hid (∀ W, Below w.heap.size w W → TabP W) := Lib.hid (fun W hW => ht.below hW)
  have HSB : Hid (∀ W, Below w.heap.size w W → W.cell? ⟨1, 1, none⟩ = some (.string (⟨#[111, 110, 32, 108, 105, 110, 101]⟩ : ByteArray))) := Lib.hid (fun W hW => World.var?_cell gSta (hs.below hW) 1)
  have HBX := Lib.hid (box_Cab w ⟨A, S, E, 1, R⟩ 34 _ rfl)
  clear ht hs hv
  have z1 := num_len 5 A (by omega) (by omega)
  have z2 := num_len 5 S (by omega) (by omega)
  have z3 := num_len 5 E (by omega) (by omega)
  have z4 := num_len 5 R (by omega) (by omega)
  go_enter Tryd.func15, Tryd.ntmps15
  go_wp2_with fail
  refine (E0.out _).mono ?_
  rintro e W0 ⟨rfl, b1⟩
  obtain ⟨d0, d1, d2, d3, d4⟩ := HBX.out W0 (by simpa using b1)
  have hBX : Hid (Below w.heap.size w W0) := Lib.hid (((Below.refl _ _).alloc (Nat.le_refl _) _).trans (b1.mono (by simp)))
  clear b1
  go_wp2_with fail
  have HTA : Hid (∀ x : Aft W0, TabP x.w) := Lib.hid (fun x => HTB.out _ (hBX.out.trans (x.below.mono hBX.out.size)))
  have D0 : ∀ x : Aft W0, x.w.cell? ⟨w.heap.size, 0, none⟩ = some (.int .i64 A) := fun x => x.cell d0
  have D1 : ∀ x : Aft W0, x.w.cell? ⟨w.heap.size, 1, none⟩ = some (.int .i64 S) := fun x => x.cell d1
  have D2 : ∀ x : Aft W0, x.w.cell? ⟨w.heap.size, 2, none⟩ = some (.int .i64 E) := fun x => x.cell d2
  have D3 : ∀ x : Aft W0, x.w.cell? ⟨w.heap.size, 3, none⟩ = some (.int .i64 (1)) := fun x => x.cell d3
  have D4 : ∀ x : Aft W0, x.w.cell? ⟨w.heap.size, 4, none⟩ = some (.int .i64 R) := fun x => x.cell d4
  have D5 : ∀ x : Aft W0, x.w.cell? ⟨1, 1, none⟩ = some (.string (⟨#[111, 110, 32, 108, 105, 110, 101]⟩ : ByteArray)) := fun x => HSB.out _ (hBX.out.trans (x.below.mono hBX.out.size))
  clear d0 d1 d2 d3 d4
  refine wp_region_aft (w0 := W0) (by kernel_rfl) (by kernel_rfl) (Below.refl _ _) ?_
  repeat (go_big_quiet_step ((go_at_call 54; exact aft_of (itoaT_c _ _ (by omega) (by omega) (HTA.out _)))))
  refine wpQuiet_nil ?_
  rintro _ ⟨x, rfl⟩
  go_wp2
  go_ret2
  exact ⟨ret_t (by rw [HX.out]) rfl, hBX.out.trans (x.below.mono hBX.out.size)⟩
set_option maxRecDepth 100000 in
set_option maxHeartbeats 4000000 in
theorem l5Text_2 (A S E R : Int) (w : World) (h1 : 1 ≤ A ∧ A ≤ 99) (h2 : 1 ≤ S ∧ S ≤ 16) (h3 : 100 ≤ E ∧ E ≤ 2000) (h4 : 0 ≤ R ∧ R ≤ 99999) :
    Calls Tryd.prog 56 #[.agg #[.int .i64 A, .int .i64 S, .int .i64 E, .int .i64 (2), .int .i64 R]] w fun e w' => e = .returned (.string (cabT ⟨A, S, E, 2, R⟩)) ∧ Below w.heap.size w w' := by
  have HX : Hid (cabT ⟨A, S, E, 2, R⟩ = (⟨#[99, 97, 98, 105, 110, 32]⟩ : ByteArray) ++ num A ++ (⟨#[58, 32]⟩ : ByteArray) ++ num S ++ (⟨#[32, 115, 101, 97, 116, 115, 44, 32]⟩ : ByteArray) ++ num E ++ (⟨#[32, 107, 103, 44, 32]⟩ : ByteArray) ++ (⟨#[112, 97, 114, 107, 101, 100]⟩ : ByteArray) ++ (⟨#[44, 32]⟩ : ByteArray) ++ num R ++ (⟨#[32, 116, 114, 105, 112, 115]⟩ : ByteArray)) := Lib.hid rfl
  have z1 := num_len 5 A (by omega) (by omega)
  have z2 := num_len 5 S (by omega) (by omega)
  have z3 := num_len 5 E (by omega) (by omega)
  have z4 := num_len 5 R (by omega) (by omega)
  go_enter Tryd.func56, Tryd.ntmps56
  go_wp2_with fail
  have hBX : Hid (Below w.heap.size w ((w.alloc (.cells #[.int .i64 A, .int .i64 S, .int .i64 E, .int .i64 (2), .int .i64 R] 34)).alloc (.cells #[.string ⟨#[114, 101, 97, 100, 121]⟩, .string ⟨#[111, 110, 32, 108, 105, 110, 101]⟩, .string ⟨#[112, 97, 114, 107, 101, 100]⟩, .string ⟨#[98, 114, 111, 107, 101, 110]⟩] 9))) := Lib.hid (((Below.refl _ _).alloc (Nat.le_refl _) _).alloc (by simp) _)
  obtain ⟨d0, d1, d2, d3, d4⟩ := box_Cab w ⟨A, S, E, 2, R⟩ 34 _ rfl ((w.alloc (.cells #[.int .i64 A, .int .i64 S, .int .i64 E, .int .i64 (2), .int .i64 R] 34)).alloc (.cells #[.string ⟨#[114, 101, 97, 100, 121]⟩, .string ⟨#[111, 110, 32, 108, 105, 110, 101]⟩, .string ⟨#[112, 97, 114, 107, 101, 100]⟩, .string ⟨#[98, 114, 111, 107, 101, 110]⟩] 9)) (((Below.refl _ _).alloc (by simp) _))
  generalize ((w.alloc (.cells #[.int .i64 A, .int .i64 S, .int .i64 E, .int .i64 (2), .int .i64 R] 34)).alloc (.cells #[.string ⟨#[114, 101, 97, 100, 121]⟩, .string ⟨#[111, 110, 32, 108, 105, 110, 101]⟩, .string ⟨#[112, 97, 114, 107, 101, 100]⟩, .string ⟨#[98, 114, 111, 107, 101, 110]⟩] 9)) = W0 at *
  have D0 : ∀ x : Aft W0, x.w.cell? ⟨w.heap.size, 0, none⟩ = some (.int .i64 A) := fun x => x.cell d0
  have D1 : ∀ x : Aft W0, x.w.cell? ⟨w.heap.size, 1, none⟩ = some (.int .i64 S) := fun x => x.cell d1
  have D2 : ∀ x : Aft W0, x.w.cell? ⟨w.heap.size, 2, none⟩ = some (.int .i64 E) := fun x => x.cell d2
  have D3 : ∀ x : Aft W0, x.w.cell? ⟨w.heap.size, 3, none⟩ = some (.int .i64 (2)) := fun x => x.cell d3
  have D4 : ∀ x : Aft W0, x.w.cell? ⟨w.heap.size, 4, none⟩ = some (.int .i64 R) := fun x => x.cell d4
  clear d0 d1 d2 d3 d4
  refine wp_region_aft (w0 := W0) (by kernel_rfl) (by kernel_rfl) (Below.refl _ _) ?_
  repeat (go_big_quiet_step ((go_at_call 86; exact aft_of (l1NumT_c _ _ (by omega) (by omega)))))
  refine wpQuiet_nil ?_
  rintro _ ⟨x, rfl⟩
  go_wp2
  go_ret
  exact ⟨ret_s (by rw [HX.out]), hBX.out.trans (x.below.mono hBX.out.size)⟩
set_option maxRecDepth 100000 in
set_option maxHeartbeats 4000000 in
theorem implText_2 (A S E R : Int) (w : World) (h1 : 1 ≤ A ∧ A ≤ 99) (h2 : 1 ≤ S ∧ S ≤ 16) (h3 : 100 ≤ E ∧ E ≤ 2000) (h4 : 0 ≤ R ∧ R ≤ 99999) (ht : TabP w) (hs : StaP w) :
    Calls Tryd.prog 15 #[.agg #[.int .i64 A, .int .i64 S, .int .i64 E, .int .i64 (2), .int .i64 R]] w fun e w' => e = .returned (.tuple #[.string (cabT ⟨A, S, E, 2, R⟩), .bool true]) ∧ Below w.heap.size w w' := by
  have HX : Hid (cabT ⟨A, S, E, 2, R⟩ = (⟨#[99, 97, 98, 105, 110, 32]⟩ : ByteArray) ++ num A ++ (⟨#[58, 32]⟩ : ByteArray) ++ num S ++ (⟨#[32, 115, 101, 97, 116, 115, 44, 32]⟩ : ByteArray) ++ num E ++ (⟨#[32, 107, 103, 44, 32]⟩ : ByteArray) ++ (⟨#[112, 97, 114, 107, 101, 100]⟩ : ByteArray) ++ (⟨#[44, 32]⟩ : ByteArray) ++ num R ++ (⟨#[32, 116, 114, 105, 112, 115]⟩ : ByteArray)) := Lib.hid rfl
  have E0 := Lib.hid (fun W => implIsCabin_c ⟨A, S, E, 2, R⟩ W)
  have hv : isC ⟨A, S, E, 2, R⟩ = true := (isC_iff _).2 ⟨h1, h2, h3, by show (0 : Int) ≤ 2 ∧ (2 : Int) ≤ 3; omega, h4⟩
  rw [hv] at E0
  have HTB : Hid (∀ W, Below w.heap.size w W → TabP W) := Lib.hid (fun W hW => ht.below hW)
  have HSB : Hid (∀ W, Below w.heap.size w W → W.cell? ⟨1, 2, none⟩ = some (.string (⟨#[112, 97, 114, 107, 101, 100]⟩ : ByteArray))) := Lib.hid (fun W hW => World.var?_cell gSta (hs.below hW) 2)
  have HBX := Lib.hid (box_Cab w ⟨A, S, E, 2, R⟩ 34 _ rfl)
  clear ht hs hv
  have z1 := num_len 5 A (by omega) (by omega)
  have z2 := num_len 5 S (by omega) (by omega)
  have z3 := num_len 5 E (by omega) (by omega)
  have z4 := num_len 5 R (by omega) (by omega)
  go_enter Tryd.func15, Tryd.ntmps15
  go_wp2_with fail
  refine (E0.out _).mono ?_
  rintro e W0 ⟨rfl, b1⟩
  obtain ⟨d0, d1, d2, d3, d4⟩ := HBX.out W0 (by simpa using b1)
  have hBX : Hid (Below w.heap.size w W0) := Lib.hid (((Below.refl _ _).alloc (Nat.le_refl _) _).trans (b1.mono (by simp)))
  clear b1
  go_wp2_with fail
  have HTA : Hid (∀ x : Aft W0, TabP x.w) := Lib.hid (fun x => HTB.out _ (hBX.out.trans (x.below.mono hBX.out.size)))
  have D0 : ∀ x : Aft W0, x.w.cell? ⟨w.heap.size, 0, none⟩ = some (.int .i64 A) := fun x => x.cell d0
  have D1 : ∀ x : Aft W0, x.w.cell? ⟨w.heap.size, 1, none⟩ = some (.int .i64 S) := fun x => x.cell d1
  have D2 : ∀ x : Aft W0, x.w.cell? ⟨w.heap.size, 2, none⟩ = some (.int .i64 E) := fun x => x.cell d2
  have D3 : ∀ x : Aft W0, x.w.cell? ⟨w.heap.size, 3, none⟩ = some (.int .i64 (2)) := fun x => x.cell d3
  have D4 : ∀ x : Aft W0, x.w.cell? ⟨w.heap.size, 4, none⟩ = some (.int .i64 R) := fun x => x.cell d4
  have D5 : ∀ x : Aft W0, x.w.cell? ⟨1, 2, none⟩ = some (.string (⟨#[112, 97, 114, 107, 101, 100]⟩ : ByteArray)) := fun x => HSB.out _ (hBX.out.trans (x.below.mono hBX.out.size))
  clear d0 d1 d2 d3 d4
  refine wp_region_aft (w0 := W0) (by kernel_rfl) (by kernel_rfl) (Below.refl _ _) ?_
  repeat (go_big_quiet_step ((go_at_call 54; exact aft_of (itoaT_c _ _ (by omega) (by omega) (HTA.out _)))))
  refine wpQuiet_nil ?_
  rintro _ ⟨x, rfl⟩
  go_wp2
  go_ret2
  exact ⟨ret_t (by rw [HX.out]) rfl, hBX.out.trans (x.below.mono hBX.out.size)⟩
set_option maxRecDepth 100000 in
set_option maxHeartbeats 4000000 in
theorem l5Text_3 (A S E R : Int) (w : World) (h1 : 1 ≤ A ∧ A ≤ 99) (h2 : 1 ≤ S ∧ S ≤ 16) (h3 : 100 ≤ E ∧ E ≤ 2000) (h4 : 0 ≤ R ∧ R ≤ 99999) :
    Calls Tryd.prog 56 #[.agg #[.int .i64 A, .int .i64 S, .int .i64 E, .int .i64 (3), .int .i64 R]] w fun e w' => e = .returned (.string (cabT ⟨A, S, E, 3, R⟩)) ∧ Below w.heap.size w w' := by
  have HX : Hid (cabT ⟨A, S, E, 3, R⟩ = (⟨#[99, 97, 98, 105, 110, 32]⟩ : ByteArray) ++ num A ++ (⟨#[58, 32]⟩ : ByteArray) ++ num S ++ (⟨#[32, 115, 101, 97, 116, 115, 44, 32]⟩ : ByteArray) ++ num E ++ (⟨#[32, 107, 103, 44, 32]⟩ : ByteArray) ++ (⟨#[98, 114, 111, 107, 101, 110]⟩ : ByteArray) ++ (⟨#[44, 32]⟩ : ByteArray) ++ num R ++ (⟨#[32, 116, 114, 105, 112, 115]⟩ : ByteArray)) := Lib.hid rfl
  have z1 := num_len 5 A (by omega) (by omega)
  have z2 := num_len 5 S (by omega) (by omega)
  have z3 := num_len 5 E (by omega) (by omega)
  have z4 := num_len 5 R (by omega) (by omega)
  go_enter Tryd.func56, Tryd.ntmps56
  go_wp2_with fail
  have hBX : Hid (Below w.heap.size w ((w.alloc (.cells #[.int .i64 A, .int .i64 S, .int .i64 E, .int .i64 (3), .int .i64 R] 34)).alloc (.cells #[.string ⟨#[114, 101, 97, 100, 121]⟩, .string ⟨#[111, 110, 32, 108, 105, 110, 101]⟩, .string ⟨#[112, 97, 114, 107, 101, 100]⟩, .string ⟨#[98, 114, 111, 107, 101, 110]⟩] 9))) := Lib.hid (((Below.refl _ _).alloc (Nat.le_refl _) _).alloc (by simp) _)
  obtain ⟨d0, d1, d2, d3, d4⟩ := box_Cab w ⟨A, S, E, 3, R⟩ 34 _ rfl ((w.alloc (.cells #[.int .i64 A, .int .i64 S, .int .i64 E, .int .i64 (3), .int .i64 R] 34)).alloc (.cells #[.string ⟨#[114, 101, 97, 100, 121]⟩, .string ⟨#[111, 110, 32, 108, 105, 110, 101]⟩, .string ⟨#[112, 97, 114, 107, 101, 100]⟩, .string ⟨#[98, 114, 111, 107, 101, 110]⟩] 9)) (((Below.refl _ _).alloc (by simp) _))
  generalize ((w.alloc (.cells #[.int .i64 A, .int .i64 S, .int .i64 E, .int .i64 (3), .int .i64 R] 34)).alloc (.cells #[.string ⟨#[114, 101, 97, 100, 121]⟩, .string ⟨#[111, 110, 32, 108, 105, 110, 101]⟩, .string ⟨#[112, 97, 114, 107, 101, 100]⟩, .string ⟨#[98, 114, 111, 107, 101, 110]⟩] 9)) = W0 at *
  have D0 : ∀ x : Aft W0, x.w.cell? ⟨w.heap.size, 0, none⟩ = some (.int .i64 A) := fun x => x.cell d0
  have D1 : ∀ x : Aft W0, x.w.cell? ⟨w.heap.size, 1, none⟩ = some (.int .i64 S) := fun x => x.cell d1
  have D2 : ∀ x : Aft W0, x.w.cell? ⟨w.heap.size, 2, none⟩ = some (.int .i64 E) := fun x => x.cell d2
  have D3 : ∀ x : Aft W0, x.w.cell? ⟨w.heap.size, 3, none⟩ = some (.int .i64 (3)) := fun x => x.cell d3
  have D4 : ∀ x : Aft W0, x.w.cell? ⟨w.heap.size, 4, none⟩ = some (.int .i64 R) := fun x => x.cell d4
  clear d0 d1 d2 d3 d4
  refine wp_region_aft (w0 := W0) (by kernel_rfl) (by kernel_rfl) (Below.refl _ _) ?_
  repeat (go_big_quiet_step ((go_at_call 86; exact aft_of (l1NumT_c _ _ (by omega) (by omega)))))
  refine wpQuiet_nil ?_
  rintro _ ⟨x, rfl⟩
  go_wp2
  go_ret
  exact ⟨ret_s (by rw [HX.out]), hBX.out.trans (x.below.mono hBX.out.size)⟩
set_option maxRecDepth 100000 in
set_option maxHeartbeats 4000000 in
theorem implText_3 (A S E R : Int) (w : World) (h1 : 1 ≤ A ∧ A ≤ 99) (h2 : 1 ≤ S ∧ S ≤ 16) (h3 : 100 ≤ E ∧ E ≤ 2000) (h4 : 0 ≤ R ∧ R ≤ 99999) (ht : TabP w) (hs : StaP w) :
    Calls Tryd.prog 15 #[.agg #[.int .i64 A, .int .i64 S, .int .i64 E, .int .i64 (3), .int .i64 R]] w fun e w' => e = .returned (.tuple #[.string (cabT ⟨A, S, E, 3, R⟩), .bool true]) ∧ Below w.heap.size w w' := by
  have HX : Hid (cabT ⟨A, S, E, 3, R⟩ = (⟨#[99, 97, 98, 105, 110, 32]⟩ : ByteArray) ++ num A ++ (⟨#[58, 32]⟩ : ByteArray) ++ num S ++ (⟨#[32, 115, 101, 97, 116, 115, 44, 32]⟩ : ByteArray) ++ num E ++ (⟨#[32, 107, 103, 44, 32]⟩ : ByteArray) ++ (⟨#[98, 114, 111, 107, 101, 110]⟩ : ByteArray) ++ (⟨#[44, 32]⟩ : ByteArray) ++ num R ++ (⟨#[32, 116, 114, 105, 112, 115]⟩ : ByteArray)) := Lib.hid rfl
  have E0 := Lib.hid (fun W => implIsCabin_c ⟨A, S, E, 3, R⟩ W)
  have hv : isC ⟨A, S, E, 3, R⟩ = true := (isC_iff _).2 ⟨h1, h2, h3, by show (0 : Int) ≤ 3 ∧ (3 : Int) ≤ 3; omega, h4⟩
  rw [hv] at E0
  have HTB : Hid (∀ W, Below w.heap.size w W → TabP W) := Lib.hid (fun W hW => ht.below hW)
  have HSB : Hid (∀ W, Below w.heap.size w W → W.cell? ⟨1, 3, none⟩ = some (.string (⟨#[98, 114, 111, 107, 101, 110]⟩ : ByteArray))) := Lib.hid (fun W hW => World.var?_cell gSta (hs.below hW) 3)
  have HBX := Lib.hid (box_Cab w ⟨A, S, E, 3, R⟩ 34 _ rfl)
  clear ht hs hv
  have z1 := num_len 5 A (by omega) (by omega)
  have z2 := num_len 5 S (by omega) (by omega)
  have z3 := num_len 5 E (by omega) (by omega)
  have z4 := num_len 5 R (by omega) (by omega)
  go_enter Tryd.func15, Tryd.ntmps15
  go_wp2_with fail
  refine (E0.out _).mono ?_
  rintro e W0 ⟨rfl, b1⟩
  obtain ⟨d0, d1, d2, d3, d4⟩ := HBX.out W0 (by simpa using b1)
  have hBX : Hid (Below w.heap.size w W0) := Lib.hid (((Below.refl _ _).alloc (Nat.le_refl _) _).trans (b1.mono (by simp)))
  clear b1
  go_wp2_with fail
  have HTA : Hid (∀ x : Aft W0, TabP x.w) := Lib.hid (fun x => HTB.out _ (hBX.out.trans (x.below.mono hBX.out.size)))
  have D0 : ∀ x : Aft W0, x.w.cell? ⟨w.heap.size, 0, none⟩ = some (.int .i64 A) := fun x => x.cell d0
  have D1 : ∀ x : Aft W0, x.w.cell? ⟨w.heap.size, 1, none⟩ = some (.int .i64 S) := fun x => x.cell d1
  have D2 : ∀ x : Aft W0, x.w.cell? ⟨w.heap.size, 2, none⟩ = some (.int .i64 E) := fun x => x.cell d2
  have D3 : ∀ x : Aft W0, x.w.cell? ⟨w.heap.size, 3, none⟩ = some (.int .i64 (3)) := fun x => x.cell d3
  have D4 : ∀ x : Aft W0, x.w.cell? ⟨w.heap.size, 4, none⟩ = some (.int .i64 R) := fun x => x.cell d4
  have D5 : ∀ x : Aft W0, x.w.cell? ⟨1, 3, none⟩ = some (.string (⟨#[98, 114, 111, 107, 101, 110]⟩ : ByteArray)) := fun x => HSB.out _ (hBX.out.trans (x.below.mono hBX.out.size))
  clear d0 d1 d2 d3 d4
  refine wp_region_aft (w0 := W0) (by kernel_rfl) (by kernel_rfl) (Below.refl _ _) ?_
  repeat (go_big_quiet_step ((go_at_call 54; exact aft_of (itoaT_c _ _ (by omega) (by omega) (HTA.out _)))))
  refine wpQuiet_nil ?_
  rintro _ ⟨x, rfl⟩
  go_wp2
  go_ret2
  exact ⟨ret_t (by rw [HX.out]) rfl, hBX.out.trans (x.below.mono hBX.out.size)⟩
theorem l5Text_c (c : Cab) (w : World) (h : isC c = true) :
    Calls Tryd.prog 56 #[.agg #[.int .i64 c.i, .int .i64 c.s, .int .i64 c.w, .int .i64 c.g, .int .i64 c.p]] w fun e w' => e = .returned (.string (cabT c)) ∧ Below w.heap.size w w' := by
  obtain ⟨h1, h2, h3, h4, h5⟩ := (isC_iff c).1 h
  obtain ⟨A, S, E, G, R⟩ := c
  simp only at h1 h2 h3 h4 h5 ⊢
  rcases (by omega : G = 0 ∨ G = 1 ∨ G = 2 ∨ G = 3) with rfl | rfl | rfl | rfl
  · exact l5Text_0 A S E R w h1 h2 h3 h5
  · exact l5Text_1 A S E R w h1 h2 h3 h5
  · exact l5Text_2 A S E R w h1 h2 h3 h5
  · exact l5Text_3 A S E R w h1 h2 h3 h5
theorem implCabinText_c (c : Cab) (w : World) (ht : TabP w) (hs : StaP w) :
    Calls Tryd.prog 15 #[.agg #[.int .i64 c.i, .int .i64 c.s, .int .i64 c.w, .int .i64 c.g, .int .i64 c.p]] w fun e w' => e = .returned (.tuple #[.string (ctV c), .bool (isC c)]) ∧ Below w.heap.size w w' := by
  cases h : isC c with
  | false =>
    have E0 := Lib.hid (fun W => implIsCabin_c c W)
    rw [h] at E0
    have HN := Lib.hid (ct_no h)
    clear h ht hs
    go_enter Tryd.func15, Tryd.ntmps15
    go_wp2_with fail
    refine (E0.out _).mono ?_
    rintro e W0 ⟨rfl, b1⟩
    go_wp2
    go_ret2
    exact ⟨ret_t HN.out.symm rfl, ((Below.refl _ _).alloc (Nat.le_refl _) _).trans (b1.mono (by simp))⟩
  | true =>
    rw [ct_yes h]
    obtain ⟨h1, h2, h3, h4, h5⟩ := (isC_iff c).1 h
    obtain ⟨A, S, E, G, R⟩ := c
    simp only at h1 h2 h3 h4 h5 ⊢
    rcases (by omega : G = 0 ∨ G = 1 ∨ G = 2 ∨ G = 3) with rfl | rfl | rfl | rfl
    · exact implText_0 A S E R w h1 h2 h3 h5 ht hs
    · exact implText_1 A S E R w h1 h2 h3 h5 ht hs
    · exact implText_2 A S E R w h1 h2 h3 h5 ht hs
    · exact implText_3 A S E R w h1 h2 h3 h5 ht hs
theorem specCabinText_c (c : Cab) (w : World) :
    Calls Tryd.prog 16 #[.agg #[.int .i64 c.i, .int .i64 c.s, .int .i64 c.w, .int .i64 c.g, .int .i64 c.p]] w fun e w' => e = .returned (.tuple #[.string (ctV c), .bool (isC c)]) ∧ Below w.heap.size w w' := by
  have E0 := Lib.hid (fun W => l5One_c c W)
  have HBX := Lib.hid (box_Cab w c 34 _ rfl)
  cases h : isC c with
  | false =>
    rw [h] at E0
    have HN := Lib.hid (ct_no h)
    clear h
    go_enter Tryd.func16, Tryd.ntmps16
    go_wp2_with fail
    refine (E0.out _).mono ?_
    rintro e W0 ⟨rfl, b1⟩
    go_wp2
    go_ret2
    exact ⟨ret_t HN.out.symm rfl, ((Below.refl _ _).alloc (Nat.le_refl _) _).trans (b1.mono (by simp))⟩
  | true =>
    have HY := Lib.hid (ct_yes h)
    have E1 := Lib.hid (fun W => l5Text_c c W h)
    rw [h] at E0
    clear h
    go_enter Tryd.func16, Tryd.ntmps16
    go_wp2_with fail
    refine (E0.out _).mono ?_
    rintro e W0 ⟨rfl, b1⟩
    obtain ⟨d0, d1, d2, d3, d4⟩ := HBX.out W0 (by simpa using b1)
    have HB0 : Hid (Below w.heap.size w W0) := Lib.hid (((Below.refl _ _).alloc (Nat.le_refl _) _).trans (b1.mono (by simp)))
    clear b1
    go_wp2_with fail
    refine (E1.out _).mono ?_
    rintro e W1 ⟨rfl, b2⟩
    go_wp2
    go_ret2
    exact ⟨ret_t HY.out.symm rfl, HB0.out.trans (b2.mono HB0.out.size)⟩
end Go.Proofs.YtiogjocbiagipabDoor
