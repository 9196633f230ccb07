/- The program's ParseCabin. Condition: the tables and the library's listed variables are as laid. -/
import Derived.Test.YtiogjocbiagipabDoorPcNamed
import Derived.Deep.Heap
namespace Go.Proofs.YtiogjocbiagipabDoor
open Go.RowKit
set_option linter.unusedVariables false
/-- The library's variable that its search reads is a number. -/
def MlP (w : World) : Prop := ∃ m : Int, w.cell? ⟨2, 0, none⟩ = some (.int .i64 m)
theorem MlP.below {w w' : World} (h : MlP w) (hb : Below w.heap.size w w') : MlP w' := by
  obtain ⟨m, hm⟩ := h
  have hlt := World.block_lt_of_cell? w _ hm
  exact ⟨m, (hb.cell (p := ⟨2, 0, none⟩) hlt).trans hm⟩
theorem ml_of {w : World} (h : w.ShapedOpen Tryd.prog) : MlP w := Tryd.laysM145.s1_3 w h
structure PcV (w : World) : Prop where
  tab : TabP w
  err : ErrP w
  ml : MlP w
  sta : StaP w
theorem PcV.below {w w' : World} (h : PcV w) (hb : Below w.heap.size w w') : PcV w' := ⟨h.tab.below hb, h.err.below hb, h.ml.below hb, h.sta.below hb⟩
theorem pcCut_c (s p : ByteArray) (w : World) (hs : s.size ≤ 1048576) (hm : MlP w) :
    Calls Tryd.prog 59 #[.string s, .string p] w fun e w' => e = .returned (.tuple #[.string (cpB s p), .string (ctB s p), .bool (cfB s p)]) ∧ Below w.heap.size w w' := by
  obtain ⟨m, hm⟩ := hm
  exact (Tryd.strings_Cut s p m w (by omega) hm).mono fun _ _ ⟨he, n, hw⟩ => ⟨he, by rw [hw]; exact below_drewN (Below.refl _ _) n⟩
theorem tp_c (s p : ByteArray) (w : World) :
    Calls Tryd.prog 58 #[.string s, .string p] w fun e w' => e = .returned (.string (tpB s p)) ∧ w' = w := Tryd.strings_TrimPrefix s p w
theorem ts_c (s p : ByteArray) (w : World) (hs : s.size ≤ 1048576) :
    Calls Tryd.prog 60 #[.string s, .string p] w fun e w' => e = .returned (.string (tsB s p)) ∧ w' = w := Tryd.strings_TrimSuffix s p w (by omega)
theorem pcRead_c (s : ByteArray) (n : Int) (b : Bool) (w : World) (hs : s.size ≤ 1048576) (hv : PcV w) (h : RdN s n b) :
    Calls Tryd.prog 62 #[.string s] w fun e w' => e = .returned (.tuple #[.int .i64 n, .bool b]) ∧ Below w.heap.size w w' := by
  rcases h with ⟨rfl, rfl, h0, h1⟩ | ⟨rfl, rfl, h0⟩
  · exact ParseInt_yes n w h0 h1 hv.tab
  · exact ParseInt_no s w (by unfold maxLen; omega) h0 hv.tab hv.err
/-- The answer. -/
theorem pc_ans {s : ByteArray} {x : Cab} (hx : ∀ d, Pc s d → x = d) : (isC x = true ∧ cabT x = s ∧ pcOk s = true ∧ pcC s = x) ∨ ((isC x = false ∨ cabT x ≠ s) ∧ pcOk s = false ∧ pcC s = ⟨0, 0, 0, 0, 0⟩) := by
  by_cases h : isC x = true ∧ cabT x = s
  · have h2 := pc_yes (s := s) (c := x) h
    exact .inl ⟨h.1, h.2, h2.1, h2.2⟩
  · have h2 := pc_no (s := s) (fun d hd => h (by rw [hx d hd]; exact hd))
    refine .inr ⟨?_, h2.1, h2.2⟩
    cases h3 : isC x with
    | false => exact .inl rfl
    | true => exact .inr fun h4 => h ⟨h3, h4⟩
theorem stepP {w V W : World} {o : Obj} (B : Below w.heap.size w V) (hr : V.heap[w.heap.size]? = some o) (b : Below V.heap.size V W) : Below w.heap.size w W ∧ W.heap[w.heap.size]? = some o := by
  have hlt : w.heap.size < V.heap.size := (Array.getElem?_eq_some_iff.1 hr).1
  exact ⟨B.trans (b.mono B.size), (b.block _ hlt).trans hr⟩
theorem blk_setP {w : World} {b i : Nat} {cs : Array Value} {t : TypeId} {v : Value} (h : w.heap[b]? = some (.cells cs t (0, 0))) : (w.setCell ⟨b, i, none⟩ v).heap[b]? = some (.cells (cs.setIfInBounds i v) t (0, 0)) := by
  simp [World.setCell, Array.getElem?_modify, h]
theorem stepQ {w V W : World} {o o' : Obj} {N : Nat} (B : Below w.heap.size w V) (hr : V.heap[w.heap.size]? = some o) (hc : V.heap[N]? = some o') (b : Below V.heap.size V W) : Below w.heap.size w W ∧ W.heap[w.heap.size]? = some o ∧ W.heap[N]? = some o' := by
  have hlt : w.heap.size < V.heap.size := (Array.getElem?_eq_some_iff.1 hr).1
  have hlt2 : N < V.heap.size := (Array.getElem?_eq_some_iff.1 hc).1
  exact ⟨B.trans (b.mono B.size), (b.block _ hlt).trans hr, (b.block _ hlt2).trans hc⟩
theorem setQ {w V : World} {o : Obj} {N i : Nat} {cs : Array Value} {t : TypeId} {v : Value} (hn : w.heap.size < N) (B : Below w.heap.size w V) (hr : V.heap[w.heap.size]? = some o) (hc : V.heap[N]? = some (.cells cs t (0, 0))) :
    Below w.heap.size w (V.setCell ⟨N, i, none⟩ v) ∧ (V.setCell ⟨N, i, none⟩ v).heap[w.heap.size]? = some o ∧ (V.setCell ⟨N, i, none⟩ v).heap[N]? = some (.cells (cs.setIfInBounds i v) t (0, 0)) := by
  refine ⟨B.setCell (p := ⟨N, i, none⟩) (Nat.le_of_lt hn) _, ?_, blk_setP hc⟩
  simp only [World.setCell, Array.getElem?_modify]
  rw [if_neg (by omega)]; exact hr
theorem blk_oldP {W : World} {o o' : Obj} {g : Nat} (h : W.heap[g]? = some o) : (W.alloc o').heap[g]? = some o := by
  have hlt := (Array.getElem?_eq_some_iff.1 h).1
  exact (((Below.refl W.heap.size W).alloc (Nat.le_refl _) o').block _ hlt).trans h
theorem blk_allP {w : World} {b : Nat} {x y : Cab} {t : TypeId} (h : w.heap[b]? = some (.cells #[.int .i64 x.i, .int .i64 x.s, .int .i64 x.w, .int .i64 x.g, .int .i64 x.p] t (0, 0))) :
    (((((w.setCell ⟨b, 0, none⟩ (.int .i64 y.i)).setCell ⟨b, 1, none⟩ (.int .i64 y.s)).setCell ⟨b, 2, none⟩ (.int .i64 y.w)).setCell ⟨b, 3, none⟩ (.int .i64 y.g)).setCell ⟨b, 4, none⟩ (.int .i64 y.p)).heap[b]? = some (.cells #[.int .i64 y.i, .int .i64 y.s, .int .i64 y.w, .int .i64 y.g, .int .i64 y.p] t (0, 0)) :=
  blk_setP (i := 4) (blk_setP (i := 3) (blk_setP (i := 2) (blk_setP (i := 1) (blk_setP (i := 0) h))))
theorem below_setP {B : Nat} {a w : World} (h : Below B a w) {b : Nat} (hb : B ≤ b) (i : Nat) (v : Value) : Below B a (w.setCell ⟨b, i, none⟩ v) := h.setCell (p := ⟨b, i, none⟩) hb v
noncomputable def PcRes (s : ByteArray) : Value := .tuple #[.agg #[.int .i64 (pcC s).i, .int .i64 (pcC s).s, .int .i64 (pcC s).w, .int .i64 (pcC s).g, .int .i64 (pcC s).p], .bool (pcOk s)]
set_option maxRecDepth 100000 in
set_option maxHeartbeats 4000000 in
theorem implParseCabin_c (s : ByteArray) (w : World) (hs : s.size ≤ 1048576) (hv : PcV w) :
    Calls Tryd.prog 18 #[.string s] w fun e w' => e = .returned (PcRes s) ∧ Below w.heap.size w w' := by
  have HV : Hid (∀ W, Below w.heap.size w W → PcV W) := Lib.hid (fun W hW => hv.below hW)
  clear hv
  have hp := parts_eq s
  obtain ⟨n1, b1, r1⟩ := rdN_ex (parts s).a
  obtain ⟨n2, b2, r2⟩ := rdN_ex (parts s).b
  obtain ⟨n3, b3, r3⟩ := rdN_ex (parts s).e
  obtain ⟨n4, b4, r4⟩ := rdN_ex (parts s).t
  have HA := Lib.hid (pc_ans (s := s) (fun d hd => impl_finds r1 r2 r3 r4 hd))
  rw [hp] at r1 r2 r3 r4 HA
  simp only at r1 r2 r3 r4 HA
  have z0 := tpB_size s cabB
  have z1 := cpB_size (tpB s cabB) colB
  have y1 := ctB_size (tpB s cabB) colB
  have z2 := cpB_size (ctB (tpB s cabB) colB) seatB
  have y2 := ctB_size (ctB (tpB s cabB) colB) seatB
  have z3 := cpB_size (ctB (ctB (tpB s cabB) colB) seatB) kgB
  have y3 := ctB_size (ctB (ctB (tpB s cabB) colB) seatB) kgB
  have z4 := cpB_size (ctB (ctB (ctB (tpB s cabB) colB) seatB) kgB) comB
  have y4 := ctB_size (ctB (ctB (ctB (tpB s cabB) colB) seatB) kgB) comB
  have y5 := tsB_size (ctB (ctB (ctB (ctB (tpB s cabB) colB) seatB) kgB) comB) tripB
  have E1 := Lib.hid (fun W (hW : PcV W) => pcCut_c (tpB s cabB) colB W (by omega) hW.ml)
  have E2 := Lib.hid (fun W (hW : PcV W) => pcCut_c (ctB (tpB s cabB) colB) seatB W (by omega) hW.ml)
  have E3 := Lib.hid (fun W (hW : PcV W) => pcCut_c (ctB (ctB (tpB s cabB) colB) seatB) kgB W (by omega) hW.ml)
  have E4 := Lib.hid (fun W (hW : PcV W) => pcCut_c (ctB (ctB (ctB (tpB s cabB) colB) seatB) kgB) comB W (by omega) hW.ml)
  have E5 := Lib.hid (fun W => ts_c (ctB (ctB (ctB (ctB (tpB s cabB) colB) seatB) kgB) comB) tripB W (by omega))
  have G1 := Lib.hid (fun W (hW : PcV W) => pcRead_c _ n1 b1 W (by omega) hW r1)
  have G2 := Lib.hid (fun W (hW : PcV W) => pcRead_c _ n2 b2 W (by omega) hW r2)
  have G3 := Lib.hid (fun W (hW : PcV W) => pcRead_c _ n3 b3 W (by omega) hW r3)
  have G4 := Lib.hid (fun W (hW : PcV W) => pcRead_c _ n4 b4 W (by omega) hW r4)
  have E0 := Lib.hid (fun W => tp_c s cabB W)
  clear z0 z1 z2 z3 z4 y1 y2 y3 y4 y5 r1 r2 r3 r4 hp
  generalize tsB (ctB (ctB (ctB (ctB (tpB s cabB) colB) seatB) kgB) comB) tripB = q5 at *
  generalize cpB (ctB (ctB (ctB (tpB s cabB) colB) seatB) kgB) comB = p4 at *
  generalize ctB (ctB (ctB (ctB (tpB s cabB) colB) seatB) kgB) comB = q4 at *
  generalize cfB (ctB (ctB (ctB (tpB s cabB) colB) seatB) kgB) comB = f4 at *
  generalize cpB (ctB (ctB (tpB s cabB) colB) seatB) kgB = p3 at *
  generalize cfB (ctB (ctB (tpB s cabB) colB) seatB) kgB = f3 at *
  generalize ctB (ctB (ctB (tpB s cabB) colB) seatB) kgB = q3 at *
  generalize cpB (ctB (tpB s cabB) colB) seatB = p2 at *
  generalize cfB (ctB (tpB s cabB) colB) seatB = f2 at *
  generalize ctB (ctB (tpB s cabB) colB) seatB = q2 at *
  generalize cpB (tpB s cabB) colB = p1 at *
  generalize cfB (tpB s cabB) colB = f1 at *
  generalize ctB (tpB s cabB) colB = q1 at *
  generalize tpB s cabB = q0 at *
  go_enter Tryd.func18, Tryd.ntmps18
  go_wp2_with fail
  refine (E0.out _).mono ?_
  rintro e V0 ⟨rfl, rfl⟩
  have B0 : Hid (Below w.heap.size w (w.alloc (.cells #[.int .i64 0, .int .i64 0, .int .i64 0, .int .i64 0, .int .i64 0] 34))) := Lib.hid ((Below.refl _ _).alloc (Nat.le_refl _) _)
  have R0 : Hid ((w.alloc (.cells #[.int .i64 0, .int .i64 0, .int .i64 0, .int .i64 0, .int .i64 0] 34)).heap[w.heap.size]? = some (.cells #[.int .i64 0, .int .i64 0, .int .i64 0, .int .i64 0, .int .i64 0] 34 (0, 0))) := Lib.hid (heap_alloc_new _ _)
  generalize w.alloc (.cells #[.int .i64 0, .int .i64 0, .int .i64 0, .int .i64 0, .int .i64 0] 34) = V0 at *
  go_wp2_with fail
  refine (E1.out _ (HV.out _ B0.out)).mono ?_
  rintro e V1 ⟨rfl, b⟩
  obtain ⟨B1, R1⟩ := stepP B0.out R0.out b
  replace B1 := Lib.hid B1
  replace R1 := Lib.hid R1
  clear b
  go_wp2_with fail
  refine (E2.out _ (HV.out _ B1.out)).mono ?_
  rintro e V2 ⟨rfl, b⟩
  obtain ⟨B2, R2⟩ := stepP B1.out R1.out b
  replace B2 := Lib.hid B2
  replace R2 := Lib.hid R2
  clear b
  go_wp2_with fail
  refine (E3.out _ (HV.out _ B2.out)).mono ?_
  rintro e V3 ⟨rfl, b⟩
  obtain ⟨B3, R3⟩ := stepP B2.out R2.out b
  replace B3 := Lib.hid B3
  replace R3 := Lib.hid R3
  clear b
  go_wp2_with fail
  refine (E4.out _ (HV.out _ B3.out)).mono ?_
  rintro e V4 ⟨rfl, b⟩
  obtain ⟨B4, R4⟩ := stepP B3.out R3.out b
  replace B4 := Lib.hid B4
  replace R4 := Lib.hid R4
  clear b
  go_wp2_with fail
  refine (E5.out _).mono ?_
  rintro e V5 ⟨rfl, rfl⟩
  go_wp2_with fail
  refine (named_c p4 _ (HV.out _ B4.out).sta).mono ?_
  rintro e V6 ⟨rfl, rfl⟩
  generalize stN p4 = gs at *
  go_wp2_with fail
  have hlt : w.heap.size < V5.heap.size := (Array.getElem?_eq_some_iff.1 R4.out).1
  have B5 : Hid (Below w.heap.size w (V5.alloc (.cells #[.int .i64 0, .int .i64 0, .int .i64 0, .int .i64 gs, .int .i64 0] 34))) := Lib.hid (B4.out.alloc (Nat.le_of_lt hlt) _)
  have R5 : Hid ((V5.alloc (.cells #[.int .i64 0, .int .i64 0, .int .i64 0, .int .i64 gs, .int .i64 0] 34)).heap[w.heap.size]? = some (.cells #[.int .i64 0, .int .i64 0, .int .i64 0, .int .i64 0, .int .i64 0] 34 (0, 0))) := Lib.hid (blk_oldP R4.out)
  have C5 : Hid ((V5.alloc (.cells #[.int .i64 0, .int .i64 0, .int .i64 0, .int .i64 gs, .int .i64 0] 34)).heap[V5.heap.size]? = some (.cells #[.int .i64 0, .int .i64 0, .int .i64 0, .int .i64 gs, .int .i64 0] 34 (0, 0))) := Lib.hid (heap_alloc_new _ _)
  generalize V5.alloc (.cells #[.int .i64 0, .int .i64 0, .int .i64 0, .int .i64 gs, .int .i64 0] 34) = X0 at *
  generalize V5.heap.size = N at *
  refine (G1.out _ (HV.out _ B5.out)).mono ?_
  rintro e X1 ⟨rfl, b⟩
  obtain ⟨B6, R6, C6⟩ := stepQ B5.out R5.out C5.out b
  have p := cell_of_row X1 N 0 _ _ _ C6
  have m := frozen_of_row X1 N 0 _ _ C6
  obtain ⟨B7, R7, C7⟩ := setQ (i := 0) (v := .int .i64 n1) hlt B6 R6 C6
  clear B5 R5 C5
  have B5 := Lib.hid B7
  have R5 := Lib.hid R7
  have C5 := Lib.hid C7
  clear B6 R6 C6 B7 R7 C7 b
  go_wp2_with fail
  clear p m
  generalize X1.setCell ⟨N, 0, none⟩ (.int .i64 n1) = Y1 at *
  refine (G2.out _ (HV.out _ B5.out)).mono ?_
  rintro e X2 ⟨rfl, b⟩
  obtain ⟨B6, R6, C6⟩ := stepQ B5.out R5.out C5.out b
  have p := cell_of_row X2 N 1 _ _ _ C6
  have m := frozen_of_row X2 N 1 _ _ C6
  obtain ⟨B7, R7, C7⟩ := setQ (i := 1) (v := .int .i64 n2) hlt B6 R6 C6
  clear B5 R5 C5
  have B5 := Lib.hid B7
  have R5 := Lib.hid R7
  have C5 := Lib.hid C7
  clear B6 R6 C6 B7 R7 C7 b
  go_wp2_with fail
  clear p m
  generalize X2.setCell ⟨N, 1, none⟩ (.int .i64 n2) = Y2 at *
  refine (G3.out _ (HV.out _ B5.out)).mono ?_
  rintro e X3 ⟨rfl, b⟩
  obtain ⟨B6, R6, C6⟩ := stepQ B5.out R5.out C5.out b
  have p := cell_of_row X3 N 2 _ _ _ C6
  have m := frozen_of_row X3 N 2 _ _ C6
  obtain ⟨B7, R7, C7⟩ := setQ (i := 2) (v := .int .i64 n3) hlt B6 R6 C6
  clear B5 R5 C5
  have B5 := Lib.hid B7
  have R5 := Lib.hid R7
  have C5 := Lib.hid C7
  clear B6 R6 C6 B7 R7 C7 b
  go_wp2_with fail
  clear p m
  generalize X3.setCell ⟨N, 2, none⟩ (.int .i64 n3) = Y3 at *
  refine (G4.out _ (HV.out _ B5.out)).mono ?_
  rintro e X4 ⟨rfl, b⟩
  obtain ⟨B6, R6, C6⟩ := stepQ B5.out R5.out C5.out b
  have p := cell_of_row X4 N 4 _ _ _ C6
  have m := frozen_of_row X4 N 4 _ _ C6
  obtain ⟨B7, R7, C7⟩ := setQ (i := 4) (v := .int .i64 n4) hlt B6 R6 C6
  clear B5 R5 C5
  have B5 := Lib.hid B7
  have R5 := Lib.hid R7
  have C5 := Lib.hid C7
  clear B6 R6 C6 B7 R7 C7 b
  have C6 : (X4.setCell ⟨N, 4, none⟩ (.int .i64 n4)).heap[N]? = some (.cells #[.int .i64 n1, .int .i64 n2, .int .i64 n3, .int .i64 gs, .int .i64 n4] 34 (0, 0)) := C5.out.trans rfl
  have c0 : (X4.setCell ⟨N, 4, none⟩ (.int .i64 n4)).cell? ⟨N, 0, none⟩ = some (.int .i64 n1) := cell_of_row _ N 0 _ _ _ C6
  have c1 : (X4.setCell ⟨N, 4, none⟩ (.int .i64 n4)).cell? ⟨N, 1, none⟩ = some (.int .i64 n2) := cell_of_row _ N 1 _ _ _ C6
  have c2 : (X4.setCell ⟨N, 4, none⟩ (.int .i64 n4)).cell? ⟨N, 2, none⟩ = some (.int .i64 n3) := cell_of_row _ N 2 _ _ _ C6
  have c3 : (X4.setCell ⟨N, 4, none⟩ (.int .i64 n4)).cell? ⟨N, 3, none⟩ = some (.int .i64 gs) := cell_of_row _ N 3 _ _ _ C6
  have c4 : (X4.setCell ⟨N, 4, none⟩ (.int .i64 n4)).cell? ⟨N, 4, none⟩ = some (.int .i64 n4) := cell_of_row _ N 4 _ _ _ C6
  replace C6 := Lib.hid C6
  clear C5
  go_wp2_with fail
  generalize X4.setCell ⟨N, 4, none⟩ (.int .i64 n4) = Y4 at *
  refine (implCabinText_c ⟨n1, n2, n3, gs, n4⟩ _ (HV.out _ B5.out).tab (HV.out _ B5.out).sta).mono ?_
  rintro e Y5 ⟨rfl, b⟩
  obtain ⟨B7, R7, C7⟩ := stepQ B5.out R5.out C6.out b
  clear B5 R5 C6 c0 c1 c2 c3 c4 p m b
  have p0 := cell_of_row Y5 w.heap.size 0 _ _ _ R7
  have m0 := frozen_of_row Y5 w.heap.size 0 _ _ R7
  have p1 := cell_of_row Y5 w.heap.size 1 _ _ _ R7
  have m1 := frozen_of_row Y5 w.heap.size 1 _ _ R7
  have p2 := cell_of_row Y5 w.heap.size 2 _ _ _ R7
  have m2 := frozen_of_row Y5 w.heap.size 2 _ _ R7
  have p3 := cell_of_row Y5 w.heap.size 3 _ _ _ R7
  have m3 := frozen_of_row Y5 w.heap.size 3 _ _ R7
  have p4 := cell_of_row Y5 w.heap.size 4 _ _ _ R7
  have m4 := frozen_of_row Y5 w.heap.size 4 _ _ R7
  have q0 := cell_of_row Y5 N 0 _ _ _ C7
  have q1 := cell_of_row Y5 N 1 _ _ _ C7
  have q2 := cell_of_row Y5 N 2 _ _ _ C7
  have q3 := cell_of_row Y5 N 3 _ _ _ C7
  have q4 := cell_of_row Y5 N 4 _ _ _ C7
  rcases HA.out with ⟨hv, ht, hok, hcc⟩ | ⟨hv, hok, hcc⟩
  · have HR : Hid (PcRes s = .tuple #[.agg #[.int .i64 n1, .int .i64 n2, .int .i64 n3, .int .i64 gs, .int .i64 n4], .bool true]) := Lib.hid (by unfold PcRes; rw [hok, hcc])
    have z : ((ctV ⟨n1, n2, n3, gs, n4⟩).toList == s.toList) = true := str_eq (by rw [ct_yes hv, ht])
    rw [hv]
    clear hv ht hok hcc HA
    generalize ctV ⟨n1, n2, n3, gs, n4⟩ = tx at *
    have BL := blk_allP (x := ⟨0, 0, 0, 0, 0⟩) (y := ⟨n1, n2, n3, gs, n4⟩) R7
    have Z0 : (((((Y5.setCell ⟨w.heap.size, 0, none⟩ (.int .i64 n1)).setCell ⟨w.heap.size, 1, none⟩ (.int .i64 n2)).setCell ⟨w.heap.size, 2, none⟩ (.int .i64 n3)).setCell ⟨w.heap.size, 3, none⟩ (.int .i64 gs)).setCell ⟨w.heap.size, 4, none⟩ (.int .i64 n4)).cell? ⟨w.heap.size, 0, none⟩ = some (.int .i64 n1) := cell_of_row _ w.heap.size 0 _ _ _ BL
    have Z1 : (((((Y5.setCell ⟨w.heap.size, 0, none⟩ (.int .i64 n1)).setCell ⟨w.heap.size, 1, none⟩ (.int .i64 n2)).setCell ⟨w.heap.size, 2, none⟩ (.int .i64 n3)).setCell ⟨w.heap.size, 3, none⟩ (.int .i64 gs)).setCell ⟨w.heap.size, 4, none⟩ (.int .i64 n4)).cell? ⟨w.heap.size, 1, none⟩ = some (.int .i64 n2) := cell_of_row _ w.heap.size 1 _ _ _ BL
    have Z2 : (((((Y5.setCell ⟨w.heap.size, 0, none⟩ (.int .i64 n1)).setCell ⟨w.heap.size, 1, none⟩ (.int .i64 n2)).setCell ⟨w.heap.size, 2, none⟩ (.int .i64 n3)).setCell ⟨w.heap.size, 3, none⟩ (.int .i64 gs)).setCell ⟨w.heap.size, 4, none⟩ (.int .i64 n4)).cell? ⟨w.heap.size, 2, none⟩ = some (.int .i64 n3) := cell_of_row _ w.heap.size 2 _ _ _ BL
    have Z3 : (((((Y5.setCell ⟨w.heap.size, 0, none⟩ (.int .i64 n1)).setCell ⟨w.heap.size, 1, none⟩ (.int .i64 n2)).setCell ⟨w.heap.size, 2, none⟩ (.int .i64 n3)).setCell ⟨w.heap.size, 3, none⟩ (.int .i64 gs)).setCell ⟨w.heap.size, 4, none⟩ (.int .i64 n4)).cell? ⟨w.heap.size, 3, none⟩ = some (.int .i64 gs) := cell_of_row _ w.heap.size 3 _ _ _ BL
    have Z4 : (((((Y5.setCell ⟨w.heap.size, 0, none⟩ (.int .i64 n1)).setCell ⟨w.heap.size, 1, none⟩ (.int .i64 n2)).setCell ⟨w.heap.size, 2, none⟩ (.int .i64 n3)).setCell ⟨w.heap.size, 3, none⟩ (.int .i64 gs)).setCell ⟨w.heap.size, 4, none⟩ (.int .i64 n4)).cell? ⟨w.heap.size, 4, none⟩ = some (.int .i64 n4) := cell_of_row _ w.heap.size 4 _ _ _ BL
    have BF : Hid (Below w.heap.size w (((((Y5.setCell ⟨w.heap.size, 0, none⟩ (.int .i64 n1)).setCell ⟨w.heap.size, 1, none⟩ (.int .i64 n2)).setCell ⟨w.heap.size, 2, none⟩ (.int .i64 n3)).setCell ⟨w.heap.size, 3, none⟩ (.int .i64 gs)).setCell ⟨w.heap.size, 4, none⟩ (.int .i64 n4))) := Lib.hid (below_setP (below_setP (below_setP (below_setP (below_setP B7 (Nat.le_refl _) _ _) (Nat.le_refl _) _ _) (Nat.le_refl _) _ _) (Nat.le_refl _) _ _) (Nat.le_refl _) _ _)
    clear BL R7 C7 B7
    go_wp2_with fail
    generalize (((((Y5.setCell ⟨w.heap.size, 0, none⟩ (.int .i64 n1)).setCell ⟨w.heap.size, 1, none⟩ (.int .i64 n2)).setCell ⟨w.heap.size, 2, none⟩ (.int .i64 n3)).setCell ⟨w.heap.size, 3, none⟩ (.int .i64 gs)).setCell ⟨w.heap.size, 4, none⟩ (.int .i64 n4)) = YF at *
    refine bodyPost_ret (v := .tuple #[.agg #[.int .i64 n1, .int .i64 n2, .int .i64 n3, .int .i64 gs, .int .i64 n4], .bool true]) (by simp [results, Tryd.results18, go_sem, Z0, Z1, Z2, Z3, Z4]) rfl ⟨by rw [HR.out], BF.out⟩
  · have HR : Hid (PcRes s = .tuple #[.agg #[.int .i64 0, .int .i64 0, .int .i64 0, .int .i64 0, .int .i64 0], .bool false]) := Lib.hid (by unfold PcRes; rw [hok, hcc])
    have BL := blk_allP (x := ⟨0, 0, 0, 0, 0⟩) (y := ⟨0, 0, 0, 0, 0⟩) R7
    have Z0 : (((((Y5.setCell ⟨w.heap.size, 0, none⟩ (.int .i64 0)).setCell ⟨w.heap.size, 1, none⟩ (.int .i64 0)).setCell ⟨w.heap.size, 2, none⟩ (.int .i64 0)).setCell ⟨w.heap.size, 3, none⟩ (.int .i64 0)).setCell ⟨w.heap.size, 4, none⟩ (.int .i64 0)).cell? ⟨w.heap.size, 0, none⟩ = some (.int .i64 0) := cell_of_row _ w.heap.size 0 _ _ _ BL
    have Z1 : (((((Y5.setCell ⟨w.heap.size, 0, none⟩ (.int .i64 0)).setCell ⟨w.heap.size, 1, none⟩ (.int .i64 0)).setCell ⟨w.heap.size, 2, none⟩ (.int .i64 0)).setCell ⟨w.heap.size, 3, none⟩ (.int .i64 0)).setCell ⟨w.heap.size, 4, none⟩ (.int .i64 0)).cell? ⟨w.heap.size, 1, none⟩ = some (.int .i64 0) := cell_of_row _ w.heap.size 1 _ _ _ BL
    have Z2 : (((((Y5.setCell ⟨w.heap.size, 0, none⟩ (.int .i64 0)).setCell ⟨w.heap.size, 1, none⟩ (.int .i64 0)).setCell ⟨w.heap.size, 2, none⟩ (.int .i64 0)).setCell ⟨w.heap.size, 3, none⟩ (.int .i64 0)).setCell ⟨w.heap.size, 4, none⟩ (.int .i64 0)).cell? ⟨w.heap.size, 2, none⟩ = some (.int .i64 0) := cell_of_row _ w.heap.size 2 _ _ _ BL
    have Z3 : (((((Y5.setCell ⟨w.heap.size, 0, none⟩ (.int .i64 0)).setCell ⟨w.heap.size, 1, none⟩ (.int .i64 0)).setCell ⟨w.heap.size, 2, none⟩ (.int .i64 0)).setCell ⟨w.heap.size, 3, none⟩ (.int .i64 0)).setCell ⟨w.heap.size, 4, none⟩ (.int .i64 0)).cell? ⟨w.heap.size, 3, none⟩ = some (.int .i64 0) := cell_of_row _ w.heap.size 3 _ _ _ BL
    have Z4 : (((((Y5.setCell ⟨w.heap.size, 0, none⟩ (.int .i64 0)).setCell ⟨w.heap.size, 1, none⟩ (.int .i64 0)).setCell ⟨w.heap.size, 2, none⟩ (.int .i64 0)).setCell ⟨w.heap.size, 3, none⟩ (.int .i64 0)).setCell ⟨w.heap.size, 4, none⟩ (.int .i64 0)).cell? ⟨w.heap.size, 4, none⟩ = some (.int .i64 0) := cell_of_row _ w.heap.size 4 _ _ _ BL
    have BF : Hid (Below w.heap.size w (((((Y5.setCell ⟨w.heap.size, 0, none⟩ (.int .i64 0)).setCell ⟨w.heap.size, 1, none⟩ (.int .i64 0)).setCell ⟨w.heap.size, 2, none⟩ (.int .i64 0)).setCell ⟨w.heap.size, 3, none⟩ (.int .i64 0)).setCell ⟨w.heap.size, 4, none⟩ (.int .i64 0))) := Lib.hid (below_setP (below_setP (below_setP (below_setP (below_setP B7 (Nat.le_refl _) _ _) (Nat.le_refl _) _ _) (Nat.le_refl _) _ _) (Nat.le_refl _) _ _) (Nat.le_refl _) _ _)
    clear BL R7 C7 B7
    cases hb : isC ⟨n1, n2, n3, gs, n4⟩ with
    | false =>
      clear hv hok hcc HA hb
      generalize ctV ⟨n1, n2, n3, gs, n4⟩ = tx at *
      go_wp2_with fail
      generalize (((((Y5.setCell ⟨w.heap.size, 0, none⟩ (.int .i64 0)).setCell ⟨w.heap.size, 1, none⟩ (.int .i64 0)).setCell ⟨w.heap.size, 2, none⟩ (.int .i64 0)).setCell ⟨w.heap.size, 3, none⟩ (.int .i64 0)).setCell ⟨w.heap.size, 4, none⟩ (.int .i64 0)) = YF at *
      refine bodyPost_ret (v := .tuple #[.agg #[.int .i64 0, .int .i64 0, .int .i64 0, .int .i64 0, .int .i64 0], .bool false]) (by simp [results, Tryd.results18, go_sem, Z0, Z1, Z2, Z3, Z4]) rfl ⟨by rw [HR.out], BF.out⟩
    | true =>
      have z : ((ctV ⟨n1, n2, n3, gs, n4⟩).toList == s.toList) = false := str_ne (by
        rcases hv with h | h
        · rw [hb] at h; cases h
        · rw [ct_yes hb]; exact h)
      clear hv hok hcc HA hb
      generalize ctV ⟨n1, n2, n3, gs, n4⟩ = tx at *
      go_wp2_with fail
      generalize (((((Y5.setCell ⟨w.heap.size, 0, none⟩ (.int .i64 0)).setCell ⟨w.heap.size, 1, none⟩ (.int .i64 0)).setCell ⟨w.heap.size, 2, none⟩ (.int .i64 0)).setCell ⟨w.heap.size, 3, none⟩ (.int .i64 0)).setCell ⟨w.heap.size, 4, none⟩ (.int .i64 0)) = YF at *
      refine bodyPost_ret (v := .tuple #[.agg #[.int .i64 0, .int .i64 0, .int .i64 0, .int .i64 0, .int .i64 0], .bool false]) (by simp [results, Tryd.results18, go_sem, Z0, Z1, Z2, Z3, Z4]) rfl ⟨by rw [HR.out], BF.out⟩
end Go.Proofs.YtiogjocbiagipabDoor
