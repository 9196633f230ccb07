/- NextOut: the program's and the specification's answer as one function. Condition: sizes. -/
import Derived.Test.YtiogjocbiagipabDoorCabSeatC
import Derived.Test.YtiogjocbiagipabDoorAppAny
import Derived.OneCell
import Derived.Laws.Rows
import Derived.Deep.Heap
namespace Go.Proofs.YtiogjocbiagipabDoor
open Go.RowKit
set_option linter.unusedVariables false
/-- The cabin that comes next, of those seen and one more. -/
def nxS (s : Int) : Option Cab → Cab → Option Cab
  | none, c => if s ≤ c.s then some c else none
  | some b, c => if s ≤ c.s ∧ c.p < b.p then some c else some b
def nxL (s : Int) (l : List Cab) : Option Cab := l.foldl (nxS s) none
theorem nxL_one (s : Int) (l : List Cab) (c : Cab) : nxL s (l ++ [c]) = nxS s (nxL s l) c := by simp [nxL]
noncomputable def noIn (l : List Cab) (s : Int) : Bool := cabL l && inR s 1 16
noncomputable def noOk (l : List Cab) (s : Int) : Bool := noIn l s && (nxL s (stOf l 0)).isSome
noncomputable def noV (l : List Cab) (s : Int) : Int := if noIn l s then ((nxL s (stOf l 0)).getD default).i else 0
theorem no_no {l : List Cab} {s : Int} (h : noIn l s = false) : noOk l s = false ∧ noV l s = 0 := ⟨by simp [noOk, h], by simp [noV, h]⟩
theorem no_yes {l : List Cab} {s : Int} (h : noIn l s = true) : noOk l s = (nxL s (stOf l 0)).isSome ∧ noV l s = ((nxL s (stOf l 0)).getD default).i := ⟨by simp [noOk, h], by simp [noV, h]⟩
theorem no_none {l : List Cab} {s : Int} (h : noIn l s = true) (g : nxL s (stOf l 0) = none) : noOk l s = false ∧ noV l s = 0 := by
  obtain ⟨a, b⟩ := no_yes h
  rw [a, b, g]; exact ⟨rfl, rfl⟩
theorem no_some {l : List Cab} {s : Int} {c : Cab} (h : noIn l s = true) (g : nxL s (stOf l 0) = some c) : noOk l s = true ∧ noV l s = c.i := by
  obtain ⟨a, b⟩ := no_yes h
  rw [a, b, g]; exact ⟨rfl, rfl⟩
/-- What is at the place i. -/
def nxAt (l : List Cab) (o : Option Cab) (i : Int) : Prop := (o = none ∧ i = -1) ∨ ∃ b : Nat, o = some (gth l b) ∧ i = (b : Int) ∧ b < l.length
theorem nx_taken {s : Int} {o : Option Cab} {c : Cab} (h : s ≤ c.s) (g : o = none ∨ ∃ b, o = some b ∧ c.p < b.p) : nxS s o c = some c := by
  rcases g with rfl | ⟨b, rfl, g⟩
  · simp [nxS, h]
  · simp [nxS, h, g]
theorem nx_kept {s : Int} {o : Option Cab} {c : Cab} (h : c.s < s ∨ ∃ b, o = some b ∧ b.p ≤ c.p) : nxS s o c = o := by
  rcases h with h | ⟨b, rfl, h⟩
  · cases o with
    | none => simp [nxS, show ¬ s ≤ c.s by omega]
    | some b => simp [nxS, show ¬ s ≤ c.s by omega]
  · simp [nxS, show ¬ c.p < b.p by omega]
theorem blk_set5 {w : World} {b i : Nat} {cs : Array Value} {t : TypeId} {v : Value} (h : w.heap[b]? = some (.cells cs t (0, 0))) : (w.setCell ⟨b, i, none⟩ v).heap[b]? = some (.cells (cs.setIfInBounds i v) t (0, 0)) := by
  simp [World.setCell, Array.getElem?_modify, h]
theorem blk_all5 {w : World} {b : Nat} {x y : Cab} {t : TypeId} (h : w.heap[b]? = some (.cells #[.int .i64 x.i, .int .i64 x.s, .int .i64 x.w, .int .i64 x.g, .int .i64 x.p] t (0, 0))) :
    (((((w.setCell ⟨b, 0, none⟩ (.int .i64 y.i)).setCell ⟨b, 1, none⟩ (.int .i64 y.s)).setCell ⟨b, 2, none⟩ (.int .i64 y.w)).setCell ⟨b, 3, none⟩ (.int .i64 y.g)).setCell ⟨b, 4, none⟩ (.int .i64 y.p)).heap[b]? = some (.cells #[.int .i64 y.i, .int .i64 y.s, .int .i64 y.w, .int .i64 y.g, .int .i64 y.p] t (0, 0)) :=
  blk_set5 (i := 4) (blk_set5 (i := 3) (blk_set5 (i := 2) (blk_set5 (i := 1) (blk_set5 (i := 0) h))))
theorem below_set {B : Nat} {a w : World} (h : Below B a w) {b : Nat} (hb : B ≤ b) (i : Nat) (v : Value) : Below B a (w.setCell ⟨b, i, none⟩ v) := h.setCell (p := ⟨b, i, none⟩) hb v
theorem blk_old {W : World} {o o' : Obj} {g : Nat} (h : W.heap[g]? = some o) : (W.alloc o').heap[g]? = some o := by
  have hl := (Array.getElem?_eq_some_iff.1 h).1
  exact (((Below.refl W.heap.size W).alloc (Nat.le_refl _) o').block g hl).trans h
theorem own_at5 {w : World} {B : Nat} {v : Value} {T : TypeId} {l : List Cab} (h : w.ownsRow B T 5 v l.length (cabs l)) :
    ∃ ao a oa ca, v = .slice ao l.length ca ∧ (0 < l.length → ao = some ⟨a, oa, none⟩ ∧ B ≤ a ∧ a < w.heap.size ∧ l.length ≤ maxLen) ∧ CabAt w a oa l := by
  rcases own_form h with ⟨h0, rfl⟩ | ⟨g, ca, rfl, hB, hg, hc, hm⟩
  · exact ⟨none, 0, 0, 0, by rw [h0], fun h => by omega, fun i hi => by omega⟩
  · exact ⟨_, g, 0, ca, rfl, fun _ => ⟨rfl, hB, hg, by omega⟩, own_Cab h⟩
theorem CabAt.kept {w w' : World} {a oa : Nat} {l : List Cab} {row : Option Nat} (h : CabAt w a oa l) (hg : w.grownBy w' row) (hne : some a ≠ row) : CabAt w' a oa l := fun i hi =>
  ⟨hg.cell (h i hi).1 hne, hg.cell (h i hi).2.1 hne, hg.cell (h i hi).2.2.1 hne, hg.cell (h i hi).2.2.2.1 hne, hg.cell (h i hi).2.2.2.2 hne⟩
theorem grown_setC (w : World) (a : Addr) (v : Value) : w.grownBy (w.setCell a v) (some a.block) :=
  ⟨rfl, rfl, rfl, by simp [World.setCell], fun k hk hne => by simp only [World.setCell, Array.getElem?_modify]; rw [if_neg (fun e => hne (by rw [e]))]⟩
theorem grown_set {w w' : World} {b : Nat} (h : w.grownBy w' (some b)) (i : Nat) (v : Value) : w.grownBy (w'.setCell ⟨b, i, none⟩ v) (some b) := h.trans (grown_setC w' ⟨b, i, none⟩ v)
theorem grown_alloc {w w' : World} {row : Option Nat} (h : w.grownBy w' row) (o : Obj) : w.grownBy (w'.alloc o) row := h.trans (World.grownBy_alloc w' o row)
set_option maxRecDepth 100000 in
set_option maxHeartbeats 4000000 in
theorem implNextOut_c (v : Value) (l : List Cab) (s : Int) (w : World) (hr : Rs w v l.length (cabs l)) (hn : l.length ≤ 1048576) (hw : (Lit.int .i64 s).wf = true) :
    Calls Tryd.prog 32 #[v, .int .i64 s] w fun e w' => e = .returned (.tuple #[.int .i64 (noV l s), .bool (noOk l s)]) ∧ Below w.heap.size w w' := by
  have E0 := Lib.hid (fun W h => implAreCabins_c v l W h hn)
  have E1 := Lib.hid (fun W => within_c s 1 16 W)
  have HR := Lib.hid hr
  clear hr hw
  have hd : noIn l s = (cabL l && inR s 1 16) := rfl
  cases hk : cabL l with
  | false =>
    rw [hk] at E0 hd
    have HN := Lib.hid (no_no (l := l) (s := s) (by rw [hd]; rfl))
    clear hk hd E1
    go_enter Tryd.func32, Tryd.ntmps32
    go_wp2_with fail
    refine (E0.out _ HR.out).mono ?_
    rintro e w1 ⟨rfl, b1⟩
    go_wp2
    go_ret2
    exact ⟨ret_p HN.out.2.symm HN.out.1.symm, b1⟩
  | true =>
    cases hm : inR s 1 16 with
    | false =>
      rw [hk] at E0
      rw [hm] at E1
      rw [hk, hm] at hd
      have HN := Lib.hid (no_no (l := l) (s := s) (by rw [hd]; rfl))
      clear hk hm hd
      go_enter Tryd.func32, Tryd.ntmps32
      go_wp2_with fail
      refine (E0.out _ HR.out).mono ?_
      rintro e w1 ⟨rfl, b1⟩
      go_wp2_with fail
      refine (E1.out _).mono ?_
      rintro e w2 ⟨rfl, rfl⟩
      go_wp2
      go_ret2
      exact ⟨ret_p HN.out.2.symm HN.out.1.symm, b1⟩
    | true =>
      have h12 := (cabL_yes hk).len
      rw [hk] at E0
      rw [hm] at E1
      rw [hk, hm] at hd
      have HD : Hid (noIn l s = true) := Lib.hid (by rw [hd]; rfl)
      clear hk hm hd
      go_enter Tryd.func32, Tryd.ntmps32
      go_wp2_with fail
      refine (E0.out _ HR.out).mono ?_
      rintro e w1 ⟨rfl, b1⟩
      go_wp2_with fail
      refine (E1.out _).mono ?_
      rintro e w2 ⟨rfl, rfl⟩
      have HNY := Lib.hid (no_yes HD.out)
      have hsl := stOf_len l 0
      go_wp2_with fail
      have HB1 := Lib.hid (b1.alloc b1.size (.cells #[.int .i64 0, .int .i64 0, .int .i64 0, .int .i64 0, .int .i64 0] 34))
      obtain ⟨P, hP⟩ : ∃ P, P = w2.heap.size := ⟨_, rfl⟩
      have hbP : (w2.alloc (.cells #[.int .i64 0, .int .i64 0, .int .i64 0, .int .i64 0, .int .i64 0] 34)).heap[P]? = some (.cells #[.int .i64 0, .int .i64 0, .int .i64 0, .int .i64 0, .int .i64 0] 34 (0, 0)) := by rw [hP]; exact heap_alloc_new _ _
      have hsP : (w2.alloc (.cells #[.int .i64 0, .int .i64 0, .int .i64 0, .int .i64 0, .int .i64 0] 34)).heap.size = P + 1 := by simp [hP]
      have hPw : w.heap.size ≤ P := by rw [hP]; exact b1.size
      rw [← hP]
      generalize w2.alloc (.cells #[.int .i64 0, .int .i64 0, .int .i64 0, .int .i64 0, .int .i64 0] 34) = wA at *
      clear hP b1
      refine (inState_c v l 0 _ (HR.out.below HB1.out rfl) h12).mono ?_
      rintro e w3 ⟨g, rfl, o3, b3⟩
      have hbP3 : w3.heap[P]? = some (.cells #[.int .i64 0, .int .i64 0, .int .i64 0, .int .i64 0, .int .i64 0] 34 (0, 0)) := (b3.block P (by omega)).trans hbP
      have HT := Lib.hid (HB1.out.trans (b3.mono HB1.out.size))
      have hs3 := b3.size
      clear hbP
      generalize stOf l 0 = m at *
      obtain ⟨ao, a, oa, ca, rfl, hao, hat⟩ := own_at5 o3
      have HA := Lib.hid hao
      have HL := Lib.hid hat
      have HP3 := Lib.hid hbP3
      clear hao hat o3 b3 hbP3
      go_wp2
      go_loopw [7, 21] (fun fd i wr => ∃ k : Nat, k ≤ m.length ∧ i = .int .i64 k ∧ fd = .bool (nxL s (m.take k)).isSome ∧ wr.heap[P]? = some (.cells #[.int .i64 ((nxL s (m.take k)).getD default).i, .int .i64 ((nxL s (m.take k)).getD default).s, .int .i64 ((nxL s (m.take k)).getD default).w, .int .i64 ((nxL s (m.take k)).getD default).g, .int .i64 ((nxL s (m.take k)).getD default).p] 34 (0, 0)) ∧ Hid (w3.grownBy wr (some P))) (fun _ i _ => m.length - (intOf i).toNat)
      case atStart => exact ⟨0, by omega, rfl, rfl, HP3.out, Lib.hid (World.grownBy.refl _ _)⟩
      case round =>
        obtain ⟨k, hk, rfl, rfl, hblk, hgr⟩ := hrel
        by_cases hlt : k < m.length
        · skip
          obtain ⟨rfl, haB, hla, hlm⟩ := HA.out (by omega)
          obtain ⟨c0, c1, c2, c3, c4⟩ := (HL.out.kept hgr.out (by intro h; cases h; omega)) k hlt
          have HX : Hid (nxL s (m.take (k + 1)) = nxS s (nxL s (m.take k)) (gth m k)) := Lib.hid (by rw [take_gth m k hlt, nxL_one])
          generalize hNB : nxL s (m.take k) = ob at *
          clear hNB
          generalize gth m k = D at *
          have HGA := Lib.hid (grown_alloc hgr.out (.cells #[.int .i64 D.i, .int .i64 D.s, .int .i64 D.w, .int .i64 D.g, .int .i64 D.p] 34))
          have hb2 := blk_old (o' := .cells #[.int .i64 D.i, .int .i64 D.s, .int .i64 D.w, .int .i64 D.g, .int .i64 D.p] 34) hblk
          have HB2 := Lib.hid hb2
          have HGS := Lib.hid (grown_set (grown_set (grown_set (grown_set (grown_set HGA.out 0 (.int .i64 D.i)) 1 (.int .i64 D.s)) 2 (.int .i64 D.w)) 3 (.int .i64 D.g)) 4 (.int .i64 D.p))
          have HBS := Lib.hid (blk_all5 (y := D) hb2)
          have p0 := cell_of_row _ P 0 _ _ _ hb2
          have p1 := cell_of_row _ P 1 _ _ _ hb2
          have p2 := cell_of_row _ P 2 _ _ _ hb2
          have p3 := cell_of_row _ P 3 _ _ _ hb2
          have p4 := cell_of_row _ P 4 _ _ _ hb2
          have m0 := frozen_of_row _ P 0 _ _ hb2
          have m1 := frozen_of_row _ P 1 _ _ hb2
          have m2 := frozen_of_row _ P 2 _ _ hb2
          have m3 := frozen_of_row _ P 3 _ _ hb2
          have m4 := frozen_of_row _ P 4 _ _ hb2
          clear hb2 hblk
          by_cases h1 : s ≤ D.s
          · cases ob with
            | none =>
              have HS := Lib.hid (nx_taken (s := s) (o := none) (c := D) h1 (.inl rfl))
              have t1 : decide (s ≤ D.s) = true := by simpa using h1
              clear h1
              go_wp2
              go_roundw
              case rel => exact ⟨k + 1, by omega, by go_num, by (rw [HX.out, HS.out]) <;> rfl, by rw [HX.out, HS.out]; exact HBS.out, HGS⟩
              case measure => simp [intOf]; omega
            | some b =>
              by_cases h2 : D.p < b.p
              · skip
                have HS := Lib.hid (nx_taken (s := s) (c := D) h1 (.inr ⟨b, rfl, h2⟩))
                have t1 : decide (s ≤ D.s) = true := by simpa using h1
                have t2 : decide (D.p < b.p) = true := by simpa using h2
                clear h1 h2
                go_wp2
                go_roundw
                case rel => exact ⟨k + 1, by omega, by go_num, by (rw [HX.out, HS.out]) <;> rfl, by rw [HX.out, HS.out]; exact HBS.out, HGS⟩
                case measure => simp [intOf]; omega
              · skip
                have HS := Lib.hid (nx_kept (s := s) (c := D) (.inr ⟨b, rfl, by omega⟩))
                have t1 : decide (s ≤ D.s) = true := by simpa using h1
                have t2 : decide (D.p < b.p) = false := by simpa using h2
                clear h1 h2
                go_wp2
                go_roundw
                case rel => exact ⟨k + 1, by omega, by go_num, by (rw [HX.out, HS.out]) <;> rfl, by rw [HX.out, HS.out]; exact HB2.out, HGA⟩
                case measure => simp [intOf]; omega
          · skip
            have HS := Lib.hid (nx_kept (s := s) (o := ob) (c := D) (.inl (by omega)))
            have t1 : decide (s ≤ D.s) = false := by simpa using h1
            clear h1
            go_wp2
            go_roundw
            case rel => exact ⟨k + 1, by omega, by go_num, by (rw [HX.out, HS.out]) <;> rfl, by rw [HX.out, HS.out]; exact HB2.out, HGA⟩
            case measure => simp [intOf]; omega
        · obtain rfl : k = m.length := by omega
          rw [List.take_length] at hblk ⊢
          have p0 := cell_of_row _ P 0 _ _ _ hblk
          clear hblk
          go_wp2
          go_ret2
          exact ⟨ret_p HNY.out.2.symm HNY.out.1.symm, HT.out.grown hgr.out HT.out.size (fun j hj => by cases hj; exact hPw)⟩
set_option maxRecDepth 100000 in
set_option maxHeartbeats 4000000 in
theorem specNextOut_c (v : Value) (l : List Cab) (s : Int) (w : World) (hr : Rs w v l.length (cabs l)) (hn : l.length ≤ 1048576) (hw : (Lit.int .i64 s).wf = true) :
    Calls Tryd.prog 33 #[v, .int .i64 s] w fun e w' => e = .returned (.tuple #[.int .i64 (noV l s), .bool (noOk l s)]) ∧ Below w.heap.size w w' := by
  have E0 := Lib.hid (fun W h => l5Good_c v l W h hn)
  have E1 := Lib.hid (fun W => l1In_c s 1 16 W)
  have HR := Lib.hid hr
  obtain ⟨ao, a, oa, ca, rfl, hao, hat⟩ := hr.form_Cab
  have HA := Lib.hid hao
  have HL := Lib.hid hat
  clear hr hw hao hat
  have hd : noIn l s = (cabL l && inR s 1 16) := rfl
  cases hk : cabL l with
  | false =>
    rw [hk] at E0 hd
    have HN := Lib.hid (no_no (l := l) (s := s) (by rw [hd]; rfl))
    clear hk hd E1
    go_enter Tryd.func33, Tryd.ntmps33
    go_wp2_with fail
    refine (E0.out _ HR.out).mono ?_
    rintro e w1 ⟨rfl, b1⟩
    go_wp2
    go_ret2
    exact ⟨ret_p HN.out.2.symm HN.out.1.symm, b1⟩
  | true =>
    cases hm : inR s 1 16 with
    | false =>
      rw [hk] at E0
      rw [hm] at E1
      rw [hk, hm] at hd
      have HN := Lib.hid (no_no (l := l) (s := s) (by rw [hd]; rfl))
      clear hk hm hd
      go_enter Tryd.func33, Tryd.ntmps33
      go_wp2_with fail
      refine (E0.out _ HR.out).mono ?_
      rintro e w1 ⟨rfl, b1⟩
      go_wp2_with fail
      refine (E1.out _).mono ?_
      rintro e w2 ⟨rfl, rfl⟩
      go_wp2
      go_ret2
      exact ⟨ret_p HN.out.2.symm HN.out.1.symm, b1⟩
    | true =>
      have h12 := (cabL_yes hk).len
      rw [hk] at E0
      rw [hm] at E1
      rw [hk, hm] at hd
      have HD : Hid (noIn l s = true) := Lib.hid (by rw [hd]; rfl)
      clear hk hm hd
      go_enter Tryd.func33, Tryd.ntmps33
      go_wp2_with fail
      refine (E0.out _ HR.out).mono ?_
      rintro e w1 ⟨rfl, b1⟩
      go_wp2_with fail
      refine (E1.out _).mono ?_
      rintro e w2 ⟨rfl, rfl⟩
      go_wp2
      go_loopw [6, 7] (fun bb i wr => ∃ (k : Nat), k ≤ l.length ∧ i = .int .i64 k ∧ Hid (∃ z, bb = .int .i64 z ∧ nxAt l (nxL s ((l.take k).filter (inSt 0))) z) ∧ Hid (Below w.heap.size w wr)) (fun _ i _ => l.length - (intOf i).toNat)
      case atStart => exact ⟨0, Nat.zero_le _, rfl, Lib.hid ⟨-1, rfl, .inl ⟨rfl, rfl⟩⟩, Lib.hid b1⟩
      case round =>
        obtain ⟨k, hkl, rfl, hz, hbel⟩ := hrel
        obtain ⟨bb, rfl, hat⟩ := hz.out
        clear hz
        by_cases hlt : k < l.length
        · skip
          obtain ⟨rfl, hla, hlm⟩ := HA.out (by omega)
          obtain ⟨c0, c1, c2, c3, c4⟩ := (HL.out.below hbel.out hla) k hlt
          have hlaw : a < wr.heap.size := by have := hbel.out.size; omega
          have HCB : Hid (∀ b : Nat, b < l.length → wr.cell? ⟨a, oa + b * 5 + 4, none⟩ = some (.int .i64 (gth l b).p)) := Lib.hid (fun b hb => ((HL.out.below hbel.out hla) b hb).2.2.2.2)
          have HX1 := Lib.hid (fun h : (gth l k).g = 0 => filt_yes hlt (inSt_yes h))
          have HX0 := Lib.hid (fun h : ¬ (gth l k).g = 0 => filt_no hlt (inSt_no h))
          have HGK : Hid (gth l k = gth l k) := Lib.hid rfl
          by_cases h0 : (gth l k).g = 0
          · by_cases h1 : s ≤ (gth l k).s
            · rcases hat with ⟨hN, rfl⟩ | ⟨b, hN, rfl, hbl⟩
              · skip
                have HX := Lib.hid (trivial)
                have t0 : ((gth l k).g == 0) = true := by simpa using h0
                have t1 : decide (s ≤ (gth l k).s) = true := by simpa using h1
                have HR2 : Hid (nxAt l (nxL s ((l.take (k + 1)).filter (inSt 0))) (k : Int)) := Lib.hid (by rw [HX1.out h0, nxL_one, nx_taken h1 (.inl hN)]; exact .inr ⟨k, rfl, rfl, hlt⟩)
                clear h0 h1 hN
                generalize gth l k = D at *
                go_wp2_with fail
                generalize hW0 : wr.alloc (.cells #[.int .i64 D.i, .int .i64 D.s, .int .i64 D.w, .int .i64 D.g, .int .i64 D.p] 34) = W0 at *
                have HWB : Hid (Below wr.heap.size wr W0) := Lib.hid (by rw [← hW0]; exact (Below.refl _ _).alloc (Nat.le_refl _) _)
                have d := box_Cab wr D 34 _ rfl W0 (by rw [← hW0]; exact Below.refl _ _)
                obtain ⟨d0, d1, d2, d3, d4⟩ := d
                clear hW0 c0 c1 c2 c3 c4
                go_quiet (fail)
                go_wp2
                go_roundw
                case rel => exact ⟨k + 1, by omega, by go_num, Lib.hid ⟨_, rfl, HR2.out⟩, Lib.hid (below_drewN (hbel.out.trans (HWB.out.mono hbel.out.size)) _)⟩
                case measure => simp [intOf]; omega
              · have Q4 := Lib.hid (HCB.out b hbl)
                have t3 : decide ((b : Int) < 0) = false := by simp
                by_cases h2 : (gth l k).p < (gth l b).p
                · skip
                  have HX := Lib.hid (trivial)
                  have t0 : ((gth l k).g == 0) = true := by simpa using h0
                  have t1 : decide (s ≤ (gth l k).s) = true := by simpa using h1
                  have t2 : decide ((gth l k).p < (gth l b).p) = true := by simpa using h2
                  have HR2 : Hid (nxAt l (nxL s ((l.take (k + 1)).filter (inSt 0))) (k : Int)) := Lib.hid (by rw [HX1.out h0, nxL_one, nx_taken h1 (.inr ⟨_, hN, h2⟩)]; exact .inr ⟨k, rfl, rfl, hlt⟩)
                  clear h0 h1 h2 hN
                  generalize (gth l b).p = Ep at *
                  generalize gth l k = D at *
                  go_wp2_with fail
                  generalize hW0 : wr.alloc (.cells #[.int .i64 D.i, .int .i64 D.s, .int .i64 D.w, .int .i64 D.g, .int .i64 D.p] 34) = W0 at *
                  have HWB : Hid (Below wr.heap.size wr W0) := Lib.hid (by rw [← hW0]; exact (Below.refl _ _).alloc (Nat.le_refl _) _)
                  have d := box_Cab wr D 34 _ rfl W0 (by rw [← hW0]; exact Below.refl _ _)
                  obtain ⟨d0, d1, d2, d3, d4⟩ := d
                  clear hW0 c0 c1 c2 c3 c4
                  have q4 := (HWB.out.cell (p := ⟨a, oa + b * 5 + 4, none⟩) hlaw).trans Q4.out
                  go_quiet (fail)
                  go_wp2
                  go_roundw
                  case rel => exact ⟨k + 1, by omega, by go_num, Lib.hid ⟨_, rfl, HR2.out⟩, Lib.hid (below_drewN (hbel.out.trans (HWB.out.mono hbel.out.size)) _)⟩
                  case measure => simp [intOf]; omega
                · skip
                  have HX := Lib.hid (trivial)
                  have t0 : ((gth l k).g == 0) = true := by simpa using h0
                  have t1 : decide (s ≤ (gth l k).s) = true := by simpa using h1
                  have t2 : decide ((gth l k).p < (gth l b).p) = false := by simpa using h2
                  have HR2 : Hid (nxAt l (nxL s ((l.take (k + 1)).filter (inSt 0))) (b : Int)) := Lib.hid (by rw [HX1.out h0, nxL_one, nx_kept (.inr ⟨_, hN, by omega⟩)]; exact .inr ⟨b, hN, rfl, hbl⟩)
                  clear h0 h1 h2 hN
                  generalize (gth l b).p = Ep at *
                  generalize gth l k = D at *
                  go_wp2_with fail
                  generalize hW0 : wr.alloc (.cells #[.int .i64 D.i, .int .i64 D.s, .int .i64 D.w, .int .i64 D.g, .int .i64 D.p] 34) = W0 at *
                  have HWB : Hid (Below wr.heap.size wr W0) := Lib.hid (by rw [← hW0]; exact (Below.refl _ _).alloc (Nat.le_refl _) _)
                  have d := box_Cab wr D 34 _ rfl W0 (by rw [← hW0]; exact Below.refl _ _)
                  obtain ⟨d0, d1, d2, d3, d4⟩ := d
                  clear hW0 c0 c1 c2 c3 c4
                  have q4 := (HWB.out.cell (p := ⟨a, oa + b * 5 + 4, none⟩) hlaw).trans Q4.out
                  go_quiet (fail)
                  go_wp2
                  go_roundw
                  case rel => exact ⟨k + 1, by omega, by go_num, Lib.hid ⟨_, rfl, HR2.out⟩, Lib.hid (below_drewN (hbel.out.trans (HWB.out.mono hbel.out.size)) _)⟩
                  case measure => simp [intOf]; omega
            · skip
              have HX := Lib.hid (trivial)
              have t0 : ((gth l k).g == 0) = true := by simpa using h0
              have t1 : decide (s ≤ (gth l k).s) = false := by simpa using h1
              have HR2 : Hid (nxAt l (nxL s ((l.take (k + 1)).filter (inSt 0))) bb) := Lib.hid (by rw [HX1.out h0, nxL_one, nx_kept (.inl (by omega))]; exact hat)
              clear h0 h1 hat
              generalize gth l k = D at *
              go_wp2_with fail
              generalize hW0 : wr.alloc (.cells #[.int .i64 D.i, .int .i64 D.s, .int .i64 D.w, .int .i64 D.g, .int .i64 D.p] 34) = W0 at *
              have HWB : Hid (Below wr.heap.size wr W0) := Lib.hid (by rw [← hW0]; exact (Below.refl _ _).alloc (Nat.le_refl _) _)
              have d := box_Cab wr D 34 _ rfl W0 (by rw [← hW0]; exact Below.refl _ _)
              obtain ⟨d0, d1, d2, d3, d4⟩ := d
              clear hW0 c0 c1 c2 c3 c4
              go_quiet (fail)
              go_wp2
              go_roundw
              case rel => exact ⟨k + 1, by omega, by go_num, Lib.hid ⟨_, rfl, HR2.out⟩, Lib.hid (below_drewN (hbel.out.trans (HWB.out.mono hbel.out.size)) _)⟩
              case measure => simp [intOf]; omega
          · skip
            have HX := Lib.hid (trivial)
            have t0 : ((gth l k).g == 0) = false := by simpa using h0
            have HR2 : Hid (nxAt l (nxL s ((l.take (k + 1)).filter (inSt 0))) bb) := Lib.hid (by rw [HX0.out h0]; exact hat)
            clear h0 hat
            generalize gth l k = D at *
            go_wp2_with fail
            generalize hW0 : wr.alloc (.cells #[.int .i64 D.i, .int .i64 D.s, .int .i64 D.w, .int .i64 D.g, .int .i64 D.p] 34) = W0 at *
            have HWB : Hid (Below wr.heap.size wr W0) := Lib.hid (by rw [← hW0]; exact (Below.refl _ _).alloc (Nat.le_refl _) _)
            have d := box_Cab wr D 34 _ rfl W0 (by rw [← hW0]; exact Below.refl _ _)
            obtain ⟨d0, d1, d2, d3, d4⟩ := d
            clear hW0 c0 c1 c2 c3 c4
            go_quiet (fail)
            go_wp2
            go_roundw
            case rel => exact ⟨k + 1, by omega, by go_num, Lib.hid ⟨_, rfl, HR2.out⟩, Lib.hid (below_drewN (hbel.out.trans (HWB.out.mono hbel.out.size)) _)⟩
            case measure => simp [intOf]; omega
        · obtain rfl : k = l.length := by omega
          rw [List.take_length] at hat
          rcases hat with ⟨hN, rfl⟩ | ⟨b, hN, rfl, hbl⟩
          · have HN2 := Lib.hid (no_none HD.out hN)
            clear hN
            go_wp2
            go_ret2
            exact ⟨ret_p HN2.out.2.symm HN2.out.1.symm, hbel.out⟩
          · have HN2 := Lib.hid (no_some HD.out hN)
            obtain ⟨rfl, hla, hlm⟩ := HA.out (by omega)
            obtain ⟨c0, c1, c2, c3, c4⟩ := (HL.out.below hbel.out hla) b hbl
            clear hN
            have t3 : decide ((b : Int) < 0) = false := by simp
            go_wp2
            go_ret2
            exact ⟨ret_p HN2.out.2.symm HN2.out.1.symm, hbel.out⟩
end Go.Proofs.YtiogjocbiagipabDoor
