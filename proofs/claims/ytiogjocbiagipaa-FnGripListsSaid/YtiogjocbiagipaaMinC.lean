/- WeakestGrip: the program's and the specification's answer as one function. Condition: sizes. -/
import Derived.Test.YtiogjocbiagipaaCmpG
import Derived.Test.YtiogjocbiagipaaAft
import Derived.Deep.DeepCutAuto
namespace Go.Proofs.Ytiogjocbiagipaa
open Go.RowKit
set_option linter.unusedVariables false
/-- The place of the weakest of the first n. -/
def wkN (l : List Grp) : Nat → Nat
  | 0 => 0
  | n + 1 => if n = 0 then 0 else if ltW (gth l n) (gth l (wkN l n)) then n else wkN l n
theorem wk_yes {l : List Grp} {k : Nat} (h0 : 1 ≤ k) (h : ltW (gth l k) (gth l (wkN l k)) = true) : wkN l (k + 1) = k := by rw [wkN, if_neg (by omega), if_pos h]
theorem wk_no {l : List Grp} {k : Nat} (h0 : 1 ≤ k) (h : ltW (gth l k) (gth l (wkN l k)) = false) : wkN l (k + 1) = wkN l k := by rw [wkN, if_neg (by omega), if_neg (by simp [h])]
theorem wkN_lt (l : List Grp) : ∀ k, 0 < k → wkN l k < k
  | 0, h => by omega
  | k + 1, _ => by
    unfold wkN
    split
    · omega
    · split
      · omega
      · have := wkN_lt l k (by omega); omega
noncomputable def wgOk (l : List Grp) : Bool := grpL l && decide (0 < l.length)
noncomputable def wgV (l : List Grp) : Int := if wgOk l then (gth l (wkN l l.length)).i else 0
theorem wg_no {l : List Grp} (h : wgOk l = false) : wgV l = 0 := by simp [wgV, h]
theorem wg_yes {l : List Grp} (h : wgOk l = true) : wgV l = (gth l (wkN l l.length)).i := by simp [wgV, h]
theorem ret_p {a b : Int} {c d : Bool} (h : a = b) (g : c = d) : Ending.returned (.tuple #[.int .i64 a, .bool c]) = .returned (.tuple #[.int .i64 b, .bool d]) := by rw [h, g]
theorem ret_ag {x y : Grp} (h : x = y) : Ending.returned (.agg #[.int .i64 x.i, .int .i64 x.s, .int .i64 x.w, .int .i64 x.g, .int .i64 x.p]) = .returned (.agg #[.int .i64 y.i, .int .i64 y.s, .int .i64 y.w, .int .i64 y.g, .int .i64 y.p]) := by rw [h]
theorem blk_all7 {w : World} {b : Nat} {x y : Grp} {t : TypeId} (h : w.heap[b]? = some (.cells #[.int .i64 x.i, .int .i64 x.s, .int .i64 x.w, .int .i64 x.g, .int .i64 x.p] t (0, 0))) :
    (((((w.setCell ⟨b, 0, none⟩ (.int .i64 y.i)).setCell ⟨b, 1, none⟩ (.int .i64 y.s)).setCell ⟨b, 2, none⟩ (.int .i64 y.w)).setCell ⟨b, 3, none⟩ (.int .i64 y.g)).setCell ⟨b, 4, none⟩ (.int .i64 y.p)).heap[b]? = some (.cells #[.int .i64 y.i, .int .i64 y.s, .int .i64 y.w, .int .i64 y.g, .int .i64 y.p] t (0, 0)) :=
  blk_set5 (i := 4) (blk_set5 (i := 3) (blk_set5 (i := 2) (blk_set5 (i := 1) (blk_set5 (i := 0) h))))
theorem blk_other {w : World} {P Z i : Nat} {v : Value} (h : P ≠ Z) : (w.setCell ⟨P, i, none⟩ v).heap[Z]? = w.heap[Z]? := by
  simp [World.setCell, Array.getElem?_modify, h]
theorem blk_other5 {w : World} {P Z : Nat} {v0 v1 v2 v3 v4 : Value} (h : P ≠ Z) : (((((w.setCell ⟨P, 0, none⟩ v0).setCell ⟨P, 1, none⟩ v1).setCell ⟨P, 2, none⟩ v2).setCell ⟨P, 3, none⟩ v3).setCell ⟨P, 4, none⟩ v4).heap[Z]? = w.heap[Z]? := by
  rw [blk_other h, blk_other h, blk_other h, blk_other h, blk_other h]
set_option maxRecDepth 100000 in
set_option maxHeartbeats 4000000 in
theorem minF_c (v : Value) (l : List Grp) (w : World) (hr : Rs w v l.length (grps l)) (h0 : 0 < l.length) (hn : l.length ≤ 12) :
    Calls Try.prog 80 #[v, .func (.func 81) #[] #[]] w fun e w' => e = .returned (.agg #[.int .i64 (gth l (wkN l l.length)).i, .int .i64 (gth l (wkN l l.length)).s, .int .i64 (gth l (wkN l l.length)).w, .int .i64 (gth l (wkN l l.length)).g, .int .i64 (gth l (wkN l l.length)).p]) ∧ Below w.heap.size w w' := by
  obtain ⟨ao, a, oa, ca, rfl, hao, hat⟩ := hr.form_Grp
  obtain ⟨rfl, hla, hlm⟩ := hao h0
  have HL := Lib.hid hat
  obtain ⟨c0, c1, c2, c3, c4⟩ := hat.zero h0
  clear hr hao hat
  have HZ0 := Lib.hid ((Below.refl w.heap.size w).alloc (Nat.le_refl _) (.cells #[.int .i64 0, .int .i64 0, .int .i64 0, .int .i64 0, .int .i64 0] 25))
  have HZN : Hid ((w.alloc (.cells #[.int .i64 0, .int .i64 0, .int .i64 0, .int .i64 0, .int .i64 0] 25)).heap[w.heap.size]? = some (.cells #[.int .i64 0, .int .i64 0, .int .i64 0, .int .i64 0, .int .i64 0] 25 (0, 0))) := Lib.hid (heap_alloc_new _ _)
  go_enter Try.func80, Try.ntmps80
  go_upto_region 1 with fail
  have hs0 : (w.alloc (.cells #[.int .i64 0, .int .i64 0, .int .i64 0, .int .i64 0, .int .i64 0] 25)).heap.size = w.heap.size + 1 := by simp
  generalize w.alloc (.cells #[.int .i64 0, .int .i64 0, .int .i64 0, .int .i64 0, .int .i64 0] 25) = W0 at *
  have HS0 := Lib.hid hs0
  clear hs0 c0 c1 c2 c3 c4
  obtain ⟨c0, c1, c2, c3, c4⟩ := (HL.out.below HZ0.out hla).zero h0
  have hla0 : a < W0.heap.size := by have := HS0.out; omega
  obtain ⟨Z, hZ⟩ : ∃ Z, Z = w.heap.size := ⟨_, rfl⟩
  rw [← hZ] at HZN ⊢
  have hZw : w.heap.size ≤ Z := by omega
  have HZE := Lib.hid hZ
  go_wp2
  obtain ⟨P, hP⟩ : ∃ P, P = W0.heap.size := ⟨_, rfl⟩
  rw [← hP]
  have hPw : w.heap.size ≤ P := by have := HS0.out; omega
  have hPZ : P ≠ Z := by have := HS0.out; omega
  have HB1 := Lib.hid (HZ0.out.alloc (by have := HS0.out; omega) (.cells #[.int .i64 (gth l 0).i, .int .i64 (gth l 0).s, .int .i64 (gth l 0).w, .int .i64 (gth l 0).g, .int .i64 (gth l 0).p] 25))
  have HP1 : Hid ((W0.alloc (.cells #[.int .i64 (gth l 0).i, .int .i64 (gth l 0).s, .int .i64 (gth l 0).w, .int .i64 (gth l 0).g, .int .i64 (gth l 0).p] 25)).heap[P]? = some (.cells #[.int .i64 (gth l 0).i, .int .i64 (gth l 0).s, .int .i64 (gth l 0).w, .int .i64 (gth l 0).g, .int .i64 (gth l 0).p] 25 (0, 0))) := Lib.hid (by rw [hP]; exact heap_alloc_new _ _)
  have HZ1 : Hid ((W0.alloc (.cells #[.int .i64 (gth l 0).i, .int .i64 (gth l 0).s, .int .i64 (gth l 0).w, .int .i64 (gth l 0).g, .int .i64 (gth l 0).p] 25)).heap[Z]? = some (.cells #[.int .i64 0, .int .i64 0, .int .i64 0, .int .i64 0, .int .i64 0] 25 (0, 0))) := Lib.hid (blk_old HZN.out)
  clear hP hZ c0 c1 c2 c3 c4
  go_loopw [6] (fun i wr => ∃ k : Nat, 1 ≤ k ∧ k ≤ l.length ∧ i = .int .i64 (k : Int) ∧ wr.heap[P]? = some (.cells #[.int .i64 (gth l (wkN l k)).i, .int .i64 (gth l (wkN l k)).s, .int .i64 (gth l (wkN l k)).w, .int .i64 (gth l (wkN l k)).g, .int .i64 (gth l (wkN l k)).p] 25 (0, 0)) ∧ wr.heap[Z]? = some (.cells #[.int .i64 0, .int .i64 0, .int .i64 0, .int .i64 0, .int .i64 0] 25 (0, 0)) ∧ Hid (Below w.heap.size w wr)) (fun i _ => l.length - (intOf i).toNat)
  case atStart => exact ⟨1, by omega, by omega, rfl, HP1.out, HZ1.out, HB1⟩
  case round =>
    obtain ⟨k, h1k, hk, rfl, hblk, hzb, hbel⟩ := hrel
    by_cases hlt : k < l.length
    · obtain ⟨c0, c1, c2, c3, c4⟩ := (HL.out.below hbel.out hla) k hlt
      have HWY := Lib.hid (wk_yes (l := l) (k := k) h1k)
      have HWN := Lib.hid (wk_no (l := l) (k := k) h1k)
      have HCA := Lib.hid (fun (W : World) (hW : Below w.heap.size w W) => (HL.out.below hW hla) k hlt)
      generalize hMM : gth l (wkN l k) = M at *
      generalize hAA : gth l k = A at *
      have HMM := Lib.hid hMM
      have HAA := Lib.hid hAA
      clear hMM hAA
      have p0 := cell_of_row _ P 0 _ _ _ hblk
      have p1 := cell_of_row _ P 1 _ _ _ hblk
      have p2 := cell_of_row _ P 2 _ _ _ hblk
      have p3 := cell_of_row _ P 3 _ _ _ hblk
      have p4 := cell_of_row _ P 4 _ _ _ hblk
      have HBK := Lib.hid hblk
      have hPl : P < wr.heap.size := (Array.getElem?_eq_some_iff.1 hblk).1
      have HZB := Lib.hid hzb
      have hZl : Z < wr.heap.size := (Array.getElem?_eq_some_iff.1 hzb).1
      clear hblk hzb
      go_wp2_with fail
      have D0' : ∀ x : Aft wr, x.w.cell? ⟨a, oa + k * 5, none⟩ = some (.int .i64 A.i) := fun x => x.cell c0
      have D1' : ∀ x : Aft wr, x.w.cell? ⟨a, oa + k * 5 + 1, none⟩ = some (.int .i64 A.s) := fun x => x.cell c1
      have D2' : ∀ x : Aft wr, x.w.cell? ⟨a, oa + k * 5 + 2, none⟩ = some (.int .i64 A.w) := fun x => x.cell c2
      have D3' : ∀ x : Aft wr, x.w.cell? ⟨a, oa + k * 5 + 3, none⟩ = some (.int .i64 A.g) := fun x => x.cell c3
      have D4' : ∀ x : Aft wr, x.w.cell? ⟨a, oa + k * 5 + 4, none⟩ = some (.int .i64 A.p) := fun x => x.cell c4
      have P0' : ∀ x : Aft wr, x.w.cell? ⟨P, 0, none⟩ = some (.int .i64 M.i) := fun x => x.cell p0
      have P1' : ∀ x : Aft wr, x.w.cell? ⟨P, 1, none⟩ = some (.int .i64 M.s) := fun x => x.cell p1
      have P2' : ∀ x : Aft wr, x.w.cell? ⟨P, 2, none⟩ = some (.int .i64 M.w) := fun x => x.cell p2
      have P3' : ∀ x : Aft wr, x.w.cell? ⟨P, 3, none⟩ = some (.int .i64 M.g) := fun x => x.cell p3
      have P4' : ∀ x : Aft wr, x.w.cell? ⟨P, 4, none⟩ = some (.int .i64 M.p) := fun x => x.cell p4
      have CL := Lib.hid (fun (W : World) => (clo_weak A M W).mono (fun _ _ h => (⟨h.1, h.2.below⟩ : _ ∧ Below W.heap.size W _)))
      clear c0 c1 c2 c3 c4 p0 p1 p2 p3 p4
      have HLW := Lib.hid (cw_lt A M).symm
      generalize cwC A M = C at *
      by_cases hneg : C < 0
      · have HS := Lib.hid (HWY.out (by rw [HLW.out]; simpa using hneg))
        have t1 : decide (C < 0) = true := by simpa using hneg
        clear hneg
        refine wp_region_aft (w0 := wr) (by kernel_rfl) (by kernel_rfl) (Below.refl _ _) ?_
        repeat (go_big_quiet_step ((go_at_call 81; exact aft_of (CL.out _))))
        refine wpQuiet_nil ?_
        rintro _ ⟨x, rfl⟩
        have HB2 := Lib.hid (hbel.out.trans (x.below.mono hbel.out.size))
        have hb2 := (x.below.block P hPl).trans HBK.out
        have hz2 := (x.below.block Z hZl).trans HZB.out
        have HZ2 := Lib.hid hz2
        have HZS := Lib.hid (fun (v0 v1 v2 v3 v4 : Value) => (blk_other5 (v0 := v0) (v1 := v1) (v2 := v2) (v3 := v3) (v4 := v4) hPZ).trans hz2)
        clear hz2 D0' D1' D2' D3' D4' P0' P1' P2' P3' P4'
        generalize x.w = w2 at *
        clear x
        obtain ⟨c0, c1, c2, c3, c4⟩ := HCA.out _ HB2.out
        have m0 := frozen_of_row _ P 0 _ _ hb2
        have m1 := frozen_of_row _ P 1 _ _ hb2
        have m2 := frozen_of_row _ P 2 _ _ hb2
        have m3 := frozen_of_row _ P 3 _ _ hb2
        have m4 := frozen_of_row _ P 4 _ _ hb2
        have p0 := cell_of_row _ P 0 _ _ _ hb2
        have p1 := cell_of_row _ P 1 _ _ _ hb2
        have p2 := cell_of_row _ P 2 _ _ _ hb2
        have p3 := cell_of_row _ P 3 _ _ _ hb2
        have p4 := cell_of_row _ P 4 _ _ _ hb2
        have HBN := Lib.hid hb2
        have HBS := Lib.hid (blk_all7 (y := A) hb2)
        have HGS := Lib.hid (below_set (below_set (below_set (below_set (below_set HB2.out hPw 0 (.int .i64 A.i)) hPw 1 (.int .i64 A.s)) hPw 2 (.int .i64 A.w)) hPw 3 (.int .i64 A.g)) hPw 4 (.int .i64 A.p))
        clear hb2
        go_wp2
        go_roundw
        case rel => exact ⟨k + 1, by omega, by omega, by go_num, by rw [HS.out, HAA.out]; exact HBS.out, HZS.out _ _ _ _ _, HGS⟩
        case measure => simp [intOf]; omega
      · have HS := Lib.hid (HWN.out (by rw [HLW.out]; simpa using hneg))
        have t1 : decide (C < 0) = false := by simpa using hneg
        clear hneg
        refine wp_region_aft (w0 := wr) (by kernel_rfl) (by kernel_rfl) (Below.refl _ _) ?_
        repeat (go_big_quiet_step ((go_at_call 81; exact aft_of (CL.out _))))
        refine wpQuiet_nil ?_
        rintro _ ⟨x, rfl⟩
        have HB2 := Lib.hid (hbel.out.trans (x.below.mono hbel.out.size))
        have hb2 := (x.below.block P hPl).trans HBK.out
        have hz2 := (x.below.block Z hZl).trans HZB.out
        have HZ2 := Lib.hid hz2
        have HZS := Lib.hid (fun (v0 v1 v2 v3 v4 : Value) => (blk_other5 (v0 := v0) (v1 := v1) (v2 := v2) (v3 := v3) (v4 := v4) hPZ).trans hz2)
        clear hz2 D0' D1' D2' D3' D4' P0' P1' P2' P3' P4'
        generalize x.w = w2 at *
        clear x
        obtain ⟨c0, c1, c2, c3, c4⟩ := HCA.out _ HB2.out
        have m0 := frozen_of_row _ P 0 _ _ hb2
        have m1 := frozen_of_row _ P 1 _ _ hb2
        have m2 := frozen_of_row _ P 2 _ _ hb2
        have m3 := frozen_of_row _ P 3 _ _ hb2
        have m4 := frozen_of_row _ P 4 _ _ hb2
        have p0 := cell_of_row _ P 0 _ _ _ hb2
        have p1 := cell_of_row _ P 1 _ _ _ hb2
        have p2 := cell_of_row _ P 2 _ _ _ hb2
        have p3 := cell_of_row _ P 3 _ _ _ hb2
        have p4 := cell_of_row _ P 4 _ _ _ hb2
        have HBN := Lib.hid hb2
        have HBS := Lib.hid (blk_all7 (y := A) hb2)
        have HGS := Lib.hid (below_set (below_set (below_set (below_set (below_set HB2.out hPw 0 (.int .i64 A.i)) hPw 1 (.int .i64 A.s)) hPw 2 (.int .i64 A.w)) hPw 3 (.int .i64 A.g)) hPw 4 (.int .i64 A.p))
        clear hb2
        go_wp2
        go_roundw
        case rel => exact ⟨k + 1, by omega, by omega, by go_num, by rw [HS.out, HMM.out]; exact HBN.out, HZ2.out, HB2⟩
        case measure => simp [intOf]; omega
    · have hke : k = l.length := by omega
      have HE := Lib.hid hke
      skip
      have p0 := cell_of_row _ P 0 _ _ _ hblk
      have p1 := cell_of_row _ P 1 _ _ _ hblk
      have p2 := cell_of_row _ P 2 _ _ _ hblk
      have p3 := cell_of_row _ P 3 _ _ _ hblk
      have p4 := cell_of_row _ P 4 _ _ _ hblk
      have n0 := frozen_of_row _ Z 0 _ _ hzb
      have n1 := frozen_of_row _ Z 1 _ _ hzb
      have n2 := frozen_of_row _ Z 2 _ _ hzb
      have n3 := frozen_of_row _ Z 3 _ _ hzb
      have n4 := frozen_of_row _ Z 4 _ _ hzb
      have z0 := cell_of_row _ Z 0 _ _ _ hzb
      have z1 := cell_of_row _ Z 1 _ _ _ hzb
      have z2 := cell_of_row _ Z 2 _ _ _ hzb
      have z3 := cell_of_row _ Z 3 _ _ _ hzb
      have z4 := cell_of_row _ Z 4 _ _ _ hzb
      generalize hMM : gth l (wkN l k) = M at *
      have hall := blk_all7 (x := ⟨0, 0, 0, 0, 0⟩) (y := M) hzb
      have HGS := Lib.hid (below_set (below_set (below_set (below_set (below_set hbel.out hZw 0 (.int .i64 M.i)) hZw 1 (.int .i64 M.s)) hZw 2 (.int .i64 M.w)) hZw 3 (.int .i64 M.g)) hZw 4 (.int .i64 M.p))
      have HM : Hid (M = gth l (wkN l l.length)) := Lib.hid (by rw [← hMM, HE.out])
      have HALL := Lib.hid hall
      clear hblk hke hzb hMM hall
      go_wp2
      have Z0 := cell_of_row _ Z 0 _ _ _ HALL.out
      have Z1 := cell_of_row _ Z 1 _ _ _ HALL.out
      have Z2 := cell_of_row _ Z 2 _ _ _ HALL.out
      have Z3 := cell_of_row _ Z 3 _ _ _ HALL.out
      have Z4 := cell_of_row _ Z 4 _ _ _ HALL.out
      have HW := HGS.out
      clear HGS HALL z0 z1 z2 z3 z4 n0 n1 n2 n3 n4 p0 p1 p2 p3 p4
      generalize (((((wr.setCell ⟨Z, 0, none⟩ (.int .i64 M.i)).setCell ⟨Z, 1, none⟩ (.int .i64 M.s)).setCell ⟨Z, 2, none⟩ (.int .i64 M.w)).setCell ⟨Z, 3, none⟩ (.int .i64 M.g)).setCell ⟨Z, 4, none⟩ (.int .i64 M.p)) = WE at *
      refine bodyPost_ret (v := .agg #[.int .i64 M.i, .int .i64 M.s, .int .i64 M.w, .int .i64 M.g, .int .i64 M.p]) (by simp [results, Try.results80, go_sem, Z0, Z1, Z2, Z3, Z4]) rfl ⟨ret_ag HM.out, ?_⟩
      exact HW
end Go.Proofs.Ytiogjocbiagipaa
