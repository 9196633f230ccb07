/- The law FnWinds's walk. Condition: sizes; no other. -/
import Derived.Test.YtoamhbobcpljpaaDrawWnd
import Derived.Test.YtoamhbobcpljpaaWndLaw
import Derived.Test.YtoamhbobcpljpaaWndHelp
import Derived.Test.YtoamhbobcpljpaaWndV
import Derived.Test.YtoamhbobcpljpaaAft
import Derived.Deep.RegionHeld3
import Derived.Laws.OwnMore
import Derived.WalkArith
import Derived.Deep.CutRange
import Derived.Deep.CutBlock
import Derived.Deep.DeepCutAuto
namespace Go.Proofs.Ytoamhbobcpljpaa
open Go.RowKit
set_option linter.unusedVariables false
theorem namedT {a w' : World} {B : Nat} (h : Hid (Below B a w')) : ∃ W : World, W = w' := ⟨_, rfl⟩
theorem Rd.ish {w : World} {v : Value} {l : List Int} (h : Rd w v (intVs l)) : ∃ a c, v = .slice a l.length c := by
  obtain ⟨a, c, hv⟩ := h.lt (base := 0)
  exact ⟨a, c, by simpa [intVs] using hv⟩
theorem Rd.at12 {w : World} {b off c : Nat} {l : List Int} (h : Rd w (.slice (some ⟨b, off, none⟩) l.length c) (intVs l)) (k : Nat) (hk : k < l.length) : w.cell? ⟨b, off + k, none⟩ = some (.int .i64 (l.getD k 0)) := by
  obtain ⟨b', o', c', hv, _, _, hc⟩ := h.iv (by rintro rfl; simp at hk)
  cases hv
  exact hc k hk
theorem Rd.some12 {w : World} {a : Option Addr} {c : Nat} {l : List Int} (h : Rd w (.slice a l.length c) (intVs l)) (h0 : 0 < l.length) : ∃ b off, a = some ⟨b, off, none⟩ := by
  obtain ⟨b', o', c', hv, _, _, hc⟩ := h.iv (by rintro rfl; simp at h0)
  cases hv
  exact ⟨_, _, rfl⟩
theorem bel_al12 {B : Nat} {a w : World} (h : Below B a w) (hB : B ≤ w.heap.size) (o : Obj) : Below B a (w.alloc o) := h.alloc hB o
theorem bel_dr12 {B : Nat} {a w : World} (h : Below B a w) : Below B a w.drew := h.drew
theorem new12 (w : World) (o : Obj) (n : Nat) (h : n = w.heap.size) : (w.alloc o).heap[n]? = some o := by subst h; exact heap_alloc_new w o
theorem kept12 {w w' : World} {b : Nat} {o : Obj} (h : w.heap[b]? = some o) (k : Below w.heap.size w w') : w'.heap[b]? = some o := blk_keep h k (blk_lt h)
/-- Two states compared: unequal. -/
theorem neqWst (x y u v : Int) (w : World) : (binOp .neq 27 (.agg #[.int .i64 x, .int .i64 y]) (.agg #[.int .i64 u, .int .i64 v])).run Try.prog w = .ok (.bool (!(decide (x = u) && decide (y = v)))) w := by
  have hS : Try.prog.underlying 27 = some (.struct (Try.prog.fieldsOf 27)) := by kernel_rfl
  have hp : Try.prog.stoodInHeld 27 = false := by kernel_rfl
  have u3 := Try.underlying3
  have a3 := Try.isAgg3
  have z3 := Try.sizeOf3
  rw [run_neq_struct, show (10000 : Nat) = 9999 + 1 from rfl, run_equalIn_agg w 9999 _ _ _ hS hp]
  simp only [Program.fieldsOf, Try.underlying27]
  go_simp
  by_cases h1 : x = u <;> by_cases h2 : y = v <;> simp [h1, h2]
theorem neqSame (x y : Int) (w : World) : (binOp .neq 27 (.agg #[.int .i64 x, .int .i64 y]) (.agg #[.int .i64 x, .int .i64 y])).run Try.prog w = .ok (.bool false) w := by
  have h := neqWst x y x y w
  simpa using h
theorem rn_facts {r : Wru} {s : Wst} {l : List Int} (h : rnOk r s l = true) : (∀ k, k < l.length → nxOk r (stK r s l k) (l.getD k 0) = true ∧ nxR r (stK r s l k) (l.getD k 0) = stK r s l (k + 1) ∧ (rnL r s l).getD k 0 = (stK r s l (k + 1)).l ∧ (stK r s l k).l - 1 ≤ (stK r s l (k + 1)).l ∧ (r.b ≤ l.getD k 0 → (stK r s l (k + 1)).l = 2) ∧ 0 ≤ (stK r s l k).l ∧ (stK r s l k).l ≤ 2) ∧
    (rnL r s l).length = l.length ∧ l.length ≤ 50 ∧ rnS r s l = stK r s l l.length ∧ tsOk r l = true := by
  obtain ⟨h1, h2, h3⟩ := rn_law h
  obtain ⟨h4, h5⟩ := rn_yes h
  obtain ⟨h6, h7⟩ := (vtL_iff l).1 h2
  refine ⟨fun k hk => ?_, by rw [h4, lvK_len], h6, h5, h3⟩
  have hs := stK_ok l h1 k
  have hn : nxOk r (stK r s l k) (l.getD k 0) = true := by unfold nxOk; rw [hs, h7 k hk]; rfl
  have hd := wnx_down hs (l.getD k 0)
  have hb := ((wsV_iff _ _).1 hs).2
  exact ⟨hn, by rw [nx_yes hn, stK_succ hk], by rw [h4, lvK_at hk], by rw [stK_succ hk]; exact hd, fun hb => by rw [stK_succ hk]; exact wnx_stop hb, by omega, by omega⟩
/-- The stops counted, when the wind began free. -/
def cn12 (z : Bool) (r : Wru) (l : List Int) (k : Nat) : Int := if z = true then (tsK r l k : Int) else 0
theorem cn_facts {r : Wru} {s : Wst} {l : List Int} {z : Bool} (hz : (decide (s.l = 0) && decide (s.c = 0)) = z) :
    cn12 z r l 0 = 0 ∧ (∀ k, z = true → (stK r s l (k + 1)).l = 2 → cn12 z r l (k + 1) = cn12 z r l k + 1) ∧ (∀ k, z = true → (stK r s l (k + 1)).l ≠ 2 → cn12 z r l (k + 1) = cn12 z r l k) ∧
    (∀ k, z = false → cn12 z r l (k + 1) = cn12 z r l k) ∧ (∀ k, 0 ≤ cn12 z r l k ∧ cn12 z r l k ≤ (k : Int)) ∧ (z = true → tsOk r l = true → tsV r l = cn12 z r l l.length) := by
  have hs : z = true → s = ⟨0, 0⟩ := by
    intro h
    rw [h, Bool.and_eq_true, decide_eq_true_eq, decide_eq_true_eq] at hz
    exact Wst.ext hz.1 hz.2
  unfold cn12
  refine ⟨?_, fun k h1 h2 => ?_, fun k h1 h2 => ?_, fun k h1 => ?_, fun k => ?_, fun h1 h2 => ?_⟩
  · cases z <;> simp [tsK]
  · rw [hs h1] at h2
    rw [if_pos h1, if_pos h1, tsK_yes h2]
    omega
  · rw [hs h1] at h2
    rw [if_pos h1, if_pos h1, tsK_no h2]
  · rw [if_neg (by rw [h1]; decide), if_neg (by rw [h1]; decide)]
  · have := tsK_le r l k
    split <;> omega
  · rw [ts_yes h2, if_pos h1]
theorem ef_law {r : Wru} {s : Wst} (h : wsV r s = true) : ∃ n : Nat, efV r s = (n : Int) ∧ n ≤ 20 ∧ rnOk r s (List.replicate n 0) = true ∧ (rnS r s (List.replicate n 0)).l = 0 := by
  have hb := ef_bd h
  obtain ⟨n, hn⟩ : ∃ n : Nat, s.l * r.d - s.c = (n : Int) := ⟨(s.l * r.d - s.c).toNat, by omega⟩
  exact ⟨n, by rw [ef_yes h, hn], by omega, ef_run_ok h n hn.symm, ef_run_end h n hn.symm⟩
set_option maxRecDepth 100000 in
set_option maxHeartbeats 4000000 in
theorem FnWinds_walk (a : Option Addr) (len cap : Nat) (w : World) (h : ByteRow w a len) :
    Calls Try.prog 3 #[.slice a len cap] w fun e w' => e = .returned (.bool true) ∧ Below w.heap.size w w' := by
  have hm := h.1
  have HC := Lib.hid h
  clear h
  by_cases hbig : 65536 < len
  · go_enter Try.func3, Try.ntmps3
    go_wp2_with fail
    refine (vBig_yes a len cap _ hbig hm).mono ?_
    rintro e w' ⟨rfl, rfl⟩
    go_wp2_with fail
    go_ret
    exact ⟨rfl, Below.refl _ _⟩
  · go_enter Try.func3, Try.ntmps3
    go_wp2_with fail
    refine (vBig_no a len cap _ (by omega)).mono ?_
    rintro e w' ⟨rfl, rfl⟩
    have T0 := Lib.hid (Below.refl w.heap.size w)
    have HCode1 := Lib.hid (HC.out.below T0.out)
    go_wp2_with fail
    refine (DrawRunWind_any a len cap _ HCode1.out).mono ?_
    rintro e X1 ⟨x1, s1, v1, l1, rfl, r1, hl1, b1⟩
    clear HCode1
    unfold Wru.agg
    have T_2 := Lib.hid (T0.out.trans (b1.mono T0.out.size))
    clear b1 T0
    obtain ⟨a1, c1, rfl⟩ := Rd.ish r1
    have R1_0 := Lib.hid r1
    clear r1
    go_upto_region 4 with fail
    have Kx1_30 : Hid ((X1.alloc (.cells #[.int .i64 x1.a, .int .i64 x1.b, .int .i64 x1.c, .int .i64 x1.d] 25)).heap[X1.heap.size]? = some (.cells #[.int .i64 x1.a, .int .i64 x1.b, .int .i64 x1.c, .int .i64 x1.d] 25)) := Lib.hid (nalW (by first | rfl | (simp; done) | (simp; omega)))
    have Kx1_31 := Lib.hid (old_allocD (W := (X1.alloc (.cells #[.int .i64 x1.a, .int .i64 x1.b, .int .i64 x1.c, .int .i64 x1.d] 25))) (o' := .cells #[.int .i64 s1.l, .int .i64 s1.c] 27) Kx1_30.out)
    have Ks1_31 : Hid (((X1.alloc (.cells #[.int .i64 x1.a, .int .i64 x1.b, .int .i64 x1.c, .int .i64 x1.d] 25)).alloc (.cells #[.int .i64 s1.l, .int .i64 s1.c] 27)).heap[X1.heap.size + 1]? = some (.cells #[.int .i64 s1.l, .int .i64 s1.c] 27)) := Lib.hid (nalW (by first | rfl | (simp; done) | (simp; omega)))
    have R1_3 := Lib.hid (R1_0.out.below (((Below.refl X1.heap.size X1).alloc (by first | exact Nat.le_refl _ | (simp; done) | (simp; omega)) (.cells #[.int .i64 x1.a, .int .i64 x1.b, .int .i64 x1.c, .int .i64 x1.d] 25)).alloc (by first | exact Nat.le_refl _ | (simp; done) | (simp; omega)) (.cells #[.int .i64 s1.l, .int .i64 s1.c] 27)) rfl)
    have T_3 := Lib.hid (((T_2.out).alloc T_2.out.size (.cells #[.int .i64 x1.a, .int .i64 x1.b, .int .i64 x1.c, .int .i64 x1.d] 25)).alloc (by have := T_2.out.size; simp <;> omega) (.cells #[.int .i64 s1.l, .int .i64 s1.c] 27))
    clear Kx1_30 R1_0 T_2
    generalize hwz3 : ((X1.alloc (.cells #[.int .i64 x1.a, .int .i64 x1.b, .int .i64 x1.c, .int .i64 x1.d] 25)).alloc (.cells #[.int .i64 s1.l, .int .i64 s1.c] 27)) = Z3 at *
    clear hwz3
    have EI := Lib.hid (fun W hr => implRunWind_c x1 s1 (.slice a1 l1.length c1) l1 W hr (by omega))
    have ES := Lib.hid (fun W hr => specRunWind_c x1 s1 (.slice a1 l1.length c1) l1 W hr (by omega))
    have HRF := Lib.hid (fun h => rn_facts (r := x1) (s := s1) (l := l1) h)
    have hlg := rnL_len x1 s1 l1
    have ETS := Lib.hid (fun W hr => implTimeStopped_c x1 (.slice a1 l1.length c1) l1 W hr (by omega))
    have HI0 := Lib.hid (fun W => implIsWindRule_c x1 W)
    have HJ0 := Lib.hid (fun W => specIsWindRule_c x1 W)
    generalize rnL x1 s1 l1 = lg at *
    generalize rnS x1 s1 l1 = es at *
    generalize rnOk x1 s1 l1 = ok at *
    obtain ⟨q4_0, q4_1, q4_2, q4_3⟩ := blk_cell4D Kx1_31.out
    obtain ⟨q5_0, q5_1⟩ := blk_cell2 Ks1_31.out
    go_wp2_with fail
    clear q4_0 q4_1 q4_2 q4_3 q5_0 q5_1
    refine (EI.out _ R1_3.out).mono ?_
    rintro e Y6 ⟨vg, rfl, og, b6⟩
    have R1_7 := Lib.hid (R1_3.out.below b6 rfl)
    have Kx1_7 := Lib.hid ((b6.block _ (Array.getElem?_eq_some_iff.1 Kx1_31.out).1).trans Kx1_31.out)
    have Ks1_7 := Lib.hid ((b6.block _ (Array.getElem?_eq_some_iff.1 Ks1_31.out).1).trans Ks1_31.out)
    have T_7 := Lib.hid (T_3.out.trans (b6.mono T_3.out.size))
    clear b6 R1_3 Kx1_31 Ks1_31 T_3
    obtain ⟨ag, cg, rfl⟩ := (Rs.of_own og).shape
    have Rg_0 := Lib.hid (Rd.of_own og)
    clear og
    obtain ⟨q9_0, q9_1, q9_2, q9_3⟩ := blk_cell4D Kx1_7.out
    obtain ⟨q10_0, q10_1⟩ := blk_cell2 Ks1_7.out
    go_upto_region 5 with fail
    clear q9_0 q9_1 q9_2 q9_3 q10_0 q10_1
    have Kx1_80 := Lib.hid (old_allocD (W := Y6) (o' := .cells #[.int .i64 es.l, .int .i64 es.c] 27) Kx1_7.out)
    have Ks1_80 := Lib.hid (old_allocD (W := Y6) (o' := .cells #[.int .i64 es.l, .int .i64 es.c] 27) Ks1_7.out)
    have Ke1_80 : Hid ((Y6.alloc (.cells #[.int .i64 es.l, .int .i64 es.c] 27)).heap[Y6.heap.size]? = some (.cells #[.int .i64 es.l, .int .i64 es.c] 27)) := Lib.hid (nalW (by first | rfl | (simp; done) | (simp; omega)))
    have R1_8 := Lib.hid (R1_7.out.below ((Below.refl Y6.heap.size Y6).alloc (by first | exact Nat.le_refl _ | (simp; done) | (simp; omega)) (.cells #[.int .i64 es.l, .int .i64 es.c] 27)) rfl)
    have Rg_8 := Lib.hid (Rg_0.out.below ((Below.refl Y6.heap.size Y6).alloc (by first | exact Nat.le_refl _ | (simp; done) | (simp; omega)) (.cells #[.int .i64 es.l, .int .i64 es.c] 27)) rfl)
    have T_8 := Lib.hid ((T_7.out).alloc T_7.out.size (.cells #[.int .i64 es.l, .int .i64 es.c] 27))
    clear Kx1_7 Ks1_7 R1_7 Rg_0 T_7
    generalize hwz8 : (Y6.alloc (.cells #[.int .i64 es.l, .int .i64 es.c] 27)) = Z8 at *
    clear hwz8
    obtain ⟨q11_0, q11_1, q11_2, q11_3⟩ := blk_cell4D Kx1_80.out
    obtain ⟨q12_0, q12_1⟩ := blk_cell2 Ks1_80.out
    obtain ⟨q13_0, q13_1⟩ := blk_cell2 Ke1_80.out
    go_wp2_with fail
    clear q11_0 q11_1 q11_2 q11_3 q12_0 q12_1 q13_0 q13_1
    refine (ES.out _ R1_8.out).mono ?_
    rintro e Y14 ⟨vh, rfl, oh, b14⟩
    have R1_15 := Lib.hid (R1_8.out.below b14 rfl)
    have Rg_15 := Lib.hid (Rg_8.out.below b14 rfl)
    have Kx1_15 := Lib.hid ((b14.block _ (Array.getElem?_eq_some_iff.1 Kx1_80.out).1).trans Kx1_80.out)
    have Ks1_15 := Lib.hid ((b14.block _ (Array.getElem?_eq_some_iff.1 Ks1_80.out).1).trans Ks1_80.out)
    have Ke1_15 := Lib.hid ((b14.block _ (Array.getElem?_eq_some_iff.1 Ke1_80.out).1).trans Ke1_80.out)
    have T_15 := Lib.hid (T_8.out.trans (b14.mono T_8.out.size))
    clear b14 R1_8 Rg_8 Kx1_80 Ks1_80 Ke1_80 T_8
    obtain ⟨ah, ch, rfl⟩ := (Rs.of_own oh).shape
    have Rh_0 := Lib.hid (Rd.of_own oh)
    clear oh
    obtain ⟨q17_0, q17_1, q17_2, q17_3⟩ := blk_cell4D Kx1_15.out
    obtain ⟨q18_0, q18_1⟩ := blk_cell2 Ks1_15.out
    obtain ⟨q19_0, q19_1⟩ := blk_cell2 Ke1_15.out
    go_upto_region 6 with fail
    clear q17_0 q17_1 q17_2 q17_3 q18_0 q18_1 q19_0 q19_1
    have Kx1_160 := Lib.hid (old_allocD (W := Y14) (o' := .cells #[.int .i64 es.l, .int .i64 es.c] 27) Kx1_15.out)
    have Ks1_160 := Lib.hid (old_allocD (W := Y14) (o' := .cells #[.int .i64 es.l, .int .i64 es.c] 27) Ks1_15.out)
    have Ke1_160 := Lib.hid (old_allocD (W := Y14) (o' := .cells #[.int .i64 es.l, .int .i64 es.c] 27) Ke1_15.out)
    have Ke2_160 : Hid ((Y14.alloc (.cells #[.int .i64 es.l, .int .i64 es.c] 27)).heap[Y14.heap.size]? = some (.cells #[.int .i64 es.l, .int .i64 es.c] 27)) := Lib.hid (nalW (by first | rfl | (simp; done) | (simp; omega)))
    have R1_16 := Lib.hid (R1_15.out.below ((Below.refl Y14.heap.size Y14).alloc (by first | exact Nat.le_refl _ | (simp; done) | (simp; omega)) (.cells #[.int .i64 es.l, .int .i64 es.c] 27)) rfl)
    have Rg_16 := Lib.hid (Rg_15.out.below ((Below.refl Y14.heap.size Y14).alloc (by first | exact Nat.le_refl _ | (simp; done) | (simp; omega)) (.cells #[.int .i64 es.l, .int .i64 es.c] 27)) rfl)
    have Rh_16 := Lib.hid (Rh_0.out.below ((Below.refl Y14.heap.size Y14).alloc (by first | exact Nat.le_refl _ | (simp; done) | (simp; omega)) (.cells #[.int .i64 es.l, .int .i64 es.c] 27)) rfl)
    have T_16 := Lib.hid ((T_15.out).alloc T_15.out.size (.cells #[.int .i64 es.l, .int .i64 es.c] 27))
    clear Kx1_15 Ks1_15 Ke1_15 R1_15 Rg_15 Rh_0 T_15
    generalize hwz16 : (Y14.alloc (.cells #[.int .i64 es.l, .int .i64 es.c] 27)) = Z16 at *
    clear hwz16
    clear EI ES
    have HVI := Lib.hid (fun x : Aft Z16 => vInts_c (.slice ag lg.length cg) (.slice ah lg.length ch) lg x.w (Rg_16.out.below x.below rfl) (Rh_16.out.below x.below rfl))
    have HI := Lib.hid (fun x : Aft Z16 => HI0.out x.w)
    have HJ := Lib.hid (fun x : Aft Z16 => HJ0.out x.w)
    generalize wrV x1 = dv at *
    go_cut [80] from 60 to 79 (fun t wx => t = .bool false ∧ Hid (Below Z16.heap.size Z16 wx))
    case first =>
      as_aux_lemma =>
      obtain ⟨kx10, kx11, kx12, kx13⟩ := blk_cell4D Kx1_160.out
      have ckx10 : ∀ x : Aft Z16, x.w.cell? ⟨X1.heap.size, 0, none⟩ = some (.int .i64 x1.a) := fun x => x.cell kx10
      have ckx11 : ∀ x : Aft Z16, x.w.cell? ⟨X1.heap.size, 1, none⟩ = some (.int .i64 x1.b) := fun x => x.cell kx11
      have ckx12 : ∀ x : Aft Z16, x.w.cell? ⟨X1.heap.size, 2, none⟩ = some (.int .i64 x1.c) := fun x => x.cell kx12
      have ckx13 : ∀ x : Aft Z16, x.w.cell? ⟨X1.heap.size, 3, none⟩ = some (.int .i64 x1.d) := fun x => x.cell kx13
      clear kx10 kx11 kx12 kx13
      obtain ⟨ks10, ks11⟩ := blk_cell2 Ks1_160.out
      have cks10 : ∀ x : Aft Z16, x.w.cell? ⟨X1.heap.size + 1, 0, none⟩ = some (.int .i64 s1.l) := fun x => x.cell ks10
      have cks11 : ∀ x : Aft Z16, x.w.cell? ⟨X1.heap.size + 1, 1, none⟩ = some (.int .i64 s1.c) := fun x => x.cell ks11
      clear ks10 ks11
      obtain ⟨ke10, ke11⟩ := blk_cell2 Ke1_160.out
      have cke10 : ∀ x : Aft Z16, x.w.cell? ⟨Y6.heap.size, 0, none⟩ = some (.int .i64 es.l) := fun x => x.cell ke10
      have cke11 : ∀ x : Aft Z16, x.w.cell? ⟨Y6.heap.size, 1, none⟩ = some (.int .i64 es.c) := fun x => x.cell ke11
      clear ke10 ke11
      obtain ⟨ke20, ke21⟩ := blk_cell2 Ke2_160.out
      have cke20 : ∀ x : Aft Z16, x.w.cell? ⟨Y14.heap.size, 0, none⟩ = some (.int .i64 es.l) := fun x => x.cell ke20
      have cke21 : ∀ x : Aft Z16, x.w.cell? ⟨Y14.heap.size, 1, none⟩ = some (.int .i64 es.c) := fun x => x.cell ke21
      clear ke20 ke21
      have hnq := fun W => neqSame es.l es.c W
      clear HRF ETS HI0 HJ0
      cases dv <;> cases ok
      · skip
        refine wp_region_aft (w0 := Z16) (by kernel_rfl) (by kernel_rfl) (Below.refl _ _) ?_
        repeat (go_big_quiet_step (first | (go_at_call 18; exact aft_of (HVI.out _)) | (go_at_call 19; exact aft_of (HI.out _)) | (go_at_call 20; exact aft_of (HJ.out _)) | fail))
        refine wpQuiet_nil ?_
        rintro _ ⟨⟨Y70, b70⟩, rfl⟩
        try simp only []
        go_wp2
        go_meet
        case rel => exact ⟨rfl, Lib.hid b70⟩
      · skip
        refine wp_region_aft (w0 := Z16) (by kernel_rfl) (by kernel_rfl) (Below.refl _ _) ?_
        repeat (go_big_quiet_step (first | (go_at_call 18; exact aft_of (HVI.out _)) | (go_at_call 19; exact aft_of (HI.out _)) | (go_at_call 20; exact aft_of (HJ.out _)) | fail))
        refine wpQuiet_nil ?_
        rintro _ ⟨⟨Y70, b70⟩, rfl⟩
        try simp only []
        go_wp2
        go_meet
        case rel => exact ⟨rfl, Lib.hid b70⟩
      · skip
        refine wp_region_aft (w0 := Z16) (by kernel_rfl) (by kernel_rfl) (Below.refl _ _) ?_
        repeat (go_big_quiet_step (first | (go_at_call 18; exact aft_of (HVI.out _)) | (go_at_call 19; exact aft_of (HI.out _)) | (go_at_call 20; exact aft_of (HJ.out _)) | fail))
        refine wpQuiet_nil ?_
        rintro _ ⟨⟨Y70, b70⟩, rfl⟩
        try simp only []
        go_wp2
        go_meet
        case rel => exact ⟨rfl, Lib.hid b70⟩
      · skip
        refine wp_region_aft (w0 := Z16) (by kernel_rfl) (by kernel_rfl) (Below.refl _ _) ?_
        repeat (go_big_quiet_step (first | (go_at_call 18; exact aft_of (HVI.out _)) | (go_at_call 19; exact aft_of (HI.out _)) | (go_at_call 20; exact aft_of (HJ.out _)) | fail))
        refine wpQuiet_nil ?_
        rintro _ ⟨⟨Y70, b70⟩, rfl⟩
        try simp only []
        go_wp2
        go_meet
        case rel => exact ⟨rfl, Lib.hid b70⟩
    case rest =>
      obtain ⟨rfl, hcut⟩ := hcut
      clear Rh_16
      clear Ke2_160
      obtain ⟨wx, hwx⟩ := namedT hcut
      subst hwx
      have bcwx := hcut.out
      clear hcut HVI HI HJ HI0 HJ0
      have R1_20 := Lib.hid (R1_16.out.below bcwx rfl)
      have Rg_20 := Lib.hid (Rg_16.out.below bcwx rfl)
      have Kx1_20 := Lib.hid ((bcwx.block _ (Array.getElem?_eq_some_iff.1 Kx1_160.out).1).trans Kx1_160.out)
      have Ks1_20 := Lib.hid ((bcwx.block _ (Array.getElem?_eq_some_iff.1 Ks1_160.out).1).trans Ks1_160.out)
      have Ke1_20 := Lib.hid ((bcwx.block _ (Array.getElem?_eq_some_iff.1 Ke1_160.out).1).trans Ke1_160.out)
      have T_20 := Lib.hid (T_16.out.trans (bcwx.mono T_16.out.size))
      clear bcwx R1_16 Rg_16 Kx1_160 Ks1_160 Ke1_160 T_16
      obtain ⟨q21_0, q21_1, q21_2, q21_3⟩ := blk_cell4D Kx1_20.out
      obtain ⟨q22_0, q22_1⟩ := blk_cell2 Ks1_20.out
      obtain ⟨q23_0, q23_1⟩ := blk_cell2 Ke1_20.out
      go_upto_if 81 with fail
      go_cut [] from 3 (fun wy => Hid (Below wx.heap.size wx wy))
      clear q21_0 q21_1 q21_2 q21_3 q22_0 q22_1 q23_0 q23_1
      case first =>
        as_aux_lemma =>
        cases ok with
        | false =>
          go_wp2
          go_meet
          case rel => exact Lib.hid (Below.refl _ _)
        | true =>
          have hY0 := Lib.hid (Below.refl wx.heap.size wx)
          obtain ⟨hf1, hf2, hf3, hf4, hf5⟩ := HRF.out rfl
          have HF1 := Lib.hid hf1
          have HES := Lib.hid hf4
          have HLG := Lib.hid hf2
          rw [hf5] at ETS
          clear hf1 hf2 hf4 HRF
          obtain ⟨zs, hzs⟩ : ∃ zs, (decide (s1.l = 0) && decide (s1.c = 0)) = zs := ⟨_, rfl⟩
          obtain ⟨cn0, cn1, cn2, cn3, cn4, cn5⟩ := cn_facts (r := x1) (l := l1) hzs
          have CN0 := Lib.hid cn0
          have CN1 := Lib.hid cn1
          have CN2 := Lib.hid cn2
          have CN3 := Lib.hid cn3
          have CN4 := Lib.hid cn4
          have CN5 := Lib.hid (fun h => cn5 h hf5)
          have HQ := Lib.hid (fun W => eqlWst s1.l s1.c 0 0 W)
          rw [hzs] at HQ
          have hls1 := blk_lt Ks1_20.out
          clear cn0 cn1 cn2 cn3 cn4 cn5 hf5 hzs
          obtain ⟨q24_0, q24_1, q24_2, q24_3⟩ := blk_cell4D Kx1_20.out
          obtain ⟨q25_0, q25_1⟩ := blk_cell2 Ks1_20.out
          obtain ⟨q26_0, q26_1⟩ := blk_cell2 Ke1_20.out
          go_wp2
          clear q24_0 q24_1 q24_2 q24_3 q25_0 q25_1 q26_0 q26_1
          go_loopw [13, 14] (fun c i wr => ∃ kk : Nat, kk ≤ l1.length ∧ i = .int .i64 (kk : Int) ∧ c = .int .i64 (cn12 zs x1 l1 kk) ∧ Hid (wr.heap[wx.heap.size]? = some (.cells #[.int .i64 (stK x1 s1 l1 kk).l, .int .i64 (stK x1 s1 l1 kk).c] 27)) ∧ Hid (Below wx.heap.size wx wr)) (fun _ i _ => l1.length - (intOf i).toNat)
          case atStart => exact ⟨0, by omega, rfl, by rw [CN0.out], Lib.hid (by rw [stK_zero]; exact nalW rfl), Lib.hid ((Below.refl _ _).alloc (Nat.le_refl _) _)⟩
          case round =>
            obtain ⟨kk, hk, rfl, rfl, hnow, hbl⟩ := hrel
            have bq := hbl.out
            have hBlt := blk_lt hnow.out
            have hY27 := Lib.hid (hY0.out.trans (bq.mono hY0.out.size))
            clear hY0
            have R1_28 := Lib.hid (R1_20.out.below bq rfl)
            have Rg_28 := Lib.hid (Rg_20.out.below bq rfl)
            have Kx1_28 := Lib.hid ((bq.block _ (Array.getElem?_eq_some_iff.1 Kx1_20.out).1).trans Kx1_20.out)
            have Ks1_28 := Lib.hid ((bq.block _ (Array.getElem?_eq_some_iff.1 Ks1_20.out).1).trans Ks1_20.out)
            have Ke1_28 := Lib.hid ((bq.block _ (Array.getElem?_eq_some_iff.1 Ke1_20.out).1).trans Ke1_20.out)
            have T_28 := Lib.hid (T_20.out.trans (bq.mono T_20.out.size))
            clear bq R1_20 Rg_20 Kx1_20 Ks1_20 Ke1_20 T_20
            by_cases hlt : kk < l1.length
            · skip
              have i1 : (kk : Int) < (l1.length : Int) := by omega
              obtain ⟨n1, n2, n3, n4, n5, n6, n7⟩ := HF1.out kk hlt
              have j0 := HLG.out
              obtain ⟨b1, o1, rfl⟩ := Rd.some12 R1_28.out (by omega)
              obtain ⟨bg, og, rfl⟩ := Rd.some12 Rg_28.out (by omega)
              have j1 : (kk : Int) < (lg.length : Int) := by omega
              have EN := Lib.hid (fun W => implNextWind_c x1 (stK x1 s1 l1 kk) (l1.getD kk 0) W)
              rw [n1, n2] at EN
              have HY2 := Lib.hid (CN1.out kk)
              have HN2 := Lib.hid (CN2.out kk)
              have HZ2 := Lib.hid (CN3.out kk)
              have hcb := CN4.out kk
              have GV := Lib.hid n3
              have G4 := Lib.hid n4
              have G5 := Lib.hid n5
              have L1 := Lib.hid (fun W (h : Rd W (.slice (some ⟨b1, o1, none⟩) l1.length c1) (intVs l1)) => h.at12 kk hlt)
              have LG := Lib.hid (fun W (h : Rd W (.slice (some ⟨bg, og, none⟩) lg.length cg) (intVs lg)) => h.at12 kk (by omega))
              rw [n3] at LG
              obtain ⟨st', hst⟩ : ∃ st', stK x1 s1 l1 (kk + 1) = st' := ⟨_, rfl⟩
              have HST := Lib.hid hst
              rw [hst] at EN HY2 HN2 GV G4 G5 LG
              generalize stK x1 s1 l1 kk = st at *
              generalize l1.getD kk 0 = D at *
              generalize hcc : cn12 zs x1 l1 kk = CC at *
              clear n1 n2 n3 n4 n5 hst j0 HLG CN0 CN1 CN2 CN3 CN4 CN5 HES HF1 ETS
              have HKS : Hid (∀ W, Below wr.heap.size wr W → Below wr.heap.size wr W ∧ W.cell? ⟨X1.heap.size, 0, none⟩ = some (.int .i64 x1.a) ∧ W.cell? ⟨X1.heap.size, 1, none⟩ = some (.int .i64 x1.b) ∧ W.cell? ⟨X1.heap.size, 2, none⟩ = some (.int .i64 x1.c) ∧ W.cell? ⟨X1.heap.size, 3, none⟩ = some (.int .i64 x1.d) ∧ W.cell? ⟨wx.heap.size, 0, none⟩ = some (.int .i64 st.l) ∧ W.cell? ⟨wx.heap.size, 1, none⟩ = some (.int .i64 st.c) ∧ W.cell? ⟨b1, o1 + kk, none⟩ = some (.int .i64 D)) := Lib.hid (fun W hW => by
                obtain ⟨z0, z1, z2, z3⟩ := blk_cell4D (kept12 Kx1_28.out hW)
                obtain ⟨z4, z5⟩ := blk_cell2 (kept12 hnow.out hW)
                exact ⟨hW, z0, z1, z2, z3, z4, z5, L1.out W (R1_28.out.below hW rfl)⟩)
              go_upto_region 13 with fail
              go_cut [15, 16] from 83 to 142 (fun s15 s16 wx => ∃ P : Nat, s15 = .pointer (some ⟨P, 0, none⟩) ∧ s16 = .bool true ∧ Hid (Below wr.heap.size wr wx) ∧ Hid (wr.heap.size ≤ P ∧ wx.heap[P]? = some (.cells #[.int .i64 st'.l, .int .i64 st'.c] 27)))
              case first =>
                as_aux_lemma =>
                go_region_held3 (fun w' => Below wr.heap.size wr w' ∧ w'.cell? ⟨X1.heap.size, 0, none⟩ = some (.int .i64 x1.a) ∧ w'.cell? ⟨X1.heap.size, 1, none⟩ = some (.int .i64 x1.b) ∧ w'.cell? ⟨X1.heap.size, 2, none⟩ = some (.int .i64 x1.c) ∧ w'.cell? ⟨X1.heap.size, 3, none⟩ = some (.int .i64 x1.d) ∧ w'.cell? ⟨wx.heap.size, 0, none⟩ = some (.int .i64 st.l) ∧ w'.cell? ⟨wx.heap.size, 1, none⟩ = some (.int .i64 st.c) ∧ w'.cell? ⟨b1, o1 + kk, none⟩ = some (.int .i64 D)) (exact HKS.out _ (by (repeat (first | exact BnT | exact Below.refl _ _ | refine bel_dr12 ?_ | refine below_drewN ?_ _ | refine bel_al12 ?_ (by first | exact Nat.le_refl _ | exact BnT.size | (simp; done) | (have := BnT.size; simp <;> omega)) _ | refine below_all2 ?_ (by first | exact Nat.le_refl _ | exact BnT.size | fail) _ _)); first | done | fail))
                  (first
                    | (go_at_call 21; refine (EN.out _).mono ?_; rintro e Wn ⟨rfl, bn⟩; have BnT : Below wr.heap.size wr Wn := Below.trans (by (repeat (first | exact Below.refl _ _ | refine bel_dr12 ?_ | refine below_drewN ?_ _ | refine bel_al12 ?_ (by first | exact Nat.le_refl _ | (simp; done)) _)); first | done | fail) (bn.mono (Below.size (B := wr.heap.size) (by exact (by (repeat (first | exact Below.refl _ _ | refine bel_dr12 ?_ | refine below_drewN ?_ _ | refine bel_al12 ?_ (by first | exact Nat.le_refl _ | (simp; done)) _)); first | done | fail)))); first | (have KB : Wn.heap[wr.heap.size]? = some (.cells #[.int .i64 0, .int .i64 0] 27) := (by (repeat (first | exact new12 _ _ _ (by first | rfl | (simp; done) | fail) | refine blk_stay ?_ | refine kept12 ?_ bn)); first | done | fail); obtain ⟨p0, p1⟩ := blk_cell2 KB; obtain ⟨m0, m1⟩ := blk_froz2 KB; have hltB := blk_lt KB) | skip)
                    | fail)
                all_goals (try go_wp2_with fail)
                all_goals go_meet
                all_goals (case rel => have Zn := BnT.size; exact ⟨_, rfl, rfl, Lib.hid (by (repeat (first | exact BnT | exact Below.refl _ _ | refine bel_dr12 ?_ | refine below_drewN ?_ _ | refine bel_al12 ?_ (by first | exact Nat.le_refl _ | exact BnT.size | (simp; done) | (have := BnT.size; simp <;> omega)) _ | refine below_all2 ?_ (by first | exact Nat.le_refl _ | exact BnT.size | fail) _ _)); first | done | fail), Lib.hid ⟨(by first | exact Nat.le_refl _ | omega), (by first | exact blk_new2 _ _ _ _ | exact blk_all2 KB | fail)⟩⟩)
              case rest =>
                obtain ⟨P, rfl, rfl, hcut, HK⟩ := hcut
                obtain ⟨wt, hwt⟩ := namedT hcut
                subst hwt
                have bwt := hcut.out
                have KP := Lib.hid HK.out.2
                have hP := HK.out.1
                clear hcut HK HKS
                have hB29 := Lib.hid (hbl.out.trans (bwt.mono hbl.out.size))
                clear hbl
                have hY30 := Lib.hid (hY27.out.trans (bwt.mono hY27.out.size))
                clear hY27
                have R1_31 := Lib.hid (R1_28.out.below bwt rfl)
                have Rg_31 := Lib.hid (Rg_28.out.below bwt rfl)
                have Kx1_31 := Lib.hid ((bwt.block _ (Array.getElem?_eq_some_iff.1 Kx1_28.out).1).trans Kx1_28.out)
                have Ks1_31 := Lib.hid ((bwt.block _ (Array.getElem?_eq_some_iff.1 Ks1_28.out).1).trans Ks1_28.out)
                have Ke1_31 := Lib.hid ((bwt.block _ (Array.getElem?_eq_some_iff.1 Ke1_28.out).1).trans Ke1_28.out)
                have Know_31 := Lib.hid ((bwt.block _ (Array.getElem?_eq_some_iff.1 hnow.out).1).trans hnow.out)
                have T_31 := Lib.hid (T_28.out.trans (bwt.mono T_28.out.size))
                clear bwt R1_28 Rg_28 Kx1_28 Ks1_28 Ke1_28 hnow T_28
                have c1 := L1.out wt R1_31.out
                have cg := LG.out wt Rg_31.out
                have wq1 : IntKind.i64.wrap (st.l - 1) = st.l - 1 := IntWalk.i64_in _ (by omega)
                have t2 : decide (st'.l < st.l - 1) = false := by have := G4.out; simp; omega
                have t1 : (st'.l != st'.l) = false := by simp
                obtain ⟨q32_0, q32_1, q32_2, q32_3⟩ := blk_cell4D Kx1_31.out
                obtain ⟨q33_0, q33_1⟩ := blk_cell2 Know_31.out
                obtain ⟨q34_0, q34_1⟩ := blk_cell2 KP.out
                go_upto_region 14 with fail
                go_cut [131] from 83 to 130 (fun t wx => t = .bool false ∧ Hid (Below wt.heap.size wt wx))
                case first =>
                  as_aux_lemma =>
                  by_cases hb : x1.b ≤ D
                  · have t3 : decide (x1.b ≤ D) = true := by simpa using hb
                    have t4 : (st'.l != 2) = false := by rw [G5.out hb]; rfl
                    clear hb G4 G5
                    go_quiet (fail)
                    go_wp2
                    go_meet
                    case rel => exact ⟨rfl, Lib.hid (below_drewN (Below.refl _ _) _)⟩
                  · have t3 : decide (x1.b ≤ D) = false := by simpa using hb
                    clear hb G4 G5
                    go_quiet (fail)
                    go_wp2
                    go_meet
                    case rel => exact ⟨rfl, Lib.hid (below_drewN (Below.refl _ _) _)⟩
                case rest =>
                  clear q32_0 q32_1 q32_2 q32_3 q33_0 q33_1 q34_0 q34_1
                  obtain ⟨rfl, hcut⟩ := hcut
                  obtain ⟨wu, hwu⟩ := namedT hcut
                  subst hwu
                  have bwu := hcut.out
                  clear hcut c1 cg t1 t2 wq1 G4 G5 L1 LG
                  have hB35 := Lib.hid (hB29.out.trans (bwu.mono hB29.out.size))
                  clear hB29
                  have hY36 := Lib.hid (hY30.out.trans (bwu.mono hY30.out.size))
                  clear hY30
                  have R1_37 := Lib.hid (R1_31.out.below bwu rfl)
                  have Rg_37 := Lib.hid (Rg_31.out.below bwu rfl)
                  have Kx1_37 := Lib.hid ((bwu.block _ (Array.getElem?_eq_some_iff.1 Kx1_31.out).1).trans Kx1_31.out)
                  have Ks1_37 := Lib.hid ((bwu.block _ (Array.getElem?_eq_some_iff.1 Ks1_31.out).1).trans Ks1_31.out)
                  have Ke1_37 := Lib.hid ((bwu.block _ (Array.getElem?_eq_some_iff.1 Ke1_31.out).1).trans Ke1_31.out)
                  have Know_37 := Lib.hid ((bwu.block _ (Array.getElem?_eq_some_iff.1 Know_31.out).1).trans Know_31.out)
                  have Knx_37 := Lib.hid ((bwu.block _ (Array.getElem?_eq_some_iff.1 KP.out).1).trans KP.out)
                  have T_37 := Lib.hid (T_31.out.trans (bwu.mono T_31.out.size))
                  clear bwu R1_31 Rg_31 Kx1_31 Ks1_31 Ke1_31 Know_31 KP T_31
                  have J6 : Hid (((wu.setCell ⟨wx.heap.size, 0, none⟩ (.int .i64 st'.l)).setCell ⟨wx.heap.size, 1, none⟩ (.int .i64 st'.c)).heap[wx.heap.size]? = some (.cells #[.int .i64 st'.l, .int .i64 st'.c] 27)) := Lib.hid (blk_all2 Know_37.out)
                  have S6 : Hid (((wu.setCell ⟨wx.heap.size, 0, none⟩ (.int .i64 st'.l)).setCell ⟨wx.heap.size, 1, none⟩ (.int .i64 st'.c)).heap[X1.heap.size + 1]? = some (.cells #[.int .i64 s1.l, .int .i64 s1.c] 27)) := Lib.hid ((blk_other2 (by omega)).trans Ks1_37.out)
                  have P6 : Hid (((wu.setCell ⟨wx.heap.size, 0, none⟩ (.int .i64 st'.l)).setCell ⟨wx.heap.size, 1, none⟩ (.int .i64 st'.c)).heap[P]? = some (.cells #[.int .i64 st'.l, .int .i64 st'.c] 27)) := Lib.hid ((blk_other2 (by omega)).trans Knx_37.out)
                  have B6 : Hid (Below wx.heap.size wx ((wu.setCell ⟨wx.heap.size, 0, none⟩ (.int .i64 st'.l)).setCell ⟨wx.heap.size, 1, none⟩ (.int .i64 st'.c))) := Lib.hid (below_all2 hB35.out (Nat.le_refl _) _ _)
                  obtain ⟨x6, x7⟩ := blk_cell2 Knx_37.out
                  obtain ⟨y6, y7⟩ := blk_cell2 Know_37.out
                  obtain ⟨f6, f7⟩ := blk_froz2 Know_37.out
                  have hlt6 := blk_lt Know_37.out
                  go_upto_region 17 with fail
                  generalize (wu.setCell ⟨wx.heap.size, 0, none⟩ (.int .i64 st'.l)).setCell ⟨wx.heap.size, 1, none⟩ (.int .i64 st'.c) = wv at *
                  clear x6 x7 y6 y7 f6 f7 hlt6
                  obtain ⟨x6, x7⟩ := blk_cell2 S6.out
                  obtain ⟨y6, y7⟩ := blk_cell2 P6.out
                  have wq : IntKind.i64.wrap (CC + 1) = CC + 1 := IntWalk.i64_in _ (by omega)
                  have wqk : IntKind.i64.wrap ((kk : Int) + 1) = (kk : Int) + 1 := IntWalk.i64_in _ (by omega)
                  have hq := HQ.out
                  cases zs with
                  | false =>
                    have HC := Lib.hid (HZ2.out rfl)
                    clear HQ HY2 HN2 HZ2
                    go_wp2
                    go_roundw
                    case rel => exact ⟨kk + 1, by omega, by go_num, by rw [HC.out], by rw [HST.out]; exact J6, B6⟩
                    case measure => simp [intOf]; omega
                  | true =>
                    by_cases h2 : st'.l = 2
                    · have HC := Lib.hid (HY2.out rfl h2)
                      have t2 : (st'.l == 2) = true := by rw [h2]; rfl
                      clear HQ HY2 HN2 HZ2 h2
                      go_wp2
                      go_roundw
                      case rel => exact ⟨kk + 1, by omega, by go_num, by rw [HC.out], by rw [HST.out]; exact J6, B6⟩
                      case measure => simp [intOf]; omega
                    · have HC := Lib.hid (HN2.out rfl h2)
                      have t2 : (st'.l == 2) = false := by simpa using h2
                      clear HQ HY2 HN2 HZ2 h2
                      go_wp2
                      go_roundw
                      case rel => exact ⟨kk + 1, by omega, by go_num, by rw [HC.out], by rw [HST.out]; exact J6, B6⟩
                      case measure => simp [intOf]; omega
            · skip
              have t1 : decide ((kk : Int) < (l1.length : Int)) = false := by simp; omega
              obtain rfl : kk = l1.length := by omega
              clear hbl HF1 HLG CN0 CN1 CN2 CN3 CN4
              have HES2 := HES.out
              rw [← HES2] at hnow
              clear HES HES2
              generalize cn12 zs x1 l1 l1.length = CC at *
              generalize tsV x1 l1 = tv at *
              obtain ⟨q38_0, q38_1, q38_2, q38_3⟩ := blk_cell4D Kx1_28.out
              obtain ⟨q39_0, q39_1⟩ := blk_cell2 Ks1_28.out
              obtain ⟨q40_0, q40_1⟩ := blk_cell2 Ke1_28.out
              obtain ⟨q41_0, q41_1⟩ := blk_cell2 hnow.out
              go_wp2_with fail
              clear q38_0 q38_1 q38_2 q38_3 q39_0 q39_1 q40_0 q40_1 q41_0 q41_1
              refine (ETS.out _ R1_28.out).mono ?_
              rintro e Y42 ⟨rfl, b42⟩
              have hY43 := Lib.hid (hY27.out.trans (b42.mono hY27.out.size))
              clear hY27
              have R1_44 := Lib.hid (R1_28.out.below b42 rfl)
              have Rg_44 := Lib.hid (Rg_28.out.below b42 rfl)
              have Kx1_44 := Lib.hid ((b42.block _ (Array.getElem?_eq_some_iff.1 Kx1_28.out).1).trans Kx1_28.out)
              have Ks1_44 := Lib.hid ((b42.block _ (Array.getElem?_eq_some_iff.1 Ks1_28.out).1).trans Ks1_28.out)
              have Ke1_44 := Lib.hid ((b42.block _ (Array.getElem?_eq_some_iff.1 Ke1_28.out).1).trans Ke1_28.out)
              have Know_44 := Lib.hid ((b42.block _ (Array.getElem?_eq_some_iff.1 hnow.out).1).trans hnow.out)
              have T_44 := Lib.hid (T_28.out.trans (b42.mono T_28.out.size))
              clear b42 R1_28 Rg_28 Kx1_28 Ks1_28 Ke1_28 hnow T_28
              have hnq := fun W => neqSame es.l es.c W
              have hq := HQ.out
              clear HQ ETS
              cases zs with
              | false =>
                clear CN5
                obtain ⟨q45_0, q45_1, q45_2, q45_3⟩ := blk_cell4D Kx1_44.out
                obtain ⟨q46_0, q46_1⟩ := blk_cell2 Ks1_44.out
                obtain ⟨q47_0, q47_1⟩ := blk_cell2 Ke1_44.out
                obtain ⟨q48_0, q48_1⟩ := blk_cell2 Know_44.out
                go_wp2
                go_meet
                case rel => exact hY43
              | true =>
                have t2 : (tv != CC) = false := by rw [CN5.out rfl]; simp
                clear CN5
                obtain ⟨q49_0, q49_1, q49_2, q49_3⟩ := blk_cell4D Kx1_44.out
                obtain ⟨q50_0, q50_1⟩ := blk_cell2 Ks1_44.out
                obtain ⟨q51_0, q51_1⟩ := blk_cell2 Ke1_44.out
                obtain ⟨q52_0, q52_1⟩ := blk_cell2 Know_44.out
                go_wp2
                go_meet
                case rel => exact hY43
      case rest =>
        clear Kx1_20 Ks1_20 Ke1_20
        clear R1_20 Rg_20
        obtain ⟨wy, hwy⟩ := namedT hcut
        subst hwy
        have bcwy := hcut.out
        clear hcut HRF ETS
        have T_53 := Lib.hid (T_20.out.trans (bcwy.mono T_20.out.size))
        clear bcwy T_20
        have HCode54 := Lib.hid (HC.out.below T_53.out)
        go_wp2_with fail
        refine (DrawNextWind_any a len cap _ HCode54.out).mono ?_
        rintro e X54 ⟨x2, s2, y2, rfl, b54⟩
        clear HCode54
        unfold Wru.agg
        have T_55 := Lib.hid (T_53.out.trans (b54.mono T_53.out.size))
        clear b54 T_53
        go_upto_region 23 with fail
        have Kx2_560 : Hid ((X54.alloc (.cells #[.int .i64 x2.a, .int .i64 x2.b, .int .i64 x2.c, .int .i64 x2.d] 25)).heap[X54.heap.size]? = some (.cells #[.int .i64 x2.a, .int .i64 x2.b, .int .i64 x2.c, .int .i64 x2.d] 25)) := Lib.hid (nalW (by first | rfl | (simp; done) | (simp; omega)))
        have Kx2_561 := Lib.hid (old_allocD (W := (X54.alloc (.cells #[.int .i64 x2.a, .int .i64 x2.b, .int .i64 x2.c, .int .i64 x2.d] 25))) (o' := .cells #[.int .i64 s2.l, .int .i64 s2.c] 27) Kx2_560.out)
        have Ks2_561 : Hid (((X54.alloc (.cells #[.int .i64 x2.a, .int .i64 x2.b, .int .i64 x2.c, .int .i64 x2.d] 25)).alloc (.cells #[.int .i64 s2.l, .int .i64 s2.c] 27)).heap[X54.heap.size + 1]? = some (.cells #[.int .i64 s2.l, .int .i64 s2.c] 27)) := Lib.hid (nalW (by first | rfl | (simp; done) | (simp; omega)))
        have T_56 := Lib.hid (((T_55.out).alloc T_55.out.size (.cells #[.int .i64 x2.a, .int .i64 x2.b, .int .i64 x2.c, .int .i64 x2.d] 25)).alloc (by have := T_55.out.size; simp <;> omega) (.cells #[.int .i64 s2.l, .int .i64 s2.c] 27))
        clear Kx2_560 T_55
        generalize hwz56 : ((X54.alloc (.cells #[.int .i64 x2.a, .int .i64 x2.b, .int .i64 x2.c, .int .i64 x2.d] 25)).alloc (.cells #[.int .i64 s2.l, .int .i64 s2.c] 27)) = Z56 at *
        clear hwz56
        have E1 := Lib.hid (fun W => implNextWind_c x2 s2 y2 W)
        have E2 := Lib.hid (fun W => specNextWind_c x2 s2 y2 W)
        generalize nxR x2 s2 y2 = nw at *
        generalize nxOk x2 s2 y2 = no at *
        obtain ⟨q57_0, q57_1, q57_2, q57_3⟩ := blk_cell4D Kx2_561.out
        obtain ⟨q58_0, q58_1⟩ := blk_cell2 Ks2_561.out
        go_wp2_with fail
        clear q57_0 q57_1 q57_2 q57_3 q58_0 q58_1
        refine (E1.out _).mono ?_
        rintro e Y59 ⟨rfl, b59⟩
        have Kx2_60 := Lib.hid ((b59.block _ (Array.getElem?_eq_some_iff.1 Kx2_561.out).1).trans Kx2_561.out)
        have Ks2_60 := Lib.hid ((b59.block _ (Array.getElem?_eq_some_iff.1 Ks2_561.out).1).trans Ks2_561.out)
        have T_60 := Lib.hid (T_56.out.trans (b59.mono T_56.out.size))
        clear b59 Kx2_561 Ks2_561 T_56
        obtain ⟨q62_0, q62_1, q62_2, q62_3⟩ := blk_cell4D Kx2_60.out
        obtain ⟨q63_0, q63_1⟩ := blk_cell2 Ks2_60.out
        go_upto_region 24 with fail
        clear q62_0 q62_1 q62_2 q62_3 q63_0 q63_1
        have Kx2_610 := Lib.hid (old_allocD (W := Y59) (o' := .cells #[.int .i64 nw.l, .int .i64 nw.c] 27) Kx2_60.out)
        have Ks2_610 := Lib.hid (old_allocD (W := Y59) (o' := .cells #[.int .i64 nw.l, .int .i64 nw.c] 27) Ks2_60.out)
        have Kn5_610 : Hid ((Y59.alloc (.cells #[.int .i64 nw.l, .int .i64 nw.c] 27)).heap[Y59.heap.size]? = some (.cells #[.int .i64 nw.l, .int .i64 nw.c] 27)) := Lib.hid (nalW (by first | rfl | (simp; done) | (simp; omega)))
        have T_61 := Lib.hid ((T_60.out).alloc T_60.out.size (.cells #[.int .i64 nw.l, .int .i64 nw.c] 27))
        clear Kx2_60 Ks2_60 T_60
        generalize hwz61 : (Y59.alloc (.cells #[.int .i64 nw.l, .int .i64 nw.c] 27)) = Z61 at *
        clear hwz61
        obtain ⟨q64_0, q64_1, q64_2, q64_3⟩ := blk_cell4D Kx2_610.out
        obtain ⟨q65_0, q65_1⟩ := blk_cell2 Ks2_610.out
        obtain ⟨q66_0, q66_1⟩ := blk_cell2 Kn5_610.out
        go_wp2_with fail
        clear q64_0 q64_1 q64_2 q64_3 q65_0 q65_1 q66_0 q66_1
        refine (E2.out _).mono ?_
        rintro e Y67 ⟨rfl, b67⟩
        have Kx2_68 := Lib.hid ((b67.block _ (Array.getElem?_eq_some_iff.1 Kx2_610.out).1).trans Kx2_610.out)
        have Ks2_68 := Lib.hid ((b67.block _ (Array.getElem?_eq_some_iff.1 Ks2_610.out).1).trans Ks2_610.out)
        have Kn5_68 := Lib.hid ((b67.block _ (Array.getElem?_eq_some_iff.1 Kn5_610.out).1).trans Kn5_610.out)
        have T_68 := Lib.hid (T_61.out.trans (b67.mono T_61.out.size))
        clear b67 Kx2_610 Ks2_610 Kn5_610 T_61
        obtain ⟨q70_0, q70_1, q70_2, q70_3⟩ := blk_cell4D Kx2_68.out
        obtain ⟨q71_0, q71_1⟩ := blk_cell2 Ks2_68.out
        obtain ⟨q72_0, q72_1⟩ := blk_cell2 Kn5_68.out
        go_upto_region 25 with fail
        clear q70_0 q70_1 q70_2 q70_3 q71_0 q71_1 q72_0 q72_1
        have Kx2_690 := Lib.hid (old_allocD (W := Y67) (o' := .cells #[.int .i64 nw.l, .int .i64 nw.c] 27) Kx2_68.out)
        have Ks2_690 := Lib.hid (old_allocD (W := Y67) (o' := .cells #[.int .i64 nw.l, .int .i64 nw.c] 27) Ks2_68.out)
        have Kn5_690 := Lib.hid (old_allocD (W := Y67) (o' := .cells #[.int .i64 nw.l, .int .i64 nw.c] 27) Kn5_68.out)
        have Kn6_690 : Hid ((Y67.alloc (.cells #[.int .i64 nw.l, .int .i64 nw.c] 27)).heap[Y67.heap.size]? = some (.cells #[.int .i64 nw.l, .int .i64 nw.c] 27)) := Lib.hid (nalW (by first | rfl | (simp; done) | (simp; omega)))
        have T_69 := Lib.hid ((T_68.out).alloc T_68.out.size (.cells #[.int .i64 nw.l, .int .i64 nw.c] 27))
        clear Kx2_68 Ks2_68 Kn5_68 T_68
        generalize hwz69 : (Y67.alloc (.cells #[.int .i64 nw.l, .int .i64 nw.c] 27)) = Z69 at *
        clear hwz69
        clear E1 E2
        have hnq := fun W => neqSame nw.l nw.c W
        have t0 : (no != no) = false := by simp
        have HCode73 := Lib.hid (HC.out.below T_69.out)
        obtain ⟨q74_0, q74_1, q74_2, q74_3⟩ := blk_cell4D Kx2_690.out
        obtain ⟨q75_0, q75_1⟩ := blk_cell2 Ks2_690.out
        obtain ⟨q76_0, q76_1⟩ := blk_cell2 Kn5_690.out
        obtain ⟨q77_0, q77_1⟩ := blk_cell2 Kn6_690.out
        go_wp2_with fail
        clear q74_0 q74_1 q74_2 q74_3 q75_0 q75_1 q76_0 q76_1 q77_0 q77_1
        refine (DrawEarliestFree_any a len cap _ HCode73.out).mono ?_
        rintro e X73 ⟨x3, s3, rfl, b73⟩
        clear HCode73
        unfold Wru.agg
        have Kx2_78 := Lib.hid ((b73.block _ (Array.getElem?_eq_some_iff.1 Kx2_690.out).1).trans Kx2_690.out)
        have Ks2_78 := Lib.hid ((b73.block _ (Array.getElem?_eq_some_iff.1 Ks2_690.out).1).trans Ks2_690.out)
        have Kn5_78 := Lib.hid ((b73.block _ (Array.getElem?_eq_some_iff.1 Kn5_690.out).1).trans Kn5_690.out)
        have Kn6_78 := Lib.hid ((b73.block _ (Array.getElem?_eq_some_iff.1 Kn6_690.out).1).trans Kn6_690.out)
        have T_78 := Lib.hid (T_69.out.trans (b73.mono T_69.out.size))
        clear b73 Kx2_690 Ks2_690 Kn5_690 Kn6_690 T_69
        clear hnq t0
        clear Kx2_78 Ks2_78 Kn5_78 Kn6_78
        go_upto_region 28 with fail
        have Kx3_790 : Hid ((X73.alloc (.cells #[.int .i64 x3.a, .int .i64 x3.b, .int .i64 x3.c, .int .i64 x3.d] 25)).heap[X73.heap.size]? = some (.cells #[.int .i64 x3.a, .int .i64 x3.b, .int .i64 x3.c, .int .i64 x3.d] 25)) := Lib.hid (nalW (by first | rfl | (simp; done) | (simp; omega)))
        have Kx3_791 := Lib.hid (old_allocD (W := (X73.alloc (.cells #[.int .i64 x3.a, .int .i64 x3.b, .int .i64 x3.c, .int .i64 x3.d] 25))) (o' := .cells #[.int .i64 s3.l, .int .i64 s3.c] 27) Kx3_790.out)
        have Ks3_791 : Hid (((X73.alloc (.cells #[.int .i64 x3.a, .int .i64 x3.b, .int .i64 x3.c, .int .i64 x3.d] 25)).alloc (.cells #[.int .i64 s3.l, .int .i64 s3.c] 27)).heap[X73.heap.size + 1]? = some (.cells #[.int .i64 s3.l, .int .i64 s3.c] 27)) := Lib.hid (nalW (by first | rfl | (simp; done) | (simp; omega)))
        have T_79 := Lib.hid (((T_78.out).alloc T_78.out.size (.cells #[.int .i64 x3.a, .int .i64 x3.b, .int .i64 x3.c, .int .i64 x3.d] 25)).alloc (by have := T_78.out.size; simp <;> omega) (.cells #[.int .i64 s3.l, .int .i64 s3.c] 27))
        clear Kx3_790 T_78
        generalize hwz79 : ((X73.alloc (.cells #[.int .i64 x3.a, .int .i64 x3.b, .int .i64 x3.c, .int .i64 x3.d] 25)).alloc (.cells #[.int .i64 s3.l, .int .i64 s3.c] 27)) = Z79 at *
        clear hwz79
        obtain ⟨q80_0, q80_1, q80_2, q80_3⟩ := blk_cell4D Kx3_791.out
        obtain ⟨q81_0, q81_1⟩ := blk_cell2 Ks3_791.out
        go_wp2_with fail
        clear q80_0 q80_1 q80_2 q80_3 q81_0 q81_1
        refine (implEarliestFree_c x3 s3 _).mono ?_
        rintro e Y82 ⟨rfl, b82⟩
        have Kx3_83 := Lib.hid ((b82.block _ (Array.getElem?_eq_some_iff.1 Kx3_791.out).1).trans Kx3_791.out)
        have Ks3_83 := Lib.hid ((b82.block _ (Array.getElem?_eq_some_iff.1 Ks3_791.out).1).trans Ks3_791.out)
        have T_83 := Lib.hid (T_79.out.trans (b82.mono T_79.out.size))
        clear b82 Kx3_791 Ks3_791 T_79
        obtain ⟨q84_0, q84_1, q84_2, q84_3⟩ := blk_cell4D Kx3_83.out
        obtain ⟨q85_0, q85_1⟩ := blk_cell2 Ks3_83.out
        go_wp2_with fail
        clear q84_0 q84_1 q84_2 q84_3 q85_0 q85_1
        refine (specEarliestFree_c x3 s3 _).mono ?_
        rintro e Y86 ⟨rfl, b86⟩
        have Kx3_87 := Lib.hid ((b86.block _ (Array.getElem?_eq_some_iff.1 Kx3_83.out).1).trans Kx3_83.out)
        have Ks3_87 := Lib.hid ((b86.block _ (Array.getElem?_eq_some_iff.1 Ks3_83.out).1).trans Ks3_83.out)
        have T_87 := Lib.hid (T_83.out.trans (b86.mono T_83.out.size))
        clear b86 Kx3_83 Ks3_83 T_83
        have HEF := Lib.hid (fun h => ef_law (r := x3) (s := s3) h)
        generalize efV x3 s3 = ev at *
        generalize wsV x3 s3 = wo at *
        have t0 : (wo != wo) = false := by simp
        have t00 : (ev != ev) = false := by simp
        cases wo with
        | false =>
          clear HEF
          obtain ⟨q88_0, q88_1, q88_2, q88_3⟩ := blk_cell4D Kx3_87.out
          obtain ⟨q89_0, q89_1⟩ := blk_cell2 Ks3_87.out
          go_wp2
          go_ret
          exact ⟨by simp, T_87.out⟩
        | true =>
          obtain ⟨n, rfl, hn20, h3, h4⟩ := HEF.out rfl
          obtain ⟨i0, hi, hz0, hz1, hz2⟩ := info_parts Try.infoIntR
          have ER := Lib.hid (fun v W hr => implRunWind_c x3 s3 v (List.replicate n 0) W hr (by rw [List.length_replicate]; omega))
          rw [h3, h4] at ER
          generalize rnL x3 s3 (List.replicate n 0) = lz at *
          generalize (rnS x3 s3 (List.replicate n 0)).c = ec at *
          clear h3 h4 HEF t0 t00
          obtain ⟨q90_0, q90_1, q90_2, q90_3⟩ := blk_cell4D Kx3_87.out
          obtain ⟨q91_0, q91_1⟩ := blk_cell2 Ks3_87.out
          go_upto_region 34 with (at_make; refine wpList_make_full _ rfl _ _ 28 rfl Y86.heap.size 3 i0 (.int .i64 0) 1 Try.underlying28 hi hz0 hz1 _ _ _ _ n rfl rfl rfl rfl (by rw [hz2]; omega) (by unfold maxLen; omega) (Nat.le_refl _) ?_; intro w0 hown0 hgrow0)
          clear q90_0 q90_1 q90_2 q90_3 q91_0 q91_1
          have bw0 : Below Y86.heap.size Y86 w0 := (Below.refl _ _).grown hgrow0 (Nat.le_refl _) (fun k h => by cases h)
          have RZ : Hid (Rd w0 (.slice (some ⟨Y86.heap.size, 0, none⟩) n n) (intVs (List.replicate n 0))) := Lib.hid (by
            have h := Rd.of_own hown0
            rw [Nat.mul_one] at h
            simpa [toList_madeCells_one, intVs, Value.cells] using h)
          clear hown0 hgrow0
          have Kx3_92 := Lib.hid ((bw0.block _ (Array.getElem?_eq_some_iff.1 Kx3_87.out).1).trans Kx3_87.out)
          have Ks3_92 := Lib.hid ((bw0.block _ (Array.getElem?_eq_some_iff.1 Ks3_87.out).1).trans Ks3_87.out)
          have T_92 := Lib.hid (T_87.out.trans (bw0.mono T_87.out.size))
          clear bw0 Kx3_87 Ks3_87 T_87
          obtain ⟨q93_0, q93_1, q93_2, q93_3⟩ := blk_cell4D Kx3_92.out
          obtain ⟨q94_0, q94_1⟩ := blk_cell2 Ks3_92.out
          go_wp2_with fail
          clear q93_0 q93_1 q93_2 q93_3 q94_0 q94_1
          refine (ER.out _ _ RZ.out).mono ?_
          rintro e Y95 ⟨vz, rfl, oz, b95⟩
          have Kx3_96 := Lib.hid ((b95.block _ (Array.getElem?_eq_some_iff.1 Kx3_92.out).1).trans Kx3_92.out)
          have Ks3_96 := Lib.hid ((b95.block _ (Array.getElem?_eq_some_iff.1 Ks3_92.out).1).trans Ks3_92.out)
          have T_96 := Lib.hid (T_92.out.trans (b95.mono T_92.out.size))
          clear b95 Kx3_92 Ks3_92 T_92
          obtain ⟨az, cz, rfl⟩ := (Rs.of_own oz).shape
          clear oz RZ ER
          obtain ⟨q98_0, q98_1, q98_2, q98_3⟩ := blk_cell4D Kx3_96.out
          obtain ⟨q99_0, q99_1⟩ := blk_cell2 Ks3_96.out
          go_upto_region 35 with fail
          clear q98_0 q98_1 q98_2 q98_3 q99_0 q99_1
          have Kx3_970 := Lib.hid (old_allocD (W := Y95) (o' := .cells #[.int .i64 0, .int .i64 ec] 27) Kx3_96.out)
          have Ks3_970 := Lib.hid (old_allocD (W := Y95) (o' := .cells #[.int .i64 0, .int .i64 ec] 27) Ks3_96.out)
          have Ke4_970 : Hid ((Y95.alloc (.cells #[.int .i64 0, .int .i64 ec] 27)).heap[Y95.heap.size]? = some (.cells #[.int .i64 0, .int .i64 ec] 27)) := Lib.hid (nalW (by first | rfl | (simp; done) | (simp; omega)))
          have T_97 := Lib.hid ((T_96.out).alloc T_96.out.size (.cells #[.int .i64 0, .int .i64 ec] 27))
          clear Kx3_96 Ks3_96 T_96
          generalize hwz97 : (Y95.alloc (.cells #[.int .i64 0, .int .i64 ec] 27)) = Z97 at *
          clear hwz97
          obtain ⟨q100_0, q100_1, q100_2, q100_3⟩ := blk_cell4D Kx3_970.out
          obtain ⟨q101_0, q101_1⟩ := blk_cell2 Ks3_970.out
          obtain ⟨q102_0, q102_1⟩ := blk_cell2 Ke4_970.out
          go_wp2
          go_ret
          exact ⟨by simp, T_97.out⟩
end Go.Proofs.Ytoamhbobcpljpaa
