/- The law FnBoarding's walk. Condition: sizes; no other. -/
import Derived.Test.YtinlcbljpclccaaDrawPls
import Derived.Test.YtinlcbljpclccaaBpC
import Derived.Test.YtinlcbljpclccaaBoH
import Derived.Test.YtinlcbljpclccaaBpD
import Derived.Test.YtinlcbljpclccaaBpE
import Derived.Test.YtinlcbljpclccaaRTxt
import Derived.Test.YtinlcbljpclccaaBoHelp
import Derived.Test.YtinlcbljpclccaaLawK
import Derived.Deep.RegionHeld3
import Derived.Deep.CutRange
import Derived.Deep.CutBlock
import Derived.Deep.DeepCutAuto
import Derived.WalkArith
namespace Go.Proofs.Ytinlcbljpclccaa
open Go.RowKit
set_option linter.unusedVariables false
/-- Two platforms compared: equal. -/
theorem neqPlt (x : Plt) (w : World) : (binOp .neq 25 (.agg #[.int .i64 x.d, .int .i64 x.s, .int .i64 x.i, .int .i64 x.w, .bool x.l, .int .i64 x.g]) (.agg #[.int .i64 x.d, .int .i64 x.s, .int .i64 x.i, .int .i64 x.w, .bool x.l, .int .i64 x.g])).run Try.prog w = .ok (.bool false) w := by
  have hS : Try.prog.underlying 25 = some (.struct (Try.prog.fieldsOf 25)) := by kernel_rfl
  have hp : Try.prog.stoodInHeld 25 = false := by kernel_rfl
  have u3 := Try.underlying3
  have a3 := Try.isAgg3
  have z3 := Try.sizeOf3
  have u4 := Try.underlying4
  have a4 := Try.isAgg4
  have z4 := Try.sizeOf4
  rw [run_neq_struct, show (10000 : Nat) = 9999 + 1 from rfl, run_equalIn_agg w 9999 _ _ _ hS hp]
  simp only [Program.fieldsOf, Try.underlying25]
  cases x.l <;> go_simp
theorem bo_law {p : Plt} {l : List Bev} (h : rpOk p l = true) : plV (rpP p l) = true ∧ rpN p l ≤ l.length ∧ (rpN p l < l.length → spOk (rpP p l) (gth l (rpN p l)) = false) := by
  have h1 : plV p = true ∧ l.length ≤ 20 := by simpa [rpOk] using h
  refine ⟨?_, ?_, ?_⟩
  · rw [rpP, if_pos h]; exact run_ok l p h1.1
  · rw [rpN, if_pos h]; exact run_le l p
  · rw [rpN, if_pos h, rpP, if_pos h]
    intro hn
    have := run_stop l p hn
    simp [spOk, this]
theorem bo_first {p : Plt} {l : List Bev} (h : rpOk p l = true) (h0 : 0 < rpN p l) : 0 < l.length ∧ spOk p (gth l 0) = true ∧ rpOk (spR p (gth l 0)) (l.drop 1) = true ∧ rpN (spR p (gth l 0)) (l.drop 1) = rpN p l - 1 ∧ rpP (spR p (gth l 0)) (l.drop 1) = rpP p l := by
  have h1 : plV p = true ∧ l.length ≤ 20 := by simpa [rpOk] using h
  have hN : rpN p l = (runP p l).2 := by rw [rpN, if_pos h]
  have hP : rpP p l = (runP p l).1 := by rw [rpP, if_pos h]
  rw [hN] at h0
  obtain ⟨e, r, rfl, hs, a1, a2⟩ := run_first h0
  have hg : gth (e :: r) 0 = e := rfl
  have hsp : spOk p e = true := by simp [spOk, h1.1, hs]
  have hR : spR p e = stP p (kd e.k) e.c := by rw [spR, if_pos hsp]
  have hv : plV (stP p (kd e.k) e.c) = true := st_keeps h1.1 hs
  have hok : rpOk (stP p (kd e.k) e.c) r = true := by
    have : (e :: r).length ≤ 20 := h1.2
    simp at this
    simp [rpOk, hv]; omega
  rw [hg, hR]
  refine ⟨by simp, hsp, hok, ?_, ?_⟩
  · show rpN _ r = _
    rw [hN, a1, rpN, if_pos hok]; omega
  · show rpP _ r = _
    rw [hP, a2, rpP, if_pos hok]
theorem bo_kind {x : Plt} {e : Bev} (h : spOk x e = true) : e.k ∈ pkL x := by
  have h1 : plV x = true ∧ stOk x e = true := by simpa [spOk] using h
  exact pk_has h1.1 h1.2
theorem bevs_tail {w : World} {a oa n ca : Nat} {l : List Bev} (h : Rs w (.slice (some ⟨a, oa, none⟩) n ca) n (bevs l)) (hn : n = l.length) (h0 : 0 < n) (c : Nat) (hc : n - 1 ≤ c) : Rs w (.slice (some ⟨a, oa + 2, none⟩) (n - 1) c) (l.drop 1).length (bevs (l.drop 1)) := by
  have e : (l.drop 1).length = n - 1 := by simp [hn]
  rw [e]
  by_cases h1 : n - 1 = 0
  · rw [h1]; exact .inl ⟨rfl, _, _, rfl⟩
  · obtain ⟨b, off, c9, hv, hb, hcc, hm, hx⟩ := h.pos (by omega)
    simp only [Value.slice.injEq, Option.some.injEq, Addr.mk.injEq, and_true, true_and] at hv
    obtain ⟨⟨rfl, rfl⟩, _⟩ := hv
    refine .inr ⟨a, oa + 2, c, rfl, hb, ⟨hc, by omega⟩, fun i u hi => ?_⟩
    have hi' : (bevs l)[2 + i]? = some u := by
      cases l with
      | nil => simp at hn; omega
      | cons y r =>
        have e2 : bevs (y :: r) = [.string y.k, .int .i64 y.c] ++ bevs r := by simp [flat, Bev.enc]
        rw [e2, List.getElem?_append_right (by simp)]
        simpa using hi
    have := hx _ _ hi'
    rwa [show oa + (2 + i) = oa + 2 + i by omega] at this
theorem bevs_tailC {w : World} {a oa n ca : Nat} {l : List Bev} (h : Rs w (.slice (some ⟨a, oa, none⟩) n ca) n (bevs l)) (hn : n = l.length) (h0 : 0 < n) (hc : n ≤ ca) : Rs w (.slice (if ca = 1 then some ⟨a, oa, none⟩ else some ⟨a, oa + 2, none⟩) (n - 1) (ca - 1)) (l.drop 1).length (bevs (l.drop 1)) := by
  by_cases e : ca = 1
  · rw [if_pos e]
    have e2 : (l.drop 1).length = 0 := by simp; omega
    have e3 : n - 1 = 0 := by omega
    rw [e2, e3]; exact .inl ⟨rfl, _, _, rfl⟩
  · rw [if_neg e]; exact bevs_tail h hn h0 _ (by omega)
theorem Rs.cap_leB {w : World} {ao : Option Addr} {n cap : Nat} {xs : List Value} (h : Rs w (.slice ao n cap) n xs) (h0 : n ≠ 0) : n ≤ cap := by
  obtain ⟨b, off, c, hv, _, hc, _⟩ := h.pos h0
  simp only [Value.slice.injEq] at hv
  omega
theorem bevs_tail0 {w : World} {ao : Option Addr} {l : List Bev} (h : l.length = 1) (n c : Nat) (hn : n = 0) : Rs w (.slice ao n c) (l.drop 1).length (bevs (l.drop 1)) := by
  subst hn
  have e : (l.drop 1).length = 0 := by simp [h]
  rw [e]; exact .inl ⟨rfl, _, _, rfl⟩
set_option maxRecDepth 100000 in
set_option maxHeartbeats 8000000 in
theorem FnBoarding_walk (a : Option Addr) (len cap : Nat) (w : World) (h : ByteRow w a len) :
    Calls Try.prog 3 #[.slice a len cap] w fun e w' => e = .returned (.bool true) ∧ Below w.heap.size w w' := by
  have hm := h.1
  have HC := Lib.hid h
  clear h
  by_cases hbig : 65536 < len
  · go_enter Try.func3, Try.ntmps3
    go_wp2_with fail
    refine (rBig_yes a len cap _ hbig hm).mono ?_
    rintro e w' ⟨rfl, rfl⟩
    go_wp2_with fail
    go_ret
    exact ⟨rfl, Below.refl _ _⟩
  · go_enter Try.func3, Try.ntmps3
    go_wp2_with fail
    refine (rBig_no a len cap _ (by omega)).mono ?_
    rintro e W0 ⟨rfl, hw0⟩
    have t0 : Below w.heap.size w W0 := by rw [← hw0]; exact Below.refl _ _
    clear hw0
    go_wp2_with fail
    refine (DrawRunPlatform_any a len cap _ (HC.out.below t0)).mono ?_
    rintro e W1 ⟨x, ve, l, rfl, hre, hle, b1⟩
    have t2 := t0.trans (b1.mono t0.size)
    clear t0
    clear b1
    obtain ⟨ae, ce, hve⟩ := hre.shape
    subst hve
    have re := Lib.hid hre
    clear hre
    have re := Lib.hid (re.out.below ((Below.refl _ _).alloc (Nat.le_refl _) (.cells #[.int .i64 x.d, .int .i64 x.s, .int .i64 x.i, .int .i64 x.w, .bool x.l, .int .i64 x.g] 25)) rfl)
    have Kp := Lib.hid (heap_alloc_new W1 (.cells #[.int .i64 x.d, .int .i64 x.s, .int .i64 x.i, .int .i64 x.w, .bool x.l, .int .i64 x.g] 25))
    have t4 := t2.alloc t2.size (.cells #[.int .i64 x.d, .int .i64 x.s, .int .i64 x.i, .int .i64 x.w, .bool x.l, .int .i64 x.g] 25)
    clear t2
    go_upto_region 4 with fail
    generalize W1.alloc (.cells #[.int .i64 x.d, .int .i64 x.s, .int .i64 x.i, .int .i64 x.w, .bool x.l, .int .i64 x.g] 25) = V3 at *
    obtain ⟨Pp, hPp⟩ : ∃ P, P = W1.heap.size := ⟨_, rfl⟩
    rw [← hPp] at Kp ⊢
    clear hPp
    have HL1 := Lib.hid (@bo_law x l)
    have HL2 := Lib.hid (@bo_first x l)
    have ER := Lib.hid (fun W h => implRunPlatform_c x (.slice ae l.length ce) l W h (by unfold maxLen; omega))
    have ES := Lib.hid (fun W h => specRunPlatform_c x (.slice ae l.length ce) l W h (by unfold maxLen; omega))
    generalize rpP x l = R at *
    generalize rpN x l = N at *
    generalize rpOk x l = ok at *
    obtain ⟨yp_0, yp_1, yp_2, yp_3, yp_4, yp_5⟩ := blk_cell6 Kp.out
    have hlp := blk_lt Kp.out
    go_wp2_with fail
    refine (ER.out _ re.out).mono ?_
    rintro e W5 ⟨rfl, b5⟩
    clear yp_0 yp_1 yp_2 yp_3 yp_4 yp_5 hlp
    have Kp := Lib.hid (blk_kept Kp.out b5)
    have re := Lib.hid (re.out.below b5 rfl)
    have t6 := t4.trans (b5.mono t4.size)
    clear t4
    clear b5
    have Kp := Lib.hid (blk_stay (o' := (.cells #[.int .i64 R.d, .int .i64 R.s, .int .i64 R.i, .int .i64 R.w, .bool R.l, .int .i64 R.g] 25)) Kp.out)
    have re := Lib.hid (re.out.below ((Below.refl _ _).alloc (Nat.le_refl _) (.cells #[.int .i64 R.d, .int .i64 R.s, .int .i64 R.i, .int .i64 R.w, .bool R.l, .int .i64 R.g] 25)) rfl)
    have Ko := Lib.hid (heap_alloc_new W5 (.cells #[.int .i64 R.d, .int .i64 R.s, .int .i64 R.i, .int .i64 R.w, .bool R.l, .int .i64 R.g] 25))
    have t8 := t6.alloc t6.size (.cells #[.int .i64 R.d, .int .i64 R.s, .int .i64 R.i, .int .i64 R.w, .bool R.l, .int .i64 R.g] 25)
    clear t6
    go_upto_region 5 with fail
    generalize W5.alloc (.cells #[.int .i64 R.d, .int .i64 R.s, .int .i64 R.i, .int .i64 R.w, .bool R.l, .int .i64 R.g] 25) = V7 at *
    obtain ⟨Po, hPo⟩ : ∃ P, P = W5.heap.size := ⟨_, rfl⟩
    rw [← hPo] at Ko ⊢
    clear hPo
    obtain ⟨yp_0, yp_1, yp_2, yp_3, yp_4, yp_5⟩ := blk_cell6 Kp.out
    have hlp := blk_lt Kp.out
    go_wp2_with fail
    refine (ES.out _ re.out).mono ?_
    rintro e W9 ⟨rfl, b9⟩
    clear yp_0 yp_1 yp_2 yp_3 yp_4 yp_5 hlp
    have Kp := Lib.hid (blk_kept Kp.out b9)
    have Ko := Lib.hid (blk_kept Ko.out b9)
    have re := Lib.hid (re.out.below b9 rfl)
    have t10 := t8.trans (b9.mono t8.size)
    clear t8
    clear b9
    have Kp := Lib.hid (blk_stay (o' := (.cells #[.int .i64 R.d, .int .i64 R.s, .int .i64 R.i, .int .i64 R.w, .bool R.l, .int .i64 R.g] 25)) Kp.out)
    have Ko := Lib.hid (blk_stay (o' := (.cells #[.int .i64 R.d, .int .i64 R.s, .int .i64 R.i, .int .i64 R.w, .bool R.l, .int .i64 R.g] 25)) Ko.out)
    have re := Lib.hid (re.out.below ((Below.refl _ _).alloc (Nat.le_refl _) (.cells #[.int .i64 R.d, .int .i64 R.s, .int .i64 R.i, .int .i64 R.w, .bool R.l, .int .i64 R.g] 25)) rfl)
    have Ku := Lib.hid (heap_alloc_new W9 (.cells #[.int .i64 R.d, .int .i64 R.s, .int .i64 R.i, .int .i64 R.w, .bool R.l, .int .i64 R.g] 25))
    have t12 := t10.alloc t10.size (.cells #[.int .i64 R.d, .int .i64 R.s, .int .i64 R.i, .int .i64 R.w, .bool R.l, .int .i64 R.g] 25)
    clear t10
    go_upto_region 6 with fail
    generalize W9.alloc (.cells #[.int .i64 R.d, .int .i64 R.s, .int .i64 R.i, .int .i64 R.w, .bool R.l, .int .i64 R.g] 25) = V11 at *
    obtain ⟨Pu, hPu⟩ : ∃ P, P = W9.heap.size := ⟨_, rfl⟩
    rw [← hPu] at Ku ⊢
    clear hPu
    have hnq := fun W => neqPlt R W
    have g0 : ((N : Int) != (N : Int)) = false := by simp
    have g1 : (ok != ok) = false := by simp
    clear ER ES
    obtain ⟨yo_0, yo_1, yo_2, yo_3, yo_4, yo_5⟩ := blk_cell6 Ko.out
    have hlo := blk_lt Ko.out
    obtain ⟨yu_0, yu_1, yu_2, yu_3, yu_4, yu_5⟩ := blk_cell6 Ku.out
    have hlu := blk_lt Ku.out
    go_upto_if 70 with fail
    clear yo_0 yo_1 yo_2 yo_3 yo_4 yo_5 hlo
    clear yu_0 yu_1 yu_2 yu_3 yu_4 yu_5 hlu
    clear g0 g1 hnq
    clear Ku
    go_cut [] from 3 (fun wx => Hid (Below w.heap.size w wx))
    case first =>
      as_aux_lemma =>
      cases ok with
      | false =>
        go_wp2
        go_meet
        case rel => exact Lib.hid t12
      | true =>
        obtain ⟨hvR, hNl, hst⟩ := HL1.out rfl
        have HF := Lib.hid (fun h => HL2.out rfl h)
        have HST := Lib.hid hst
        clear HL1 HL2 hst
        have EP := Lib.hid (fun W => by have h := implIsPlatform_c R W; rw [hvR] at h; exact h)
        clear hvR
        obtain ⟨yo_0, yo_1, yo_2, yo_3, yo_4, yo_5⟩ := blk_cell6 Ko.out
        have hlo := blk_lt Ko.out
        go_wp2_with fail
        refine (EP.out _).mono ?_
        rintro e W13 ⟨rfl, b13⟩
        clear yo_0 yo_1 yo_2 yo_3 yo_4 yo_5 hlo
        have Kp := Lib.hid (blk_kept Kp.out b13)
        have Ko := Lib.hid (blk_kept Ko.out b13)
        have re := Lib.hid (re.out.below b13 rfl)
        have t14 := t12.trans (b13.mono t12.size)
        clear t12
        clear b13
        clear EP
        go_upto_region 11 with fail
        go_cut [77] from 36 to 76 (fun s77 wx => ∃ bN : Bool, s77 = .bool bN ∧ Hid (bN = true ↔ N < l.length) ∧ Hid (Below W13.heap.size W13 wx))
        case first =>
          go_wp2_with fail
          go_meet
          case rel => exact ⟨_, rfl, Lib.hid (by simp), Lib.hid (Below.refl _ _)⟩
        case rest =>
          obtain ⟨bN, rfl, HBN, hcut⟩ := hcut
          obtain ⟨Y15, hY⟩ := named12 hcut
          subst hY
          have b15 := hcut.out
          clear hcut
          have Kp := Lib.hid (blk_kept Kp.out b15)
          have Ko := Lib.hid (blk_kept Ko.out b15)
          have re := Lib.hid (re.out.below b15 rfl)
          have t16 := t14.trans (b15.mono t14.size)
          clear t14
          clear b15
          go_upto_if 77 with fail
          go_cut [11, 12] from 78 to 87 (fun s11 s12 wx => Hid (Below Y15.heap.size Y15 wx))
          case first =>
            as_aux_lemma =>
            cases bN with
            | false =>
              go_wp2_with fail
              go_meet
              case rel => exact Lib.hid (Below.refl _ _)
            | true =>
              have hN := HBN.out.1 rfl
              have hNi : (N : Int) < (l.length : Int) := by omega
              have hN0 : (0 : Int) ≤ (N : Int) := by omega
              obtain ⟨ao, ab, aof, ac, hv, hao, hat⟩ := re.out.form_Bev
              obtain ⟨hao1, hla, hlm⟩ := hao (by omega)
              subst hao1
              simp only [Value.slice.injEq] at hv
              obtain ⟨rfl, _, rfl⟩ := hv
              obtain ⟨d0, d1⟩ := hat N hN
              have hstp := HST.out hN
              have E1 := Lib.hid (fun W => by have h := implStepPlatform_c R (gth l N) W; rw [hstp] at h; exact h)
              clear hat hao hstp HF HST HC HBN
              generalize spR R (gth l N) = SR at *
              generalize gth l N = D at *
              obtain ⟨dk, dc⟩ := D
              try dsimp only at d0 d1
              obtain ⟨yo_0, yo_1, yo_2, yo_3, yo_4, yo_5⟩ := blk_cell6 Ko.out
              have hlo := blk_lt Ko.out
              go_wp2_with fail
              have HC : True := trivial
              have HKS : Hid (∀ W, Below Y15.heap.size Y15 W → Below Y15.heap.size Y15 W ∧ W.cell? ⟨Po, 0, none⟩ = some (.int .i64 R.d) ∧ W.cell? ⟨Po, 1, none⟩ = some (.int .i64 R.s) ∧ W.cell? ⟨Po, 2, none⟩ = some (.int .i64 R.i) ∧ W.cell? ⟨Po, 3, none⟩ = some (.int .i64 R.w) ∧ W.cell? ⟨Po, 4, none⟩ = some (.bool R.l) ∧ W.cell? ⟨Po, 5, none⟩ = some (.int .i64 R.g) ∧ W.cell? ⟨ab, aof + N * 2, none⟩ = some (.string dk) ∧ W.cell? ⟨ab, aof + N * 2 + 1, none⟩ = some (.int .i64 dc)) := Lib.hid (fun W h => ⟨h, (h.cell (p := ⟨Po, 0, none⟩) hlo).trans yo_0, (h.cell (p := ⟨Po, 1, none⟩) hlo).trans yo_1, (h.cell (p := ⟨Po, 2, none⟩) hlo).trans yo_2, (h.cell (p := ⟨Po, 3, none⟩) hlo).trans yo_3, (h.cell (p := ⟨Po, 4, none⟩) hlo).trans yo_4, (h.cell (p := ⟨Po, 5, none⟩) hlo).trans yo_5, (h.cell (p := ⟨ab, aof + N * 2, none⟩) hla).trans d0, (h.cell (p := ⟨ab, aof + N * 2 + 1, none⟩) hla).trans d1⟩)
              go_cut [11, 12] from 78 to 86 (fun s11 s12 wx => ∃ P : Nat, s11 = .pointer (some ⟨P, 0, none⟩) ∧ s12 = .bool false ∧ Hid (Below Y15.heap.size Y15 wx) ∧ Hid (Y15.heap.size ≤ P ∧ wx.heap[P]? = some (.cells #[.int .i64 SR.d, .int .i64 SR.s, .int .i64 SR.i, .int .i64 SR.w, .bool SR.l, .int .i64 SR.g] 25 (0, 0))))
              case first =>
                as_aux_lemma =>
                clear HC Kp Ko re t16
                go_region_held3 (fun w' => Below Y15.heap.size Y15 w' ∧ w'.cell? ⟨Po, 0, none⟩ = some (.int .i64 R.d) ∧ w'.cell? ⟨Po, 1, none⟩ = some (.int .i64 R.s) ∧ w'.cell? ⟨Po, 2, none⟩ = some (.int .i64 R.i) ∧ w'.cell? ⟨Po, 3, none⟩ = some (.int .i64 R.w) ∧ w'.cell? ⟨Po, 4, none⟩ = some (.bool R.l) ∧ w'.cell? ⟨Po, 5, none⟩ = some (.int .i64 R.g) ∧ w'.cell? ⟨ab, aof + N * 2, none⟩ = some (.string dk) ∧ w'.cell? ⟨ab, aof + N * 2 + 1, none⟩ = some (.int .i64 dc)) (exact HKS.out _ (by (repeat (with_reducible (first | exact B9 | refine below_al ?_ _ | refine below_all6 ?_ (by first | exact Nat.le_refl _ | exact B9.size | fail) _ _ _ _ _ _ | refine Below.drew ?_ | refine below_drewN ?_ _ | exact Below.refl _ _))); first | done | fail))
                  (first
                    | (go_at_call 17; refine (E1.out _).mono ?_; rintro e9 W9 ⟨rfl, b9⟩; have B9 : Below Y15.heap.size Y15 W9 := bel_then (by (repeat (with_reducible (first | refine below_al ?_ _ | refine Below.drew ?_ | refine below_drewN ?_ _ | exact Below.refl _ _))); first | done | fail) b9; first | (have KB : W9.heap[Y15.heap.size]? = some (.cells #[.int .i64 0, .int .i64 0, .int .i64 0, .int .i64 0, .bool false, .int .i64 0] 25 (0, 0)) := (by (repeat (first | (with_reducible refine new_at _ _ _ ?_; first | rfl | (simp; done) | fail) | with_reducible refine blk_drew ?_ | with_reducible refine blk_stay ?_ | with_reducible refine blk_kept ?_ b9)); first | done | fail); obtain ⟨p0, p1, p2, p3, p4, p5⟩ := blk_cell6 KB; obtain ⟨m0, m1, m2, m3, m4, m5⟩ := blk_froz6 KB; have hltB := blk_lt KB) | skip)
                    | fail)
                all_goals (try go_wp2_with fail)
                all_goals go_meet
                all_goals (case rel => have Z9 := B9.size; exact ⟨_, rfl, rfl, Lib.hid (by (repeat (with_reducible (first | exact B9 | refine below_al ?_ _ | refine below_all6 ?_ (by first | exact Nat.le_refl _ | exact B9.size | fail) _ _ _ _ _ _ | refine Below.drew ?_ | refine below_drewN ?_ _ | exact Below.refl _ _))); first | done | fail), Lib.hid ⟨(by first | exact Nat.le_refl _ | omega), (by with_reducible (first | exact blk_new6 _ _ _ _ _ _ _ _ | exact blk_all6 KB | fail))⟩⟩)
              case rest =>
                obtain ⟨Pz, rfl, rfl, hcut, HN5⟩ := hcut
                obtain ⟨Y17, hY⟩ := named12 hcut
                subst hY
                have b17 := hcut.out
                have Kz := Lib.hid HN5.out.2
                have bz := Lib.hid hcut.out
                clear HN5 hcut HKS
                have Kp := Lib.hid (blk_kept Kp.out b17)
                have Ko := Lib.hid (blk_kept Ko.out b17)
                have re := Lib.hid (re.out.below b17 rfl)
                have t18 := t16.trans (b17.mono t16.size)
                clear t16
                clear b17
                go_wp2_with fail
                go_meet
                case rel => exact Lib.hid bz.out
          case rest =>
            obtain ⟨Y39, hY⟩ := named12 hcut
            subst hY
            have b39 := hcut.out
            clear hcut HST HBN
            have Kp := Lib.hid (blk_kept Kp.out b39)
            have Ko := Lib.hid (blk_kept Ko.out b39)
            have re := Lib.hid (re.out.below b39 rfl)
            have t40 := t16.trans (b39.mono t16.size)
            clear t16
            clear b39
            go_upto_region 15 with fail
            by_cases h0 : 0 < N
            · skip
              have h0i : (0 : Int) < (N : Int) := by omega
              obtain ⟨hl0, hs1, hr1, hr2, hr3⟩ := HF.out h0
              have hl0i : (0 : Int) < (l.length : Int) := by omega
              have hl1i : (1 : Int) ≤ (l.length : Int) := by omega
              obtain ⟨ao, ab, aof, ac, hv, hao, hat⟩ := re.out.form_Bev
              obtain ⟨hao1, hla, hlm⟩ := hao (by omega)
              subst hao1
              simp only [Value.slice.injEq] at hv
              obtain ⟨rfl, _, rfl⟩ := hv
              obtain ⟨d0, d1⟩ := hat.zero hl0
              have E1 := Lib.hid (fun W => by have h := implStepPlatform_c x (gth l 0) W; rw [hs1] at h; exact h)
              have E2 := Lib.hid (fun v W h => by have h2 := implRunPlatform_c (spR x (gth l 0)) v (l.drop 1) W h (by unfold maxLen; simp; omega); rw [hr1, hr2, hr3] at h2; exact h2)
              clear hat hao hs1 hr1 hr2 hr3 HF
              generalize spR x (gth l 0) = FR at *
              generalize gth l 0 = D at *
              obtain ⟨dk, dc⟩ := D
              try dsimp only at d0 d1
              have hn1 : IntKind.i64.wrap ((N : Int) - 1) = ((N - 1 : Nat) : Int) := by rw [show (N : Int) - 1 = ((N - 1 : Nat) : Int) by omega]; exact IntWalk.i64_in _ (by omega)
              obtain ⟨yp_0, yp_1, yp_2, yp_3, yp_4, yp_5⟩ := blk_cell6 Kp.out
              have hlp := blk_lt Kp.out
              go_wp2_with fail
              have HKS : Hid (∀ W, Below Y39.heap.size Y39 W → Below Y39.heap.size Y39 W ∧ W.cell? ⟨Pp, 0, none⟩ = some (.int .i64 x.d) ∧ W.cell? ⟨Pp, 1, none⟩ = some (.int .i64 x.s) ∧ W.cell? ⟨Pp, 2, none⟩ = some (.int .i64 x.i) ∧ W.cell? ⟨Pp, 3, none⟩ = some (.int .i64 x.w) ∧ W.cell? ⟨Pp, 4, none⟩ = some (.bool x.l) ∧ W.cell? ⟨Pp, 5, none⟩ = some (.int .i64 x.g) ∧ W.cell? ⟨ab, aof, none⟩ = some (.string dk) ∧ W.cell? ⟨ab, aof + 1, none⟩ = some (.int .i64 dc)) := Lib.hid (fun W h => ⟨h, (h.cell (p := ⟨Pp, 0, none⟩) hlp).trans yp_0, (h.cell (p := ⟨Pp, 1, none⟩) hlp).trans yp_1, (h.cell (p := ⟨Pp, 2, none⟩) hlp).trans yp_2, (h.cell (p := ⟨Pp, 3, none⟩) hlp).trans yp_3, (h.cell (p := ⟨Pp, 4, none⟩) hlp).trans yp_4, (h.cell (p := ⟨Pp, 5, none⟩) hlp).trans yp_5, (h.cell (p := ⟨ab, aof, none⟩) hla).trans d0, (h.cell (p := ⟨ab, aof + 1, none⟩) hla).trans d1⟩)
              go_cut [13, 14] from 90 to 97 (fun s13 s14 wx => ∃ P : Nat, s13 = .pointer (some ⟨P, 0, none⟩) ∧ s14 = .bool true ∧ Hid (Below Y39.heap.size Y39 wx) ∧ Hid (Y39.heap.size ≤ P ∧ wx.heap[P]? = some (.cells #[.int .i64 FR.d, .int .i64 FR.s, .int .i64 FR.i, .int .i64 FR.w, .bool FR.l, .int .i64 FR.g] 25 (0, 0))))
              case first =>
                as_aux_lemma =>
                clear HC Kp Ko re t40
                go_region_held3 (fun w' => Below Y39.heap.size Y39 w' ∧ w'.cell? ⟨Pp, 0, none⟩ = some (.int .i64 x.d) ∧ w'.cell? ⟨Pp, 1, none⟩ = some (.int .i64 x.s) ∧ w'.cell? ⟨Pp, 2, none⟩ = some (.int .i64 x.i) ∧ w'.cell? ⟨Pp, 3, none⟩ = some (.int .i64 x.w) ∧ w'.cell? ⟨Pp, 4, none⟩ = some (.bool x.l) ∧ w'.cell? ⟨Pp, 5, none⟩ = some (.int .i64 x.g) ∧ w'.cell? ⟨ab, aof, none⟩ = some (.string dk) ∧ w'.cell? ⟨ab, aof + 1, none⟩ = some (.int .i64 dc)) (exact HKS.out _ (by (repeat (with_reducible (first | exact B9 | refine below_al ?_ _ | refine below_all6 ?_ (by first | exact Nat.le_refl _ | exact B9.size | fail) _ _ _ _ _ _ | refine Below.drew ?_ | refine below_drewN ?_ _ | exact Below.refl _ _))); first | done | fail))
                  (first
                    | (go_at_call 17; refine (E1.out _).mono ?_; rintro e9 W9 ⟨rfl, b9⟩; have B9 : Below Y39.heap.size Y39 W9 := bel_then (by (repeat (with_reducible (first | refine below_al ?_ _ | refine Below.drew ?_ | refine below_drewN ?_ _ | exact Below.refl _ _))); first | done | fail) b9; first | (have KB : W9.heap[Y39.heap.size]? = some (.cells #[.int .i64 0, .int .i64 0, .int .i64 0, .int .i64 0, .bool false, .int .i64 0] 25 (0, 0)) := (by (repeat (first | (with_reducible refine new_at _ _ _ ?_; first | rfl | (simp; done) | fail) | with_reducible refine blk_drew ?_ | with_reducible refine blk_stay ?_ | with_reducible refine blk_kept ?_ b9)); first | done | fail); obtain ⟨p0, p1, p2, p3, p4, p5⟩ := blk_cell6 KB; obtain ⟨m0, m1, m2, m3, m4, m5⟩ := blk_froz6 KB; have hltB := blk_lt KB) | skip)
                    | fail)
                all_goals (try go_wp2_with fail)
                all_goals go_meet
                all_goals (case rel => have Z9 := B9.size; exact ⟨_, rfl, rfl, Lib.hid (by (repeat (with_reducible (first | exact B9 | refine below_al ?_ _ | refine below_all6 ?_ (by first | exact Nat.le_refl _ | exact B9.size | fail) _ _ _ _ _ _ | refine Below.drew ?_ | refine below_drewN ?_ _ | exact Below.refl _ _))); first | done | fail), Lib.hid ⟨(by first | exact Nat.le_refl _ | omega), (by with_reducible (first | exact blk_new6 _ _ _ _ _ _ _ _ | exact blk_all6 KB | fail))⟩⟩)
              case rest =>
                obtain ⟨Pv, rfl, rfl, hcut, HN5⟩ := hcut
                obtain ⟨Y41, hY⟩ := named12 hcut
                subst hY
                have b41 := hcut.out
                have Kv := Lib.hid HN5.out.2
                clear HN5 hcut HKS
                have Kp := Lib.hid (blk_kept Kp.out b41)
                have Ko := Lib.hid (blk_kept Ko.out b41)
                have re := Lib.hid (re.out.below b41 rfl)
                have t42 := t40.trans (b41.mono t40.size)
                clear t40
                clear b41
                clear E1 d0 d1
                clear yp_0 yp_1 yp_2 yp_3 yp_4 yp_5 hlp
                have hcap := re.out.cap_leB (by omega)
                have hcapi : (1 : Int) ≤ (ce : Int) := by omega
                obtain ⟨yv_0, yv_1, yv_2, yv_3, yv_4, yv_5⟩ := blk_cell6 Kv.out
                have hlv := blk_lt Kv.out
                have hlen1 : IntKind.i64.wrap ((l.length : Int) - 1) = ((l.length - 1 : Nat) : Int) := by rw [show (l.length : Int) - 1 = ((l.length - 1 : Nat) : Int) by omega]; exact IntWalk.i64_in _ (by omega)
                have RT := Lib.hid (fun W (h : Below Y41.heap.size Y41 W) => (bevs_tailC re.out rfl hl0 hcap).below h rfl)
                rcases Nat.lt_or_ge 1 ce with hce | hce
                · have hce1 : ¬ ce = 1 := by omega
                  rw [if_neg hce1] at RT
                  go_wp2_with fail
                  have HKS : Hid (∀ W, Below Y41.heap.size Y41 W → Below Y41.heap.size Y41 W ∧ W.cell? ⟨Pv, 0, none⟩ = some (.int .i64 FR.d) ∧ W.cell? ⟨Pv, 1, none⟩ = some (.int .i64 FR.s) ∧ W.cell? ⟨Pv, 2, none⟩ = some (.int .i64 FR.i) ∧ W.cell? ⟨Pv, 3, none⟩ = some (.int .i64 FR.w) ∧ W.cell? ⟨Pv, 4, none⟩ = some (.bool FR.l) ∧ W.cell? ⟨Pv, 5, none⟩ = some (.int .i64 FR.g)) := Lib.hid (fun W h => ⟨h, (h.cell (p := ⟨Pv, 0, none⟩) hlv).trans yv_0, (h.cell (p := ⟨Pv, 1, none⟩) hlv).trans yv_1, (h.cell (p := ⟨Pv, 2, none⟩) hlv).trans yv_2, (h.cell (p := ⟨Pv, 3, none⟩) hlv).trans yv_3, (h.cell (p := ⟨Pv, 4, none⟩) hlv).trans yv_4, (h.cell (p := ⟨Pv, 5, none⟩) hlv).trans yv_5⟩)
                  go_cut [15, 16, 17] from 98 to 105 (fun s15 s16 s17 wx => ∃ P : Nat, s15 = .pointer (some ⟨P, 0, none⟩) ∧ s16 = .int .i64 ((N - 1 : Nat) : Int) ∧ s17 = .bool true ∧ Hid (Below Y41.heap.size Y41 wx) ∧ Hid (Y41.heap.size ≤ P ∧ wx.heap[P]? = some (.cells #[.int .i64 R.d, .int .i64 R.s, .int .i64 R.i, .int .i64 R.w, .bool R.l, .int .i64 R.g] 25 (0, 0))))
                  case first =>
                    as_aux_lemma =>
                    clear HC Kp Ko Kv re t42
                    go_region_held3 (fun w' => Below Y41.heap.size Y41 w' ∧ w'.cell? ⟨Pv, 0, none⟩ = some (.int .i64 FR.d) ∧ w'.cell? ⟨Pv, 1, none⟩ = some (.int .i64 FR.s) ∧ w'.cell? ⟨Pv, 2, none⟩ = some (.int .i64 FR.i) ∧ w'.cell? ⟨Pv, 3, none⟩ = some (.int .i64 FR.w) ∧ w'.cell? ⟨Pv, 4, none⟩ = some (.bool FR.l) ∧ w'.cell? ⟨Pv, 5, none⟩ = some (.int .i64 FR.g)) (exact HKS.out _ (by (repeat (with_reducible (first | exact B9 | refine below_al ?_ _ | refine below_all6 ?_ (by first | exact Nat.le_refl _ | exact B9.size | fail) _ _ _ _ _ _ | refine Below.drew ?_ | refine below_drewN ?_ _ | exact Below.refl _ _))); first | done | fail))
                      (first
                        | (go_at_call 14; refine (E2.out _ _ (RT.out _ (by (repeat (with_reducible (first | refine below_al ?_ _ | refine Below.drew ?_ | refine below_drewN ?_ _ | exact Below.refl _ _))); first | done | fail))).mono ?_; rintro e9 W9 ⟨rfl, b9⟩; have B9 : Below Y41.heap.size Y41 W9 := bel_then (by (repeat (with_reducible (first | refine below_al ?_ _ | refine Below.drew ?_ | refine below_drewN ?_ _ | exact Below.refl _ _))); first | done | fail) b9; first | (have KB : W9.heap[Y41.heap.size]? = some (.cells #[.int .i64 0, .int .i64 0, .int .i64 0, .int .i64 0, .bool false, .int .i64 0] 25 (0, 0)) := (by (repeat (first | (with_reducible refine new_at _ _ _ ?_; first | rfl | (simp; done) | fail) | with_reducible refine blk_drew ?_ | with_reducible refine blk_stay ?_ | with_reducible refine blk_kept ?_ b9)); first | done | fail); obtain ⟨p0, p1, p2, p3, p4, p5⟩ := blk_cell6 KB; obtain ⟨m0, m1, m2, m3, m4, m5⟩ := blk_froz6 KB; have hltB := blk_lt KB) | skip)
                        | fail)
                    all_goals (try go_wp2_with fail)
                    all_goals go_meet
                    all_goals (case rel => have Z9 := B9.size; exact ⟨_, rfl, rfl, rfl, Lib.hid (by (repeat (with_reducible (first | exact B9 | refine below_al ?_ _ | refine below_all6 ?_ (by first | exact Nat.le_refl _ | exact B9.size | fail) _ _ _ _ _ _ | refine Below.drew ?_ | refine below_drewN ?_ _ | exact Below.refl _ _))); first | done | fail), Lib.hid ⟨(by first | exact Nat.le_refl _ | omega), (by with_reducible (first | exact blk_new6 _ _ _ _ _ _ _ _ | exact blk_all6 KB | fail))⟩⟩)
                  case rest =>
                    obtain ⟨Pk, rfl, rfl, rfl, hcut, HN5⟩ := hcut
                    obtain ⟨Y43, hY⟩ := named12 hcut
                    subst hY
                    have b43 := hcut.out
                    have Kk := Lib.hid HN5.out.2
                    clear HN5 hcut HKS
                    have Kp := Lib.hid (blk_kept Kp.out b43)
                    have Ko := Lib.hid (blk_kept Ko.out b43)
                    have Kv := Lib.hid (blk_kept Kv.out b43)
                    have re := Lib.hid (re.out.below b43 rfl)
                    have t44 := t42.trans (b43.mono t42.size)
                    clear t42
                    clear b43
                    clear E2 RT yv_0 yv_1 yv_2 yv_3 yv_4 yv_5 hlv
                    have hnq := fun W => neqPlt R W
                    have g0 : (((N - 1 : Nat) : Int) != ((N - 1 : Nat) : Int)) = false := by simp
                    obtain ⟨yk_0, yk_1, yk_2, yk_3, yk_4, yk_5⟩ := blk_cell6 Kk.out
                    have hlk := blk_lt Kk.out
                    obtain ⟨yo_0, yo_1, yo_2, yo_3, yo_4, yo_5⟩ := blk_cell6 Ko.out
                    have hlo := blk_lt Ko.out
                    go_wp2_with fail
                    go_meet
                    case rel => exact Lib.hid t44
                · obtain rfl : ce = 1 := by omega
                  rw [if_pos (rfl : (1 : Nat) = 1)] at RT
                  have RZ : Hid (∀ W, Below Y41.heap.size Y41 W → Rs W (.slice (some ⟨ab, aof, none⟩) (l.length - 1) 0) (l.drop 1).length (bevs (l.drop 1))) := Lib.hid (fun W h => RT.out W h)
                  clear hcap hce hlm
                  go_wp2_with fail
                  have HKS : Hid (∀ W, Below Y41.heap.size Y41 W → Below Y41.heap.size Y41 W ∧ W.cell? ⟨Pv, 0, none⟩ = some (.int .i64 FR.d) ∧ W.cell? ⟨Pv, 1, none⟩ = some (.int .i64 FR.s) ∧ W.cell? ⟨Pv, 2, none⟩ = some (.int .i64 FR.i) ∧ W.cell? ⟨Pv, 3, none⟩ = some (.int .i64 FR.w) ∧ W.cell? ⟨Pv, 4, none⟩ = some (.bool FR.l) ∧ W.cell? ⟨Pv, 5, none⟩ = some (.int .i64 FR.g)) := Lib.hid (fun W h => ⟨h, (h.cell (p := ⟨Pv, 0, none⟩) hlv).trans yv_0, (h.cell (p := ⟨Pv, 1, none⟩) hlv).trans yv_1, (h.cell (p := ⟨Pv, 2, none⟩) hlv).trans yv_2, (h.cell (p := ⟨Pv, 3, none⟩) hlv).trans yv_3, (h.cell (p := ⟨Pv, 4, none⟩) hlv).trans yv_4, (h.cell (p := ⟨Pv, 5, none⟩) hlv).trans yv_5⟩)
                  go_cut [15, 16, 17] from 98 to 105 (fun s15 s16 s17 wx => ∃ P : Nat, s15 = .pointer (some ⟨P, 0, none⟩) ∧ s16 = .int .i64 ((N - 1 : Nat) : Int) ∧ s17 = .bool true ∧ Hid (Below Y41.heap.size Y41 wx) ∧ Hid (Y41.heap.size ≤ P ∧ wx.heap[P]? = some (.cells #[.int .i64 R.d, .int .i64 R.s, .int .i64 R.i, .int .i64 R.w, .bool R.l, .int .i64 R.g] 25 (0, 0))))
                  case first =>
                    as_aux_lemma =>
                    clear HC Kp Ko Kv re t42
                    go_region_held3 (fun w' => Below Y41.heap.size Y41 w' ∧ w'.cell? ⟨Pv, 0, none⟩ = some (.int .i64 FR.d) ∧ w'.cell? ⟨Pv, 1, none⟩ = some (.int .i64 FR.s) ∧ w'.cell? ⟨Pv, 2, none⟩ = some (.int .i64 FR.i) ∧ w'.cell? ⟨Pv, 3, none⟩ = some (.int .i64 FR.w) ∧ w'.cell? ⟨Pv, 4, none⟩ = some (.bool FR.l) ∧ w'.cell? ⟨Pv, 5, none⟩ = some (.int .i64 FR.g)) (exact HKS.out _ (by (repeat (with_reducible (first | exact B9 | refine below_al ?_ _ | refine below_all6 ?_ (by first | exact Nat.le_refl _ | exact B9.size | fail) _ _ _ _ _ _ | refine Below.drew ?_ | refine below_drewN ?_ _ | exact Below.refl _ _))); first | done | fail))
                      (first
                        | (go_at_call 14; refine (E2.out (.slice (some ⟨ab, aof, none⟩) (l.length - 1) 0) _ (RZ.out _ (by (repeat (with_reducible (first | refine below_al ?_ _ | refine Below.drew ?_ | refine below_drewN ?_ _ | exact Below.refl _ _))); first | done | fail))).mono ?_; rintro e9 W9 ⟨rfl, b9⟩; have B9 : Below Y41.heap.size Y41 W9 := bel_then (by (repeat (with_reducible (first | refine below_al ?_ _ | refine Below.drew ?_ | refine below_drewN ?_ _ | exact Below.refl _ _))); first | done | fail) b9; first | (have KB : W9.heap[Y41.heap.size]? = some (.cells #[.int .i64 0, .int .i64 0, .int .i64 0, .int .i64 0, .bool false, .int .i64 0] 25 (0, 0)) := (by (repeat (first | (with_reducible refine new_at _ _ _ ?_; first | rfl | (simp; done) | fail) | with_reducible refine blk_drew ?_ | with_reducible refine blk_stay ?_ | with_reducible refine blk_kept ?_ b9)); first | done | fail); obtain ⟨p0, p1, p2, p3, p4, p5⟩ := blk_cell6 KB; obtain ⟨m0, m1, m2, m3, m4, m5⟩ := blk_froz6 KB; have hltB := blk_lt KB) | skip)
                        | fail)
                    all_goals (try go_wp2_with fail)
                    all_goals go_meet
                    all_goals (case rel => have Z9 := B9.size; exact ⟨_, rfl, rfl, rfl, Lib.hid (by (repeat (with_reducible (first | exact B9 | refine below_al ?_ _ | refine below_all6 ?_ (by first | exact Nat.le_refl _ | exact B9.size | fail) _ _ _ _ _ _ | refine Below.drew ?_ | refine below_drewN ?_ _ | exact Below.refl _ _))); first | done | fail), Lib.hid ⟨(by first | exact Nat.le_refl _ | omega), (by with_reducible (first | exact blk_new6 _ _ _ _ _ _ _ _ | exact blk_all6 KB | fail))⟩⟩)
                  case rest =>
                    obtain ⟨Pk, rfl, rfl, rfl, hcut, HN5⟩ := hcut
                    obtain ⟨Y43, hY⟩ := named12 hcut
                    subst hY
                    have b43 := hcut.out
                    have Kk := Lib.hid HN5.out.2
                    clear HN5 hcut HKS
                    have Kp := Lib.hid (blk_kept Kp.out b43)
                    have Ko := Lib.hid (blk_kept Ko.out b43)
                    have Kv := Lib.hid (blk_kept Kv.out b43)
                    have re := Lib.hid (re.out.below b43 rfl)
                    have t44 := t42.trans (b43.mono t42.size)
                    clear t42
                    clear b43
                    clear E2 RT yv_0 yv_1 yv_2 yv_3 yv_4 yv_5 hlv
                    have hnq := fun W => neqPlt R W
                    have g0 : (((N - 1 : Nat) : Int) != ((N - 1 : Nat) : Int)) = false := by simp
                    obtain ⟨yk_0, yk_1, yk_2, yk_3, yk_4, yk_5⟩ := blk_cell6 Kk.out
                    have hlk := blk_lt Kk.out
                    obtain ⟨yo_0, yo_1, yo_2, yo_3, yo_4, yo_5⟩ := blk_cell6 Ko.out
                    have hlo := blk_lt Ko.out
                    go_wp2_with fail
                    go_meet
                    case rel => exact Lib.hid t44
            · have h0i : ¬ (0 : Int) < (N : Int) := by omega
              go_wp2_with fail
              go_meet
              case rel => exact Lib.hid t40
    case rest =>
      clear Kp
      clear Ko
      clear re
      obtain ⟨Y110, hY⟩ := named12 hcut
      subst hY
      have t110 := hcut.out
      clear hcut HL1 HL2 t12
      go_wp2_with fail
      refine (DrawStepPlatform_any a len cap _ (HC.out.below t110)).mono ?_
      rintro e W111 ⟨x2, y2, rfl, b111⟩
      have t112 := t110.trans (b111.mono t110.size)
      clear t110
      clear b111
      have Kx := Lib.hid (heap_alloc_new W111 (.cells #[.int .i64 x2.d, .int .i64 x2.s, .int .i64 x2.i, .int .i64 x2.w, .bool x2.l, .int .i64 x2.g] 25))
      have t114 := t112.alloc t112.size (.cells #[.int .i64 x2.d, .int .i64 x2.s, .int .i64 x2.i, .int .i64 x2.w, .bool x2.l, .int .i64 x2.g] 25)
      clear t112
      have Kx := Lib.hid (blk_stay (o' := (.cells #[.string y2.k, .int .i64 y2.c] 35)) Kx.out)
      have Ky := Lib.hid (heap_alloc_new (W111.alloc (.cells #[.int .i64 x2.d, .int .i64 x2.s, .int .i64 x2.i, .int .i64 x2.w, .bool x2.l, .int .i64 x2.g] 25)) (.cells #[.string y2.k, .int .i64 y2.c] 35))
      have t115 := t114.alloc t114.size (.cells #[.string y2.k, .int .i64 y2.c] 35)
      clear t114
      go_upto_region 21 with fail
      have hsz113 : (W111.alloc (.cells #[.int .i64 x2.d, .int .i64 x2.s, .int .i64 x2.i, .int .i64 x2.w, .bool x2.l, .int .i64 x2.g] 25)).heap.size = W111.heap.size + 1 := by simp
      rw [hsz113] at Ky
      clear hsz113
      generalize (W111.alloc (.cells #[.int .i64 x2.d, .int .i64 x2.s, .int .i64 x2.i, .int .i64 x2.w, .bool x2.l, .int .i64 x2.g] 25)).alloc (.cells #[.string y2.k, .int .i64 y2.c] 35) = V113 at *
      generalize hPy : W111.heap.size + 1 = Py at Ky ⊢
      clear hPy
      generalize hPx : W111.heap.size = Px at Kx ⊢
      clear hPx
      have E1 := Lib.hid (fun W => implStepPlatform_c x2 y2 W)
      have E2 := Lib.hid (fun W => specStepPlatform_c x2 y2 W)
      have HK := Lib.hid (@bo_kind x2 y2)
      generalize spR x2 y2 = S2 at *
      generalize spOk x2 y2 = ok2 at *
      obtain ⟨yx_0, yx_1, yx_2, yx_3, yx_4, yx_5⟩ := blk_cell6 Kx.out
      have hlx := blk_lt Kx.out
      obtain ⟨yy_0, yy_1⟩ := blk_cell2 Ky.out
      have hly := blk_lt Ky.out
      go_wp2_with fail
      refine (E1.out _).mono ?_
      rintro e W116 ⟨rfl, b116⟩
      clear yx_0 yx_1 yx_2 yx_3 yx_4 yx_5 hlx
      clear yy_0 yy_1 hly
      have Kx := Lib.hid (blk_kept Kx.out b116)
      have Ky := Lib.hid (blk_kept Ky.out b116)
      have t117 := t115.trans (b116.mono t115.size)
      clear t115
      clear b116
      have Kx := Lib.hid (blk_stay (o' := (.cells #[.int .i64 S2.d, .int .i64 S2.s, .int .i64 S2.i, .int .i64 S2.w, .bool S2.l, .int .i64 S2.g] 25)) Kx.out)
      have Ky := Lib.hid (blk_stay (o' := (.cells #[.int .i64 S2.d, .int .i64 S2.s, .int .i64 S2.i, .int .i64 S2.w, .bool S2.l, .int .i64 S2.g] 25)) Ky.out)
      have Kf := Lib.hid (heap_alloc_new W116 (.cells #[.int .i64 S2.d, .int .i64 S2.s, .int .i64 S2.i, .int .i64 S2.w, .bool S2.l, .int .i64 S2.g] 25))
      have t119 := t117.alloc t117.size (.cells #[.int .i64 S2.d, .int .i64 S2.s, .int .i64 S2.i, .int .i64 S2.w, .bool S2.l, .int .i64 S2.g] 25)
      clear t117
      go_upto_region 22 with fail
      generalize W116.alloc (.cells #[.int .i64 S2.d, .int .i64 S2.s, .int .i64 S2.i, .int .i64 S2.w, .bool S2.l, .int .i64 S2.g] 25) = V118 at *
      obtain ⟨Pf, hPf⟩ : ∃ P, P = W116.heap.size := ⟨_, rfl⟩
      rw [← hPf] at Kf ⊢
      clear hPf
      obtain ⟨yx_0, yx_1, yx_2, yx_3, yx_4, yx_5⟩ := blk_cell6 Kx.out
      have hlx := blk_lt Kx.out
      obtain ⟨yy_0, yy_1⟩ := blk_cell2 Ky.out
      have hly := blk_lt Ky.out
      go_wp2_with fail
      refine (E2.out _).mono ?_
      rintro e W120 ⟨rfl, b120⟩
      clear yx_0 yx_1 yx_2 yx_3 yx_4 yx_5 hlx
      clear yy_0 yy_1 hly
      have Kx := Lib.hid (blk_kept Kx.out b120)
      have Ky := Lib.hid (blk_kept Ky.out b120)
      have Kf := Lib.hid (blk_kept Kf.out b120)
      have t121 := t119.trans (b120.mono t119.size)
      clear t119
      clear b120
      have Kx := Lib.hid (blk_stay (o' := (.cells #[.int .i64 S2.d, .int .i64 S2.s, .int .i64 S2.i, .int .i64 S2.w, .bool S2.l, .int .i64 S2.g] 25)) Kx.out)
      have Ky := Lib.hid (blk_stay (o' := (.cells #[.int .i64 S2.d, .int .i64 S2.s, .int .i64 S2.i, .int .i64 S2.w, .bool S2.l, .int .i64 S2.g] 25)) Ky.out)
      have Kf := Lib.hid (blk_stay (o' := (.cells #[.int .i64 S2.d, .int .i64 S2.s, .int .i64 S2.i, .int .i64 S2.w, .bool S2.l, .int .i64 S2.g] 25)) Kf.out)
      have Kg := Lib.hid (heap_alloc_new W120 (.cells #[.int .i64 S2.d, .int .i64 S2.s, .int .i64 S2.i, .int .i64 S2.w, .bool S2.l, .int .i64 S2.g] 25))
      have t123 := t121.alloc t121.size (.cells #[.int .i64 S2.d, .int .i64 S2.s, .int .i64 S2.i, .int .i64 S2.w, .bool S2.l, .int .i64 S2.g] 25)
      clear t121
      go_upto_region 23 with fail
      generalize W120.alloc (.cells #[.int .i64 S2.d, .int .i64 S2.s, .int .i64 S2.i, .int .i64 S2.w, .bool S2.l, .int .i64 S2.g] 25) = V122 at *
      obtain ⟨Pg, hPg⟩ : ∃ P, P = W120.heap.size := ⟨_, rfl⟩
      rw [← hPg] at Kg ⊢
      clear hPg
      have hnq := fun W => neqPlt S2 W
      have g1 : (ok2 != ok2) = false := by simp
      clear E1 E2
      obtain ⟨yf_0, yf_1, yf_2, yf_3, yf_4, yf_5⟩ := blk_cell6 Kf.out
      have hlf := blk_lt Kf.out
      obtain ⟨yg_0, yg_1, yg_2, yg_3, yg_4, yg_5⟩ := blk_cell6 Kg.out
      have hlg := blk_lt Kg.out
      go_upto_region 25 with fail
      clear yf_0 yf_1 yf_2 yf_3 yf_4 yf_5 hlf
      clear yg_0 yg_1 yg_2 yg_3 yg_4 yg_5 hlg
      clear Kf
      clear Kg
      clear hnq g1
      obtain ⟨yx_0, yx_1, yx_2, yx_3, yx_4, yx_5⟩ := blk_cell6 Kx.out
      have hlx := blk_lt Kx.out
      go_wp2_with fail
      refine (implPossibleKinds_c x2 _).mono ?_
      rintro e W124 ⟨vk, rfl, nk, b124⟩
      clear yx_0 yx_1 yx_2 yx_3 yx_4 yx_5 hlx
      have Kx := Lib.hid (blk_kept Kx.out b124)
      have Ky := Lib.hid (blk_kept Ky.out b124)
      have t125 := t123.trans (b124.mono t123.size)
      clear t123
      clear b124
      have rk := Lib.hid (show Rd _ vk ((pkL x2).map Value.string) from Rd.of_own nk)
      clear nk
      obtain ⟨yx_0, yx_1, yx_2, yx_3, yx_4, yx_5⟩ := blk_cell6 Kx.out
      have hlx := blk_lt Kx.out
      go_wp2_with fail
      refine (specPossibleKinds_c x2 _).mono ?_
      rintro e W126 ⟨vm, rfl, nm, b126⟩
      clear yx_0 yx_1 yx_2 yx_3 yx_4 yx_5 hlx
      have Kx := Lib.hid (blk_kept Kx.out b126)
      have Ky := Lib.hid (blk_kept Ky.out b126)
      have rk := Lib.hid (rk.out.below b126 rfl)
      have t127 := t125.trans (b126.mono t125.size)
      clear t125
      clear b126
      have rm := Lib.hid (show Rd _ vm ((pkL x2).map Value.string) from Rd.of_own nm)
      clear nm
      have hpl := pkL_len x2
      generalize pkL x2 = KL at *
      have g2 : (plV x2 != plV x2) = false := by simp
      generalize plV x2 = pv at *
      go_wp2_with fail
      refine (rTexts_same vk vm KL _ rk.out rm.out).mono ?_
      rintro e W128 ⟨rfl, m128, hW128⟩
      have b128 : Below W126.heap.size W126 W128 := by rw [hW128]; exact below_drewN (Below.refl _ _) _
      clear hW128
      have Kx := Lib.hid (blk_kept Kx.out b128)
      have Ky := Lib.hid (blk_kept Ky.out b128)
      have rk := Lib.hid (rk.out.below b128 rfl)
      have rm := Lib.hid (rm.out.below b128 rfl)
      have t129 := t127.trans (b128.mono t127.size)
      clear t127
      clear b128
      cases ok2 with
      | true =>
        have hmem := HK.out rfl
        clear HK
        obtain ⟨yy_0, yy_1⟩ := blk_cell2 Ky.out
        have hly := blk_lt Ky.out
        go_wp2_with fail
        refine (rHasText_yes vk KL y2.k _ rk.out hmem).mono ?_
        rintro e W130 ⟨rfl, m130, hW130⟩
        have b130 : Below W128.heap.size W128 W130 := by rw [hW130]; exact below_drewN (Below.refl _ _) _
        clear hW130
        clear yy_0 yy_1 hly
        have Kx := Lib.hid (blk_kept Kx.out b130)
        have Ky := Lib.hid (blk_kept Ky.out b130)
        have rk := Lib.hid (rk.out.below b130 rfl)
        have rm := Lib.hid (rm.out.below b130 rfl)
        have t131 := t129.trans (b130.mono t129.size)
        clear t129
        clear b130
        go_upto_region 29 with fail
        clear rk
        clear rm
        go_wp2_with fail
        refine (DrawCountEvents_any a len cap _ (HC.out.below t131)).mono ?_
        rintro e W132 ⟨vc, lc, kc, rfl, hrc, hlc, b132⟩
        have Kx := Lib.hid (blk_kept Kx.out b132)
        have Ky := Lib.hid (blk_kept Ky.out b132)
        have t133 := t131.trans (b132.mono t131.size)
        clear t131
        clear b132
        have rc := Lib.hid hrc
        clear hrc
        go_wp2_with fail
        refine (implCountEvents_c vc lc kc _ rc.out (by unfold maxLen; omega)).mono ?_
        rintro e W134 ⟨rfl, b134⟩
        have Kx := Lib.hid (blk_kept Kx.out b134)
        have Ky := Lib.hid (blk_kept Ky.out b134)
        have rc := Lib.hid (rc.out.below b134 rfl)
        have t135 := t133.trans (b134.mono t133.size)
        clear t133
        clear b134
        go_wp2_with fail
        refine (specCountEvents_c vc lc kc _ rc.out (by unfold maxLen; omega)).mono ?_
        rintro e W136 ⟨rfl, b136⟩
        have Kx := Lib.hid (blk_kept Kx.out b136)
        have Ky := Lib.hid (blk_kept Ky.out b136)
        have rc := Lib.hid (rc.out.below b136 rfl)
        have t137 := t135.trans (b136.mono t135.size)
        clear t135
        clear b136
        generalize ceA lc kc = CA at *
        generalize ceB lc kc = CB at *
        generalize ceOk lc kc = CO at *
        have g3 : ((CA : Int) == CA) = true := by simp
        have g4 : ((CB : Int) == CB) = true := by simp
        have g5 : (CO == CO) = true := by simp
        have E3 := Lib.hid (fun W => implIsBoardEvent_c y2 W)
        have E4 := Lib.hid (fun W => specIsBoardEvent_c y2 W)
        generalize evV y2 = ev at *
        have g6 : (ev == ev) = true := by simp
        obtain ⟨yy_0, yy_1⟩ := blk_cell2 Ky.out
        have hly := blk_lt Ky.out
        go_wp2_with fail
        have D0 : ∀ x : Aft W136, x.w.cell? ⟨Py, 0, none⟩ = some (.string y2.k) := fun x => x.cell yy_0
        have D1 : ∀ x : Aft W136, x.w.cell? ⟨Py, 1, none⟩ = some (.int .i64 y2.c) := fun x => x.cell yy_1
        clear yy_0 yy_1
        refine wp_region_aft (w0 := W136) (by kernel_rfl) (by kernel_rfl) (Below.refl _ _) ?_
        repeat (go_big_quiet_step ((first | (go_at_call 27; exact aft_of (E3.out _)) | (go_at_call 28; exact aft_of (E4.out _)))))
        refine wpQuiet_nil ?_
        rintro _ ⟨x, rfl⟩
        go_wp2
        go_ret
        exact ⟨by first | rfl | (simp; done), t137.trans (x.below.mono t137.size)⟩
      | false =>
        clear HK
        go_upto_region 29 with fail
        clear rk
        clear rm
        go_wp2_with fail
        refine (DrawCountEvents_any a len cap _ (HC.out.below t129)).mono ?_
        rintro e W130 ⟨vc, lc, kc, rfl, hrc, hlc, b130⟩
        have Kx := Lib.hid (blk_kept Kx.out b130)
        have Ky := Lib.hid (blk_kept Ky.out b130)
        have t131 := t129.trans (b130.mono t129.size)
        clear t129
        clear b130
        have rc := Lib.hid hrc
        clear hrc
        go_wp2_with fail
        refine (implCountEvents_c vc lc kc _ rc.out (by unfold maxLen; omega)).mono ?_
        rintro e W132 ⟨rfl, b132⟩
        have Kx := Lib.hid (blk_kept Kx.out b132)
        have Ky := Lib.hid (blk_kept Ky.out b132)
        have rc := Lib.hid (rc.out.below b132 rfl)
        have t133 := t131.trans (b132.mono t131.size)
        clear t131
        clear b132
        go_wp2_with fail
        refine (specCountEvents_c vc lc kc _ rc.out (by unfold maxLen; omega)).mono ?_
        rintro e W134 ⟨rfl, b134⟩
        have Kx := Lib.hid (blk_kept Kx.out b134)
        have Ky := Lib.hid (blk_kept Ky.out b134)
        have rc := Lib.hid (rc.out.below b134 rfl)
        have t135 := t133.trans (b134.mono t133.size)
        clear t133
        clear b134
        generalize ceA lc kc = CA at *
        generalize ceB lc kc = CB at *
        generalize ceOk lc kc = CO at *
        have g3 : ((CA : Int) == CA) = true := by simp
        have g4 : ((CB : Int) == CB) = true := by simp
        have g5 : (CO == CO) = true := by simp
        have E3 := Lib.hid (fun W => implIsBoardEvent_c y2 W)
        have E4 := Lib.hid (fun W => specIsBoardEvent_c y2 W)
        generalize evV y2 = ev at *
        have g6 : (ev == ev) = true := by simp
        obtain ⟨yy_0, yy_1⟩ := blk_cell2 Ky.out
        have hly := blk_lt Ky.out
        go_wp2_with fail
        have D0 : ∀ x : Aft W134, x.w.cell? ⟨Py, 0, none⟩ = some (.string y2.k) := fun x => x.cell yy_0
        have D1 : ∀ x : Aft W134, x.w.cell? ⟨Py, 1, none⟩ = some (.int .i64 y2.c) := fun x => x.cell yy_1
        clear yy_0 yy_1
        refine wp_region_aft (w0 := W134) (by kernel_rfl) (by kernel_rfl) (Below.refl _ _) ?_
        repeat (go_big_quiet_step ((first | (go_at_call 27; exact aft_of (E3.out _)) | (go_at_call 28; exact aft_of (E4.out _)))))
        refine wpQuiet_nil ?_
        rintro _ ⟨x, rfl⟩
        go_wp2
        go_ret
        exact ⟨by first | rfl | (simp; done), t135.trans (x.below.mono t135.size)⟩
end Go.Proofs.Ytinlcbljpclccaa
