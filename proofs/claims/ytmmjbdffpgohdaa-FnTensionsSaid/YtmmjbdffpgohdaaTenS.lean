/- The specification's tensions at all supports. Condition: sizes. -/
import Derived.Test.YtmmjbdffpgohdaaCaseC
import Derived.Deep.RegionHeld3
import Derived.Deep.AppendLies
import Derived.WalkSpells
import Derived.StillTactics
import Derived.RangeFuncBox
import Derived.Deep.DeepCutAuto
namespace Go.Proofs.Ytmmjbdffpgohdaa
open Go.RowKit
set_option linter.unusedVariables false
theorem Try.infoIntS : (Try.prog.info? 3).map (fun i => (i.zero, i.size, i.bytes)) = some (some (.int .i64 0), 1, 8) := by kernel_rfl
theorem own_shapeT {w : World} {B e size n : Nat} {v : Value} {xs : List Value} (h : w.ownsRow B e size v n xs) (h0 : 0 < n) : ∃ g cap, v = .slice (some ⟨g, 0, none⟩) n cap ∧ g < w.heap.size ∧ n ≤ cap ∧ cap ≤ maxLen := by
  rcases h.2 with ⟨_, h1⟩ | ⟨g, cap, cur, rfl, hb, hg, hn, hcm, _⟩
  · omega
  · exact ⟨g, cap, rfl, (Array.getElem?_eq_some_iff.1 hg).1, hn, hcm⟩
theorem own_one (w : World) (v : Value) (e : TypeId) : (w.alloc (.cells #[v] e)).ownsRow w.heap.size e 1 (.slice (some ⟨w.heap.size, 0, none⟩) 1 1) 1 [v] :=
  ⟨by simp, .inr ⟨w.heap.size, 1, #[v], rfl, Nat.le_refl _, heap_alloc_new w _, Nat.le_refl _, by decide, rfl, by simp⟩⟩
theorem tenV_at {l : List Sup} {x : LC} {f : Int} {k i : Nat} (h : i < k) : (intVs (tenK l x f k))[i]? = some (.int .i64 (ten l x f i)) := by simp [intVs, tenK, h]
set_option maxRecDepth 100000 in
set_option maxHeartbeats 4000000 in
theorem l6Tensions_c (v : Value) (l : List Sup) (x : LC) (sg f : Int) (w : World) (hr : Rs w v l.length (sups l)) (hl : IsL l) (hx : (1 ≤ x.w ∧ x.w ≤ 1000) ∧ (1 ≤ x.c ∧ x.c ≤ 1000000) ∧ (0 ≤ x.r ∧ x.r ≤ 1000)) (hsf : sg * x.r = f) (hf : -1000 ≤ f ∧ f ≤ 1000) :
    Calls Try.prog 78 #[v, .agg #[.int .i64 x.w, .int .i64 x.c, .int .i64 x.r], .int .i64 sg] w fun e w' => ∃ g, e = .returned (.tuple #[g, .bool (tenG l x f l.length)]) ∧ w'.ownsRow w.heap.size 3 1 g l.length (intVs (tenK l x f l.length)) ∧ Below w.heap.size w w' := by
  obtain ⟨i0, hi, hz0, hz1, hz2⟩ := info_parts Try.infoIntS
  have HX := Lib.hid (fun W h => box_LC w x 44 _ rfl W h)
  have hB0 : Below w.heap.size w (w.alloc (.cells #[.int .i64 x.w, .int .i64 x.c, .int .i64 x.r] 44)) := (Below.refl _ _).alloc (Nat.le_refl _) _
  have h2 := hl.two
  have h8 := hl.eight
  obtain ⟨a, oa, ca, rfl, hla, hm, hs⟩ := hr.sup (by omega)
  have HA := Lib.hid hs
  have HL := Lib.hid hl
  have HXX := Lib.hid hx
  have q5 : IntKind.i64.wrap (sg * x.r) = f := by rw [hsf]; exact IntWalk.i64_in _ (by omega)
  clear hr hs hl hsf
  go_enter Try.func78, Try.ntmps78
  have hs0 : (w.alloc (.cells #[.int .i64 x.w, .int .i64 x.c, .int .i64 x.r] 44)).heap.size = w.heap.size + 1 := by simp
  go_upto_region 1 with fail
  generalize hw0 : w.alloc (.cells #[.int .i64 x.w, .int .i64 x.c, .int .i64 x.r] 44) = w0 at *
  clear hw0
  have HB0 := Lib.hid hB0
  clear hB0
  obtain ⟨k0, k1, k2⟩ := HX.out w0 (Below.refl _ _)
  have K := Lib.hid (And.intro k0 (And.intro k1 k2))
  have hG0 : Hid (tenG l x f 1 = true) := Lib.hid (by rw [tenG_yes (by rw [ten_zero]; omega)]; rfl)
  go_wp2
  go_loopw [8, 9, 10] (fun o b i wr => ∃ k : Nat, k + 1 ≤ l.length ∧ i = .int .i64 ((k : Int) + 1) ∧ b = .bool (tenG l x f (k + 1)) ∧ wr.ownsRow w0.heap.size 3 1 o (k + 1) (intVs (tenK l x f (k + 1))) ∧ Below w0.heap.size w0 wr) (fun _ _ i _ => l.length - (intOf i).toNat)
  case atStart =>
    refine ⟨0, by omega, rfl, by rw [hG0.out], ?_, (Below.refl _ _).alloc (Nat.le_refl _) _⟩
    have e : intVs (tenK l x f (0 + 1)) = [.int .i64 x.c] := by simp [tenK, intVs, ten_zero, List.range_succ]
    rw [e, ← hs0]
    exact own_one w0 _ _
  case round =>
    obtain ⟨k, hk, rfl, rfl, hown, hbel⟩ := hrel
    have hbe := HB0.out.trans (hbel.mono HB0.out.size)
    by_cases hlt : k + 1 < l.length
    · obtain ⟨g, cp, rfl, hg, hgc, hgm⟩ := own_shapeT hown (by omega)
      have c0 := (hown.cellAt k (by omega)).trans (tenV_at (i := k) (by omega))
      obtain ⟨_, y0, _⟩ := (HA.out.below hbe hla) k (by omega)
      obtain ⟨_, y1, _⟩ := (HA.out.below hbe hla) (k + 1) hlt
      obtain ⟨k0, k1, k2⟩ := HX.out wr (by rw [← hs0]; exact hbel)
      have hXX := HXX.out
      have eb := gs_bd hXX.1 (srise_bd HL.out hlt)
      have et := ten_in HL.out hXX hf (k := k) (by omega)
      have HT2 := Lib.hid (ten_succ l x f k)
      have sb := srise_bd HL.out hlt
      have HKS := Lib.hid (tenK_succ l x f (k + 1))
      have HSD : srise l k = (nth l (k + 1)).h - (nth l k).h := rfl
      have HGN : Hid (tenG l x f (k + 1 + 1) = (tenG l x f (k + 1) && decide (0 ≤ ten l x f (k + 1)))) := Lib.hid rfl
      generalize tenG l x f (k + 1) = gb at *
      have hw0 := HB0.out.size
      have hhb0 := HL.out.bd (i := k) (by omega)
      have hhb1 := HL.out.bd (i := k + 1) hlt
      generalize (nth l (k + 1)).h = H1 at *
      generalize (nth l k).h = H0 at *
      generalize srise l k = S at *
      generalize ten l x f k = T at *
      have q1 : IntKind.i64.wrap (H1 - H0) = S := by rw [HSD]; exact IntWalk.i64_in _ (by omega)
      have q2 : IntKind.i64.wrap (x.w * S) = x.w * S := IntWalk.i64_in _ (by omega)
      have q3 : IntKind.i64.wrap (T + x.w * S) = T + x.w * S := IntWalk.i64_in _ (by omega)
      have q4 : IntKind.i64.wrap (T + x.w * S + f) = ten l x f (k + 1) := by rw [HT2.out]; exact IntWalk.i64_in _ (by omega)
      have et2 : -19000000 ≤ ten l x f (k + 1) ∧ ten l x f (k + 1) ≤ 20000000 := by rw [HT2.out]; omega
      have p1 : IntKind.i64.wrap ((k : Int) + 1 - 1) = (k : Int) := by rw [Int.add_sub_cancel]; exact IntWalk.i64_in _ (by omega)
      have p3 : ((k : Int) + 1).toNat = k + 1 := by omega
      have p4 : (0 : Int) ≤ (k : Int) + 1 := by omega
      have hi1 : k < l.length := by omega
      have hi2 : (k : Int) + 1 < (l.length : Int) := by omega
      have hi3 : k < k + 1 := by omega
      generalize ten l x f (k + 1) = T2 at *
      clear HSD
      go_wp2_with fail
      go_quiet (fail)
      have hown2 := own_drew (w' := wr.drewN nq) hown ⟨nq, rfl⟩
      have hbel2 := Drew.below_trans hbel (c := wr.drewN nq) ⟨nq, rfl⟩
      clear c0 y0 y1 k0 k1 k2 q1 q2 q3 q4 p1 p3 hown hbel hbe HT2
      generalize wr.drewN nq = wq at *
      have hqs := hbel2.size
      cases gb with
      | false =>
        go_wp2_with (at_builtin; refine wpList_append_own _ rfl _ _ 49 rfl w0.heap.size 3 i0 (.int .i64 0) 1 8 Try.underlying49 hi hz0 hz1 hz2 rfl (by decide) _ _ _ rfl (hown2.alloc _) ⟨wq.heap.size, 0, none⟩ 1 1 [.int .i64 T2] rfl rfl (cell_one_new _ _ _) (by simp [Value.oneCell']) (by unfold maxLen; omega) (by omega) (by simp; omega) ?_; intro v' w5 hown' hgrow _)
        go_roundw
        case rel => exact ⟨k + 1, by omega, by go_num, by rw [HGN.out]; simp, by rw [HKS.out]; simpa [intVs] using hown', (hbel2.alloc hbel2.size _).grown hgrow (by simp; omega) (fun j hj => (hown2.lt j hj).1)⟩
        case measure => simp [intOf]; omega
      | true =>
        by_cases hT : 0 ≤ T2
        · go_wp2_with (at_builtin; refine wpList_append_own _ rfl _ _ 49 rfl w0.heap.size 3 i0 (.int .i64 0) 1 8 Try.underlying49 hi hz0 hz1 hz2 rfl (by decide) _ _ _ rfl (hown2.alloc _) ⟨wq.heap.size, 0, none⟩ 1 1 [.int .i64 T2] rfl rfl (cell_one_new _ _ _) (by simp [Value.oneCell']) (by unfold maxLen; omega) (by omega) (by simp; omega) ?_; intro v' w5 hown' hgrow _)
          go_roundw
          case rel => exact ⟨k + 1, by omega, by go_num, by rw [HGN.out]; simp; omega, by rw [HKS.out]; simpa [intVs] using hown', (hbel2.alloc hbel2.size _).grown hgrow (by simp; omega) (fun j hj => (hown2.lt j hj).1)⟩
          case measure => simp [intOf]; omega
        · go_wp2_with (at_builtin; refine wpList_append_own _ rfl _ _ 49 rfl w0.heap.size 3 i0 (.int .i64 0) 1 8 Try.underlying49 hi hz0 hz1 hz2 rfl (by decide) _ _ _ rfl (hown2.alloc _) ⟨wq.heap.size, 0, none⟩ 1 1 [.int .i64 T2] rfl rfl (cell_one_new _ _ _) (by simp [Value.oneCell']) (by unfold maxLen; omega) (by omega) (by simp; omega) ?_; intro v' w5 hown' hgrow _)
          go_roundw
          case rel => exact ⟨k + 1, by omega, by go_num, by rw [HGN.out]; simp; omega, by rw [HKS.out]; simpa [intVs] using hown', (hbel2.alloc hbel2.size _).grown hgrow (by simp; omega) (fun j hj => (hown2.lt j hj).1)⟩
          case measure => simp [intOf]; omega
    · have e : k + 1 = l.length := by omega
      rw [e] at hown
      have HE := Lib.hid e
      have HO := Lib.hid (own_mono hown HB0.out.size)
      clear hown e
      go_wp2
      go_ret2
      exact ⟨_, by rw [HE.out]; rfl, HO.out, hbe⟩
set_option maxRecDepth 100000 in
set_option maxHeartbeats 2000000 in
theorem specUpTensions_c (v : Value) (l : List Sup) (x : LC) (w : World) (hr : Rs w v l.length (sups l)) (hn : l.length ≤ 1048576) :
    Calls Try.prog 33 #[v, .agg #[.int .i64 x.w, .int .i64 x.c, .int .i64 x.r]] w fun e w' => ∃ g, e = .returned (.tuple #[g, .bool (tenOk l x x.r)]) ∧ w'.ownsRow w.heap.size 3 1 g (tenL l x x.r).length (intVs (tenL l x x.r)) ∧ Below w.heap.size w w' := by
  have HX := Lib.hid (fun W h => box_LC w x 44 _ rfl W h)
  have HR := Lib.hid (hr.below ((Below.refl _ _).alloc (Nat.le_refl _) (.cells #[.int .i64 x.w, .int .i64 x.c, .int .i64 x.r] 44)) rfl)
  have HB0 : Hid (Below w.heap.size w (w.alloc (.cells #[.int .i64 x.w, .int .i64 x.c, .int .i64 x.r] 44))) := Lib.hid ((Below.refl _ _).alloc (Nat.le_refl _) _)
  have EA := Lib.hid (fun W hW => l6Asked_c v l x W hW hn)
  clear hr
  cases ha : askOk l x with
  | false =>
    have HK : Hid (tenOk l x x.r = false) := Lib.hid (by simp [tenOk, ha])
    rw [tenL_no HK.out, HK.out]
    rw [ha] at EA
    clear ha HK
    go_enter Try.func33, Try.ntmps33
    go_wp2_with fail
    refine (EA.out _ HR.out).mono ?_
    rintro e w1 ⟨rfl, b1⟩
    have B1 := HB0.out.trans (b1.mono HB0.out.size)
    clear b1
    go_wp2
    go_ret2
    exact ⟨_, rfl, World.ownsRow_made w1 #[] 0 B1.size (by decide) rfl, B1.alloc B1.size _⟩
  | true =>
    obtain ⟨hl, hxx⟩ := askOk_yes ha
    have HO : Hid (tenOk l x x.r = tenG l x x.r l.length) := Lib.hid (by simp [tenOk, ha])
    have HT := Lib.hid (fun W hW => l6Tensions_c v l x 1 x.r W hW hl hxx (by omega) (by omega))
    rw [ha] at EA
    clear ha hxx
    go_enter Try.func33, Try.ntmps33
    go_wp2_with fail
    refine (EA.out _ HR.out).mono ?_
    rintro e w1 ⟨rfl, b1⟩
    have BX1 := Lib.hid b1
    have B1 := Lib.hid (HB0.out.trans (b1.mono HB0.out.size))
    have HR1 := Lib.hid (HR.out.below b1 rfl)
    obtain ⟨k0, k1, k2⟩ := HX.out w1 (by simpa using b1)
    clear b1
    go_wp2_with fail
    refine (HT.out _ HR1.out).mono ?_
    rintro e w2 ⟨g, rfl, o2, b2⟩
    have HO2 := Lib.hid o2
    have B2 := Lib.hid (B1.out.trans (b2.mono B1.out.size))
    clear o2 b2 k0 k1 k2
    cases hg : tenG l x x.r l.length with
    | false =>
      have HK := Lib.hid (HO.out.trans hg)
      clear hg
      go_wp2
      go_ret2
      rw [tenL_no HK.out, HK.out]
      exact ⟨_, rfl, World.ownsRow_made w2 #[] 0 B2.out.size (by decide) rfl, B2.out.alloc B2.out.size _⟩
    | true =>
      have HK := Lib.hid (HO.out.trans hg)
      clear hg
      go_wp2
      go_ret2
      rw [tenL_yes HK.out, HK.out, tenK_len]
      exact ⟨_, rfl, own_mono HO2.out B1.out.size, B2.out⟩
set_option maxRecDepth 100000 in
set_option maxHeartbeats 2000000 in
theorem specDownTensions_c (v : Value) (l : List Sup) (x : LC) (w : World) (hr : Rs w v l.length (sups l)) (hn : l.length ≤ 1048576) :
    Calls Try.prog 36 #[v, .agg #[.int .i64 x.w, .int .i64 x.c, .int .i64 x.r]] w fun e w' => ∃ g, e = .returned (.tuple #[g, .bool (tenOk l x (-x.r))]) ∧ w'.ownsRow w.heap.size 3 1 g (tenL l x (-x.r)).length (intVs (tenL l x (-x.r))) ∧ Below w.heap.size w w' := by
  have HX := Lib.hid (fun W h => box_LC w x 44 _ rfl W h)
  have HR := Lib.hid (hr.below ((Below.refl _ _).alloc (Nat.le_refl _) (.cells #[.int .i64 x.w, .int .i64 x.c, .int .i64 x.r] 44)) rfl)
  have HB0 : Hid (Below w.heap.size w (w.alloc (.cells #[.int .i64 x.w, .int .i64 x.c, .int .i64 x.r] 44))) := Lib.hid ((Below.refl _ _).alloc (Nat.le_refl _) _)
  have EA := Lib.hid (fun W hW => l6Asked_c v l x W hW hn)
  clear hr
  cases ha : askOk l x with
  | false =>
    have HK : Hid (tenOk l x (-x.r) = false) := Lib.hid (by simp [tenOk, ha])
    rw [tenL_no HK.out, HK.out]
    rw [ha] at EA
    clear ha HK
    go_enter Try.func36, Try.ntmps36
    go_wp2_with fail
    refine (EA.out _ HR.out).mono ?_
    rintro e w1 ⟨rfl, b1⟩
    have B1 := HB0.out.trans (b1.mono HB0.out.size)
    clear b1
    go_wp2
    go_ret2
    exact ⟨_, rfl, World.ownsRow_made w1 #[] 0 B1.size (by decide) rfl, B1.alloc B1.size _⟩
  | true =>
    obtain ⟨hl, hxx⟩ := askOk_yes ha
    have HO : Hid (tenOk l x (-x.r) = tenG l x (-x.r) l.length) := Lib.hid (by simp [tenOk, ha])
    have HT := Lib.hid (fun W hW => l6Tensions_c v l x (-1) (-x.r) W hW hl hxx (by omega) (by omega))
    rw [ha] at EA
    clear ha hxx
    go_enter Try.func36, Try.ntmps36
    go_wp2_with fail
    refine (EA.out _ HR.out).mono ?_
    rintro e w1 ⟨rfl, b1⟩
    have BX1 := Lib.hid b1
    have B1 := Lib.hid (HB0.out.trans (b1.mono HB0.out.size))
    have HR1 := Lib.hid (HR.out.below b1 rfl)
    obtain ⟨k0, k1, k2⟩ := HX.out w1 (by simpa using b1)
    clear b1
    go_wp2_with fail
    refine (HT.out _ HR1.out).mono ?_
    rintro e w2 ⟨g, rfl, o2, b2⟩
    have HO2 := Lib.hid o2
    have B2 := Lib.hid (B1.out.trans (b2.mono B1.out.size))
    clear o2 b2 k0 k1 k2
    cases hg : tenG l x (-x.r) l.length with
    | false =>
      have HK := Lib.hid (HO.out.trans hg)
      clear hg
      go_wp2
      go_ret2
      rw [tenL_no HK.out, HK.out]
      exact ⟨_, rfl, World.ownsRow_made w2 #[] 0 B2.out.size (by decide) rfl, B2.out.alloc B2.out.size _⟩
    | true =>
      have HK := Lib.hid (HO.out.trans hg)
      clear hg
      go_wp2
      go_ret2
      rw [tenL_yes HK.out, HK.out, tenK_len]
      exact ⟨_, rfl, own_mono HO2.out B1.out.size, B2.out⟩
end Go.Proofs.Ytmmjbdffpgohdaa
