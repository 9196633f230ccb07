/- SalesOn: the program's and the specification's answer as one function. Condition: sizes; the table of rules is as laid. -/
import Derived.Test.YtpknodbkjjcdjaaDoorPrcW
import Derived.Test.YtpknodbkjjcdjaaDoorTksUp
import Derived.Deep.DeepCutAuto
namespace Go.Proofs.YtpknodbkjjcdjaaDoor
open Go.RowKit
set_option linter.unusedVariables false
/-- The cells of the four prices. -/
theorem priT_at (p : Prc) (K : Nat) (h : K < 4) : (#[.int .i64 p.a, .int .i64 p.b, .int .i64 p.c, .int .i64 p.d] : Array Value)[K]? = some (.int .i64 (priT p K)) := by
  rcases (by omega : K = 0 ∨ K = 1 ∨ K = 2 ∨ K = 3) with rfl | rfl | rfl | rfl <;> rfl
set_option maxRecDepth 100000 in
set_option maxHeartbeats 4000000 in
theorem implSalesOn_c (p : Prc) (v : Value) (l : List Tik) (d : Int) (w : World) (hr : Rs w v l.length (tiks l)) (hn : l.length ≤ 1048576) (hT : RulP w) :
    Calls Tryd.prog 39 #[.agg #[.int .i64 p.a, .int .i64 p.b, .int .i64 p.c, .int .i64 p.d], v, .int .i64 d] w fun e w' => e = .returned (.tuple #[.int .i64 (saV p l d), .bool (saOk p l d)]) ∧ Below w.heap.size w w' := by
  have EP := Lib.hid (fun W => arePrices_c p W)
  have E0 := Lib.hid (fun W h h2 => implAreTickets_c v l W h hn h2)
  have E1 := Lib.hid (fun W => isTicketDay_c d W)
  have hd : saOk p l d = (prcV p && tikL l && inR d 0 999) := rfl
  have HX := Lib.hid (box_Prc w p 52 _ rfl)
  have HR := Lib.hid hr
  have HTT := Lib.hid hT
  clear hT
  obtain ⟨ao, a, oa, ca, rfl, hao, hat⟩ := hr.form_Tik
  have HA := Lib.hid hao
  have HL := Lib.hid hat
  clear hr hao hat
  by_cases hall : saOk p l d = true
  · have h3 := hall
    rw [hd] at h3
    simp only [Bool.and_eq_true] at h3
    obtain ⟨⟨h1, h2⟩, h4⟩ := h3
    have hc := tikL_yes h2
    have h12 := hc.len
    have HM := Lib.hid (fun k => saN_bd h1 l d k)
    have HPB := Lib.hid (fun s => priT_bd h1 s)
    have HI := Lib.hid (fun j (h : j < l.length) => (isT_iff _).1 (hc.one h))
    rw [h1] at EP
    rw [h2] at E0
    rw [h4] at E1
    have HN := Lib.hid (sa_yes hall)
    have HOK := Lib.hid hall
    clear hall h1 h2 h4 hd hc
    go_enter Tryd.func39, Tryd.ntmps39
    go_wp2_with fail
    generalize hW0 : w.alloc (.cells #[.int .i64 p.a, .int .i64 p.b, .int .i64 p.c, .int .i64 p.d] 52) = W0 at *
    have hs0 : W0.heap.size = w.heap.size + 1 := by rw [← hW0]; simp
    have B0 : Hid (Below w.heap.size w W0) := Lib.hid (by rw [← hW0]; exact (Below.refl _ _).alloc (Nat.le_refl _) _)
    obtain ⟨d0, d1, d2, d3⟩ := HX.out W0 (Below.refl _ _)
    clear hW0
    refine (EP.out _).mono ?_
    rintro e w1 ⟨rfl, t1⟩
    have T1 := Lib.hid (B0.out.trans (t1.mono B0.out.size))
    have HX1 := Lib.hid (HX.out w1 (by rw [← hs0]; exact t1))
    have hz1 : w.heap.size < w1.heap.size := by have := t1.size; omega
    clear t1 d0 d1 d2 d3
    go_wp2_with fail
    refine (E0.out _ (HR.out.below T1.out rfl) (HTT.out.below T1.out)).mono ?_
    rintro e w2 ⟨rfl, t2⟩
    have T2 := Lib.hid (T1.out.trans (t2.mono T1.out.size))
    have hz2 : w.heap.size < w2.heap.size := by have := t2.size; omega
    have y0 := (t2.cell (p := ⟨w.heap.size, 0, none⟩) hz1).trans HX1.out.1
    have y1 := (t2.cell (p := ⟨w.heap.size, 1, none⟩) hz1).trans HX1.out.2.1
    have y2 := (t2.cell (p := ⟨w.heap.size, 2, none⟩) hz1).trans HX1.out.2.2.1
    have y3 := (t2.cell (p := ⟨w.heap.size, 3, none⟩) hz1).trans HX1.out.2.2.2
    clear t2
    go_wp2_with fail
    refine (E1.out _).mono ?_
    rintro e w3 ⟨rfl, rfl⟩
    have EK := Lib.hid (fun W => pricesOfKinds_c p W)
    go_wp2_with fail
    refine (EK.out _).mono ?_
    rintro e w4 ⟨rfl, t4⟩
    have T4 := Lib.hid (T2.out.trans (t4.mono T2.out.size))
    clear t4 y0 y1 y2 y3 HX HX1
    obtain ⟨P, hP⟩ : ∃ P, P = w4.heap.size := ⟨_, rfl⟩
    have hbP : (w4.alloc (.cells #[.int .i64 p.a, .int .i64 p.b, .int .i64 p.c, .int .i64 p.d] 103)).heap[P]? = some (.cells #[.int .i64 p.a, .int .i64 p.b, .int .i64 p.c, .int .i64 p.d] 103 (0, 0)) := by rw [hP]; exact heap_alloc_new _ _
    have hPl : P < (w4.alloc (.cells #[.int .i64 p.a, .int .i64 p.b, .int .i64 p.c, .int .i64 p.d] 103)).heap.size := by rw [hP]; simp
    have T8 := Lib.hid (T4.out.alloc T4.out.size (.cells #[.int .i64 p.a, .int .i64 p.b, .int .i64 p.c, .int .i64 p.d] 103))
    go_upto_region 4 with fail
    rw [← hP]
    generalize w4.alloc (.cells #[.int .i64 p.a, .int .i64 p.b, .int .i64 p.c, .int .i64 p.d] 103) = W8 at *
    have HP : Hid (∀ K, K < 4 → W8.cell? ⟨P, K, none⟩ = some (.int .i64 (priT p K))) := Lib.hid (fun K h => cell_of_row _ P K _ _ _ hbP |>.trans (priT_at p K h))
    clear hP hbP
    go_wp2
    go_loopw [9, 29] (fun t i wr => ∃ k : Nat, k ≤ l.length ∧ i = .int .i64 k ∧ t = .int .i64 (saN p l d k) ∧ Hid (Below W8.heap.size W8 wr)) (fun _ i _ => l.length - (intOf i).toNat)
    case atStart => exact ⟨0, by omega, rfl, rfl, Lib.hid (Below.refl _ _)⟩
    case round =>
      obtain ⟨k, hkl, rfl, rfl, hbel⟩ := hrel
      have hbs := hbel.out.size
      by_cases hlt : k < l.length
      · obtain ⟨rfl, hla, hlm⟩ := HA.out (by omega)
        have TW := Lib.hid (T8.out.trans (hbel.out.mono T8.out.size))
        obtain ⟨c0, c1, c2, c3, c4⟩ := (HL.out.below TW.out hla) k hlt
        obtain ⟨K, hK, hs⟩ := kind_of ((inR_iff (gth l k).s 0 3).2 (HI.out k hlt).2.1)
        rw [hs] at c1
        have HX8 := Lib.hid (fun h => saN_yes (p := p) (l := l) (d := d) (n := k) h)
        have HX9 := Lib.hid (fun h => saN_no (p := p) (l := l) (d := d) (n := k) h)
        have hpb := HPB.out K
        have hgm := HM.out k
        rw [hs] at HX8
        generalize saN p l d k = S at *
        clear hs
        generalize gth l k = D at *
        have e1 : IntKind.i64.wrap (S + priT p K) = S + priT p K := IntWalk.i64_in _ (by omega)
        have k1 : (0 : Int) ≤ (K : Int) := by omega
        have k2 : (K : Int) < 4 := by omega
        have q0 := (hbel.out.cell (p := ⟨P, K, none⟩) hPl).trans (HP.out K hK)
        have hPr : P < wr.heap.size := by omega
        generalize priT p K = PK at *
        by_cases hst : D.w = d
        · have t1 : (D.w == d) = true := by simpa using hst
          have HS := Lib.hid (HX8.out hst)
          clear hst
          go_wp2
          go_roundw
          case rel => exact ⟨k + 1, by omega, by go_num, by rw [HS.out], Lib.hid (hbel.out.alloc hbs _)⟩
          case measure => simp [intOf]; omega
        · have t1 : (D.w == d) = false := by simpa using hst
          have HS := Lib.hid (HX9.out hst)
          clear hst
          go_wp2
          go_roundw
          case rel => exact ⟨k + 1, by omega, by go_num, by rw [HS.out], Lib.hid (hbel.out.alloc hbs _)⟩
          case measure => simp [intOf]; omega
      · obtain rfl : k = l.length := by omega
        go_wp2
        go_ret2
        exact ⟨ret_p HN.out.symm HOK.out.symm, T8.out.trans (hbel.out.mono T8.out.size)⟩
  · have HK : Hid (saOk p l d = false) := Lib.hid (by simpa using hall)
    have HN := Lib.hid (sa_no HK.out)
    have HD : Hid ((prcV p && tikL l && inR d 0 999) = false) := Lib.hid (by rw [← hd]; exact HK.out)
    clear hall hd HX
    generalize saOk p l d = SO at *
    generalize saV p l d = SV at *
    generalize prcV p = B1 at *
    generalize tikL l = B2 at *
    generalize inR d 0 999 = B3 at *
    go_enter Tryd.func39, Tryd.ntmps39
    go_wp2_with fail
    refine (EP.out _).mono ?_
    rintro e w1 ⟨rfl, t1⟩
    have T1 := Lib.hid (((Below.refl w.heap.size w).alloc (Nat.le_refl _) _).trans (t1.mono (by simp)))
    clear t1
    cases B1 with
    | false =>
      go_wp2
      go_ret2
      exact ⟨ret_p HN.out.symm HK.out.symm, T1.out⟩
    | true =>
      go_wp2_with fail
      refine (E0.out _ (HR.out.below T1.out rfl) (HTT.out.below T1.out)).mono ?_
      rintro e w2 ⟨rfl, t2⟩
      have T2 := Lib.hid (T1.out.trans (t2.mono T1.out.size))
      clear t2
      cases B2 with
      | false =>
        go_wp2
        go_ret2
        exact ⟨ret_p HN.out.symm HK.out.symm, T2.out⟩
      | true =>
        cases B3 with
        | false =>
          go_wp2_with fail
          refine (E1.out _).mono ?_
          rintro e w3 ⟨rfl, rfl⟩
          go_wp2
          go_ret2
          exact ⟨ret_p HN.out.symm HK.out.symm, T2.out⟩
        | true => have := HD.out; cases this
set_option maxRecDepth 100000 in
set_option maxHeartbeats 4000000 in
theorem specSalesOn_c (p : Prc) (v : Value) (l : List Tik) (d : Int) (w : World) (hr : Rs w v l.length (tiks l)) (hn : l.length ≤ 1048576) :
    Calls Tryd.prog 40 #[.agg #[.int .i64 p.a, .int .i64 p.b, .int .i64 p.c, .int .i64 p.d], v, .int .i64 d] w fun e w' => e = .returned (.tuple #[.int .i64 (saV p l d), .bool (saOk p l d)]) ∧ Below w.heap.size w w' := by
  have EP := Lib.hid (fun W => l11Prices_c p W)
  have E0 := Lib.hid (fun W h => l11Good_c v l W h (by omega))
  have E1 := Lib.hid (fun W => l11Day_c d W)
  have hd : saOk p l d = (prcV p && tikL l && inR d 0 999) := rfl
  have HX := Lib.hid (box_Prc w p 52 _ rfl)
  have HR := Lib.hid hr
  obtain ⟨ao, a, oa, ca, rfl, hao, hat⟩ := hr.form_Tik
  have HA := Lib.hid hao
  have HL := Lib.hid hat
  clear hr hao hat
  by_cases hall : saOk p l d = true
  · have h3 := hall
    rw [hd] at h3
    simp only [Bool.and_eq_true] at h3
    obtain ⟨⟨h1, h2⟩, h4⟩ := h3
    have hc := tikL_yes h2
    have h12 := hc.len
    have HM := Lib.hid (fun k => saN_bd h1 l d k)
    have HPB := Lib.hid (fun s => priT_bd h1 s)
    have HI := Lib.hid (fun j (h : j < l.length) => (isT_iff _).1 (hc.one h))
    rw [h1] at EP
    rw [h2] at E0
    rw [h4] at E1
    have HN := Lib.hid (sa_yes hall)
    have HOK := Lib.hid hall
    clear hall h1 h2 h4 hd hc
    go_enter Tryd.func40, Tryd.ntmps40
    go_wp2_with fail
    generalize hW0 : w.alloc (.cells #[.int .i64 p.a, .int .i64 p.b, .int .i64 p.c, .int .i64 p.d] 52) = W0 at *
    have hs0 : W0.heap.size = w.heap.size + 1 := by rw [← hW0]; simp
    have B0 : Hid (Below w.heap.size w W0) := Lib.hid (by rw [← hW0]; exact (Below.refl _ _).alloc (Nat.le_refl _) _)
    obtain ⟨d0, d1, d2, d3⟩ := HX.out W0 (Below.refl _ _)
    clear hW0
    refine (EP.out _).mono ?_
    rintro e w1 ⟨rfl, t1⟩
    have T1 := Lib.hid (B0.out.trans (t1.mono B0.out.size))
    have HX1 := Lib.hid (HX.out w1 (by rw [← hs0]; exact t1))
    have hz1 : w.heap.size < w1.heap.size := by have := t1.size; omega
    clear t1 d0 d1 d2 d3
    go_wp2_with fail
    refine (E0.out _ (HR.out.below T1.out rfl)).mono ?_
    rintro e w2 ⟨rfl, t2⟩
    have T2 := Lib.hid (T1.out.trans (t2.mono T1.out.size))
    have hz2 : w.heap.size < w2.heap.size := by have := t2.size; omega
    have y0 := (t2.cell (p := ⟨w.heap.size, 0, none⟩) hz1).trans HX1.out.1
    have y1 := (t2.cell (p := ⟨w.heap.size, 1, none⟩) hz1).trans HX1.out.2.1
    have y2 := (t2.cell (p := ⟨w.heap.size, 2, none⟩) hz1).trans HX1.out.2.2.1
    have y3 := (t2.cell (p := ⟨w.heap.size, 3, none⟩) hz1).trans HX1.out.2.2.2
    clear t2
    go_wp2_with fail
    refine (E1.out _).mono ?_
    rintro e w3 ⟨rfl, rfl⟩
    clear HX HX1
    have HY0 := Lib.hid y0
    have HY1 := Lib.hid y1
    have HY2 := Lib.hid y2
    have HY3 := Lib.hid y3
    clear y0 y1 y2 y3
    go_wp2
    go_loopw [8, 9] (fun t i wr => ∃ k : Nat, k ≤ l.length ∧ i = .int .i64 k ∧ t = .int .i64 (saN p l d k) ∧ Hid (Below w3.heap.size w3 wr)) (fun _ i _ => l.length - (intOf i).toNat)
    case atStart => exact ⟨0, by omega, rfl, rfl, Lib.hid (Below.refl _ _)⟩
    case round =>
      obtain ⟨k, hkl, rfl, rfl, hbel⟩ := hrel
      have hbs := hbel.out.size
      by_cases hlt : k < l.length
      · obtain ⟨rfl, hla, hlm⟩ := HA.out (by omega)
        have TW := Lib.hid (T2.out.trans (hbel.out.mono T2.out.size))
        obtain ⟨c0, c1, c2, c3, c4⟩ := (HL.out.below TW.out hla) k hlt
        have z0 := (hbel.out.cell (p := ⟨w.heap.size, 0, none⟩) hz2).trans HY0.out
        have z1 := (hbel.out.cell (p := ⟨w.heap.size, 1, none⟩) hz2).trans HY1.out
        have z2 := (hbel.out.cell (p := ⟨w.heap.size, 2, none⟩) hz2).trans HY2.out
        have z3 := (hbel.out.cell (p := ⟨w.heap.size, 3, none⟩) hz2).trans HY3.out
        obtain ⟨K, hK, hs⟩ := kind_of ((inR_iff (gth l k).s 0 3).2 (HI.out k hlt).2.1)
        rw [hs] at c1
        have HX8 := Lib.hid (fun h => saN_yes (p := p) (l := l) (d := d) (n := k) h)
        have HX9 := Lib.hid (fun h => saN_no (p := p) (l := l) (d := d) (n := k) h)
        have hpb := HPB.out K
        have hgm := HM.out k
        rw [hs] at HX8
        generalize saN p l d k = S at *
        clear hs
        generalize gth l k = D at *
        have e1 : IntKind.i64.wrap (S + priT p K) = S + priT p K := IntWalk.i64_in _ (by omega)
        have k1 : (0 : Int) ≤ (K : Int) := by omega
        have k2 : (K : Int) < 4 := by omega
        by_cases hst : D.w = d
        · have t1 : (D.w == d) = true := by simpa using hst
          have HS := Lib.hid (HX8.out hst)
          clear hst
          have k3 := hK
          have hlaw : a < wr.heap.size := by have := TW.out.size; omega
          have hwr : w.heap.size < wr.heap.size := by omega
          rcases (by omega : K = 0 ∨ K = 1 ∨ K = 2 ∨ K = 3) with rfl | rfl | rfl | rfl
          · have e2 : IntKind.i64.wrap (S + p.a) = S + p.a := e1
            clear e1
            go_upto_region 8 with fail
            go_region
            go_wp2
            go_roundw
            case rel => exact ⟨k + 1, by omega, by go_num, by rw [HS.out]; rfl, Lib.hid (by first | exact below_drewN (hbel.out.alloc hbs _) _ | exact (below_drewN (hbel.out.alloc hbs _) 1) | exact Below.drew (hbel.out.alloc hbs _))⟩
            case measure => simp [intOf]; omega
          · have e2 : IntKind.i64.wrap (S + p.b) = S + p.b := e1
            clear e1
            go_upto_region 8 with fail
            go_region
            go_wp2
            go_roundw
            case rel => exact ⟨k + 1, by omega, by go_num, by rw [HS.out]; rfl, Lib.hid (by first | exact below_drewN (hbel.out.alloc hbs _) _ | exact (below_drewN (hbel.out.alloc hbs _) 1) | exact Below.drew (hbel.out.alloc hbs _))⟩
            case measure => simp [intOf]; omega
          · have e2 : IntKind.i64.wrap (S + p.c) = S + p.c := e1
            clear e1
            go_upto_region 8 with fail
            go_region
            go_wp2
            go_roundw
            case rel => exact ⟨k + 1, by omega, by go_num, by rw [HS.out]; rfl, Lib.hid (by first | exact below_drewN (hbel.out.alloc hbs _) _ | exact (below_drewN (hbel.out.alloc hbs _) 1) | exact Below.drew (hbel.out.alloc hbs _))⟩
            case measure => simp [intOf]; omega
          · have e2 : IntKind.i64.wrap (S + p.d) = S + p.d := e1
            clear e1
            go_upto_region 8 with fail
            go_region
            go_wp2
            go_roundw
            case rel => exact ⟨k + 1, by omega, by go_num, by rw [HS.out]; rfl, Lib.hid (by first | exact below_drewN (hbel.out.alloc hbs _) _ | exact (below_drewN (hbel.out.alloc hbs _) 1) | exact Below.drew (hbel.out.alloc hbs _))⟩
            case measure => simp [intOf]; omega
        · have t1 : (D.w == d) = false := by simpa using hst
          have HS := Lib.hid (HX9.out hst)
          clear hst
          go_wp2
          go_roundw
          case rel => exact ⟨k + 1, by omega, by go_num, by rw [HS.out], hbel⟩
          case measure => simp [intOf]; omega
      · obtain rfl : k = l.length := by omega
        go_wp2
        go_ret2
        exact ⟨ret_p HN.out.symm HOK.out.symm, T2.out.trans (hbel.out.mono T2.out.size)⟩
  · have HK : Hid (saOk p l d = false) := Lib.hid (by simpa using hall)
    have HN := Lib.hid (sa_no HK.out)
    have HD : Hid ((prcV p && tikL l && inR d 0 999) = false) := Lib.hid (by rw [← hd]; exact HK.out)
    clear hall hd HX
    generalize saOk p l d = SO at *
    generalize saV p l d = SV at *
    generalize prcV p = B1 at *
    generalize tikL l = B2 at *
    generalize inR d 0 999 = B3 at *
    go_enter Tryd.func40, Tryd.ntmps40
    go_wp2_with fail
    refine (EP.out _).mono ?_
    rintro e w1 ⟨rfl, t1⟩
    have T1 := Lib.hid (((Below.refl w.heap.size w).alloc (Nat.le_refl _) _).trans (t1.mono (by simp)))
    clear t1
    cases B1 with
    | false =>
      go_wp2
      go_ret2
      exact ⟨ret_p HN.out.symm HK.out.symm, T1.out⟩
    | true =>
      go_wp2_with fail
      refine (E0.out _ (HR.out.below T1.out rfl)).mono ?_
      rintro e w2 ⟨rfl, t2⟩
      have T2 := Lib.hid (T1.out.trans (t2.mono T1.out.size))
      clear t2
      cases B2 with
      | false =>
        go_wp2
        go_ret2
        exact ⟨ret_p HN.out.symm HK.out.symm, T2.out⟩
      | true =>
        cases B3 with
        | false =>
          go_wp2_with fail
          refine (E1.out _).mono ?_
          rintro e w3 ⟨rfl, rfl⟩
          go_wp2
          go_ret2
          exact ⟨ret_p HN.out.symm HK.out.symm, T2.out⟩
        | true => have := HD.out; cases this
end Go.Proofs.YtpknodbkjjcdjaaDoor
