/- The specification's CheapestFor. No condition. -/
import Derived.Test.YtpknodbkjjcdjaaDoorChpI
import Derived.Test.YtpknodbkjjcdjaaDoorTksUp
namespace Go.Proofs.YtpknodbkjjcdjaaDoor
open Go.RowKit
set_option linter.unusedVariables false
/-- The list that is kept. -/
def chL (z : ChS) : List Int := if z.least < 0 then [] else [z.s, z.r, z.d, z.t]
theorem chL_zero : chL ch0 = [] := rfl
theorem chL_new {l s r d t : Int} (h : 0 ≤ l) : chL ⟨l, s, r, d, t⟩ = [s, r, d, t] := by unfold chL; rw [if_neg (by show ¬ l < 0; omega)]
theorem chT_need (u v s r d : Int) : chT u v s r d = ((if (if u - r - 50 * d < 0 then 0 else u - r - 50 * d) + (if v - r - 50 * d < 0 then 0 else v - r - 50 * d) - s < 0 then 0 else (if u - r - 50 * d < 0 then 0 else u - r - 50 * d) + (if v - r - 50 * d < 0 then 0 else v - r - 50 * d) - s) + 9) / 10 := by
  unfold chT
  have h : ∀ x : Int, max 0 x = if x < 0 then 0 else x := fun x => by split <;> omega
  rw [h, h, h]
theorem chZ_ok {p : Prc} {u v : Int} (hp : prcV p = true) (hu : u ≤ 20) (hv : v ≤ 20) : chL (chZ p u v) = [(chZ p u v).s, (chZ p u v).r, (chZ p u v).d, (chZ p u v).t] := by
  have h := (ChOk.sings hp hu hv (m := 2) (by omega) 21 (Nat.le_refl _)).2 (by omega)
  unfold chL
  rw [if_neg (by show ¬ (chZ p u v).least < 0; unfold chZ; omega)]
theorem own_one4 (w : World) (a b c d : Int) (T : TypeId) : (w.alloc (.cells #[.int .i64 a, .int .i64 b, .int .i64 c, .int .i64 d] T)).ownsRow w.heap.size T 1 (.slice (some ⟨w.heap.size, 0, none⟩) 4 4) 4 (intVs [a, b, c, d]) :=
  own_arr4 (heap_alloc_new _ _) (Nat.le_refl _)
set_option maxRecDepth 100000 in
set_option maxHeartbeats 4000000 in
theorem specCheapestFor_c (p : Prc) (u v : Int) (w : World) :
    Calls Tryd.prog 37 #[.agg #[.int .i64 p.a, .int .i64 p.b, .int .i64 p.c, .int .i64 p.d], .int .i64 u, .int .i64 v] w fun e w' => ∃ g, e = .returned (.tuple #[g, .int .i64 (chV p u v), .bool (chOk p u v)]) ∧ w'.ownsRow w.heap.size 3 1 g (chR p u v).length (intVs (chR p u v)) ∧ Below w.heap.size w w' := by
  by_cases hall : chOk p u v = true
  · obtain ⟨hpv, hu, hv⟩ := (chOk_iff p u v).1 hall
    have HN := Lib.hid (ch_yes hall)
    have HK := Lib.hid hall
    have HPV := Lib.hid hpv
    have EP := Lib.hid (fun W => l11Prices_c p W)
    have EU := Lib.hid (fun W => l1In_c u 0 20 W)
    have EV := Lib.hid (fun W => l1In_c v 0 20 W)
    rw [hpv] at EP
    rw [(inR_iff u 0 20).2 hu] at EU
    rw [(inR_iff v 0 20).2 hv] at EV
    have HCL2 := Lib.hid (chZ_ok hpv hu.2 hv.2)
    have HX := Lib.hid (box_Prc w p 52 _ rfl)
    clear hpv hall
    go_enter Tryd.func37, Tryd.ntmps37
    go_wp2_with fail
    generalize hW0 : w.alloc (.cells #[.int .i64 p.a, .int .i64 p.b, .int .i64 p.c, .int .i64 p.d] 52) = W0 at *
    have hs0 : W0.heap.size = w.heap.size + 1 := by rw [← hW0]; simp
    have B0 : Hid (Below w.heap.size w W0) := Lib.hid (by rw [← hW0]; exact (Below.refl _ _).alloc (Nat.le_refl _) _)
    obtain ⟨d0, d1, d2, d3⟩ := HX.out W0 (Below.refl _ _)
    clear hW0
    refine (EP.out _).mono ?_
    rintro e w1 ⟨rfl, t1⟩
    have T2 := Lib.hid (B0.out.trans (t1.mono B0.out.size))
    obtain ⟨y0, y1, y2, y3⟩ := HX.out w1 (by rw [← hs0]; exact t1)
    have HY0 := Lib.hid y0
    have HY1 := Lib.hid y1
    have HY2 := Lib.hid y2
    have HY3 := Lib.hid y3
    have hz2 : w.heap.size < w1.heap.size := by have := t1.size; omega
    clear t1 d0 d1 d2 d3 HX y0 y1 y2 y3
    go_wp2_with fail
    refine (EU.out _).mono ?_
    rintro e w2 ⟨rfl, rfl⟩
    go_wp2_with fail
    refine (EV.out _).mono ?_
    rintro e w3 ⟨rfl, rfl⟩
    have HO3 := Lib.hid (World.ownsRow_made w3 #[] 0 (base := w3.heap.size) (e := 3) (size := 1) (Nat.le_refl _) (by decide) rfl)
    have HT3 := Lib.hid ((Below.refl w3.heap.size w3).alloc (Nat.le_refl _) (.cells #[] 3))
    go_wp2
    go_loopw [9, 10, 11] (fun o t i wr => ∃ n : Nat, n ≤ 21 ∧ i = .int .i64 n ∧ t = .int .i64 (chS 2 p u v n).least ∧ wr.ownsRow w3.heap.size 3 1 o (chL (chS 2 p u v n)).length (intVs (chL (chS 2 p u v n))) ∧ Hid (Below w3.heap.size w3 wr)) (fun _ _ i _ => 21 - (intOf i).toNat)
    case atStart => exact ⟨0, by omega, rfl, by rw [chS_zero]; rfl, by rw [chS_zero, chL_zero]; exact HO3.out, HT3⟩
    case round =>
      obtain ⟨n, hn21, rfl, rfl, hown, hbel⟩ := hrel
      have Hn21 := Lib.hid hn21
      have sn1 : IntKind.i64.wrap ((n : Int) + 1) = (n : Int) + 1 := IntWalk.i64_in _ (by omega)
      clear hn21
      by_cases hln : n < 21
      · have HZ1 : Hid (chS 2 p u v (n + 1) = chB 2 p u v n (chS 2 p u v n) 21) := Lib.hid chS_succ
        generalize chS 2 p u v n = Z1 at *
        have HLN := Lib.hid hln
        have ln1 : decide ((n : Int) ≤ 20) = true := by simp; omega
        clear hln
        go_wp2
        go_loopw [9, 10, 12] (fun o t i wr => ∃ b : Nat, b ≤ 21 ∧ i = .int .i64 b ∧ t = .int .i64 (chB 2 p u v n Z1 b).least ∧ wr.ownsRow w3.heap.size 3 1 o (chL (chB 2 p u v n Z1 b)).length (intVs (chL (chB 2 p u v n Z1 b))) ∧ Hid (Below w3.heap.size w3 wr)) (fun _ _ i _ => 21 - (intOf i).toNat)
        case atStart => exact ⟨0, by omega, rfl, by rw [chB_zero], by rw [chB_zero]; exact hown, hbel⟩
        case round =>
          obtain ⟨b, hb21, rfl, rfl, hown, hbel⟩ := hrel
          have Hb21 := Lib.hid hb21
          have sb1 : IntKind.i64.wrap ((b : Int) + 1) = (b : Int) + 1 := IntWalk.i64_in _ (by omega)
          clear hb21
          by_cases hlb : b < 21
          · have HZ2 : Hid (chB 2 p u v n Z1 (b + 1) = chD p u v n b (chB 2 p u v n Z1 b) 2) := Lib.hid chB_succ
            generalize chB 2 p u v n Z1 b = Z2 at *
            have HLB := Lib.hid hlb
            have lb1 : decide ((b : Int) ≤ 20) = true := by simp; omega
            clear hlb
            go_wp2
            go_loopw [9, 10, 13] (fun o t i wr => ∃ k : Nat, k ≤ 2 ∧ i = .int .i64 k ∧ t = .int .i64 (chD p u v n b Z2 k).least ∧ wr.ownsRow w3.heap.size 3 1 o (chL (chD p u v n b Z2 k)).length (intVs (chL (chD p u v n b Z2 k))) ∧ Hid (Below w3.heap.size w3 wr)) (fun _ _ i _ => 2 - (intOf i).toNat)
            case atStart => exact ⟨0, by omega, rfl, by rw [chD_zero], by rw [chD_zero]; exact hown, hbel⟩
            case round =>
              obtain ⟨k, hk2, rfl, rfl, hown, hbel⟩ := hrel
              have Hk2 := Lib.hid hk2
              clear hk2
              by_cases hlk : k < 2
              · skip
                have lk1 : decide ((k : Int) ≤ 1) = true := by simp; omega
                have sk1 : IntKind.i64.wrap ((k : Int) + 1) = (k : Int) + 1 := IntWalk.i64_in _ (by omega)
                have HLK := Lib.hid hlk
                have hln := HLN.out
                have hlb := HLB.out
                have hns : (0 : Int) ≤ (n : Int) ∧ (n : Int) ≤ 20 := by omega
                have hbs2 : (0 : Int) ≤ (b : Int) ∧ (b : Int) ≤ 20 := by omega
                have hks : (0 : Int) ≤ (k : Int) ∧ (k : Int) ≤ 20 := by omega
                clear hln hlb hlk
                have HST : Hid (chD p u v n b Z2 (k + 1) = chU p u v (chD p u v n b Z2 k) n b k) := Lib.hid chD_succ
                have q1 : IntKind.i64.wrap (u - b) = u - b := IntWalk.i64_in _ (by omega)
                have q2 : IntKind.i64.wrap (50 * (k : Int)) = 50 * k := IntWalk.i64_in _ (by omega)
                have q3 : IntKind.i64.wrap (u - b - 50 * k) = u - b - 50 * k := IntWalk.i64_in _ (by omega)
                have q4 : IntKind.i64.wrap (v - b) = v - b := IntWalk.i64_in _ (by omega)
                have q5 : IntKind.i64.wrap (v - b - 50 * k) = v - b - 50 * k := IntWalk.i64_in _ (by omega)
                have EA := Lib.hid (fun W => l1Most11_c 0 (u - b - 50 * k) W)
                have EB := Lib.hid (fun W => l1Most11_c 0 (v - b - 50 * k) W)
                have HTT := chT_need u v n b k
                have hA : 0 ≤ (if u - b - 50 * (k : Int) < 0 then (0 : Int) else u - b - 50 * k) ∧ (if u - b - 50 * (k : Int) < 0 then (0 : Int) else u - b - 50 * k) ≤ 20 := by split <;> omega
                have hB : 0 ≤ (if v - b - 50 * (k : Int) < 0 then (0 : Int) else v - b - 50 * k) ∧ (if v - b - 50 * (k : Int) < 0 then (0 : Int) else v - b - 50 * k) ≤ 20 := by split <;> omega
                generalize (if u - b - 50 * (k : Int) < 0 then (0 : Int) else u - b - 50 * k) = A at *
                generalize (if v - b - 50 * (k : Int) < 0 then (0 : Int) else v - b - 50 * k) = B at *
                have q6 : IntKind.i64.wrap (A + B) = A + B := IntWalk.i64_in _ (by omega)
                have q7 : IntKind.i64.wrap (A + B - n) = A + B - n := IntWalk.i64_in _ (by omega)
                have EN := Lib.hid (fun W => l1Most11_c 0 (A + B - n) W)
                have hN : 0 ≤ (if A + B - (n : Int) < 0 then (0 : Int) else A + B - n) ∧ (if A + B - (n : Int) < 0 then (0 : Int) else A + B - n) ≤ 40 := by split <;> omega
                generalize (if A + B - (n : Int) < 0 then (0 : Int) else A + B - n) = N at *
                have q8 : IntKind.i64.wrap (N + 9) = N + 9 := IntWalk.i64_in _ (by omega)
                have q9 : (N + 9) / 10 = chT u v n b k := HTT.symm
                have qt : Int.tdiv (N + 9) 10 = chT u v n b k := by rw [HTT]; exact Int.tdiv_eq_ediv_of_nonneg (by omega)
                have htb := chT_bd (u := u) (v := v) (s := n) (r := b) (d := k) (by omega) (by omega) hns.1 hbs2.1 hks.1
                have q10 : IntKind.i64.wrap (chT u v n b k) = chT u v n b k := IntWalk.i64_in _ (by omega)
                have hpb := (prcV_iff p).1 HPV.out
                have m1 := mul_bd hns.1 hns.2 hpb.1.1 hpb.1.2
                have m2 := mul_bd hbs2.1 hbs2.2 hpb.2.1.1 hpb.2.1.2
                have m3 := mul_bd hks.1 hks.2 hpb.2.2.1.1 hpb.2.2.1.2
                have m4 := mul_bd htb.1 htb.2 hpb.2.2.2.1 hpb.2.2.2.2
                have hcb := chC_bd HPV.out hu.2 hv.2 hns hbs2 hks
                have e1 : IntKind.i64.wrap (n * p.a) = n * p.a := IntWalk.i64_in _ (by omega)
                have e2 : IntKind.i64.wrap (b * p.b) = b * p.b := IntWalk.i64_in _ (by omega)
                have e3 : IntKind.i64.wrap (k * p.c) = k * p.c := IntWalk.i64_in _ (by omega)
                have e4 : IntKind.i64.wrap (chT u v n b k * p.d) = chT u v n b k * p.d := IntWalk.i64_in _ (by omega)
                have e5 : IntKind.i64.wrap (n * p.a + b * p.b) = n * p.a + b * p.b := IntWalk.i64_in _ (by omega)
                have e6 : IntKind.i64.wrap (n * p.a + b * p.b + k * p.c) = n * p.a + b * p.b + k * p.c := IntWalk.i64_in _ (by omega)
                have e7 : IntKind.i64.wrap (n * p.a + b * p.b + k * p.c + chT u v n b k * p.d) = n * p.a + b * p.b + k * p.c + chT u v n b k * p.d := IntWalk.i64_in _ (by omega)
                have HUY := Lib.hid (fun h => chU_yes (p := p) (u := u) (v := v) (z := chD p u v n b Z2 k) (s := n) (r := b) (d := k) h)
                have HUN := Lib.hid (fun h => chU_no (p := p) (u := u) (v := v) (z := chD p u v n b Z2 k) (s := n) (r := b) (d := k) h)
                have HCL := Lib.hid (fun (c : Int) (hc : 0 ≤ c) => chL_new (s := n) (r := b) (d := k) (t := chT u v n b k) hc)
                have HCB := Lib.hid hcb.1
                clear m1 m2 m3 m4 hpb hcb htb hns hbs2 hks hA hB hN HTT
                generalize chU p u v (chD p u v n b Z2 k) n b k = ZN at *
                generalize chD p u v n b Z2 k = Z at *
                generalize hCC : chC p u v n b k = CC at *
                have HCC : Hid (n * p.a + b * p.b + k * p.c + chT u v n b k * p.d = CC) := Lib.hid (by rw [← hCC]; rfl)
                clear hCC
                generalize chT u v n b k = TT at *
                rw [HCC.out] at e7
                have hcc := HCC.out
                generalize hzl : Z.least = zl at *
                have HZL := Lib.hid hzl
                clear hzl
                have z0 := (hbel.out.cell (p := ⟨w.heap.size, 0, none⟩) hz2).trans HY0.out
                have z1 := (hbel.out.cell (p := ⟨w.heap.size, 1, none⟩) hz2).trans HY1.out
                have z2 := (hbel.out.cell (p := ⟨w.heap.size, 2, none⟩) hz2).trans HY2.out
                have z3 := (hbel.out.cell (p := ⟨w.heap.size, 3, none⟩) hz2).trans HY3.out
                have HOW := Lib.hid hown
                have HON := Lib.hid (own_mono (own_one4 wr n b k TT 3) hbel.out.size)
                have HBN := Lib.hid (hbel.out.alloc hbel.out.size (.cells #[.int .i64 n, .int .i64 b, .int .i64 k, .int .i64 TT] 3))
                clear hown
                go_wp2_with fail
                refine (EA.out _).mono ?_
                rintro e w5 ⟨rfl, rfl⟩
                go_wp2_with fail
                refine (EB.out _).mono ?_
                rintro e w6 ⟨rfl, rfl⟩
                go_wp2_with fail
                refine (EN.out _).mono ?_
                rintro e w7 ⟨rfl, rfl⟩
                by_cases hl : zl < 0
                · have HE := Lib.hid (HUY.out (.inl hl))
                  have l1 : decide (zl < 0) = true := by simpa using hl
                  clear hl
                  go_wp2
                  go_roundw
                  case rel => exact ⟨k + 1, by (have := HLK.out; omega), by go_num, by rw [HST.out, HE.out], by rw [HST.out, HE.out, HCL.out _ HCB.out]; exact HON.out, HBN⟩
                  case measure => have := HLK.out; simp [intOf]; omega
                · have l1 : decide (zl < 0) = false := by simpa using hl
                  by_cases hl2 : CC < zl
                  · have HE := Lib.hid (HUY.out (.inr hl2))
                    have l2 : decide (CC < zl) = true := by simpa using hl2
                    clear hl hl2
                    go_wp2
                    go_roundw
                    case rel => exact ⟨k + 1, by (have := HLK.out; omega), by go_num, by rw [HST.out, HE.out], by rw [HST.out, HE.out, HCL.out _ HCB.out]; exact HON.out, HBN⟩
                    case measure => have := HLK.out; simp [intOf]; omega
                  · have HE := Lib.hid (HUN.out (fun h => h.elim hl hl2))
                    have l2 : decide (CC < zl) = false := by simpa using hl2
                    clear hl hl2
                    go_wp2
                    go_roundw
                    case rel => exact ⟨k + 1, by (have := HLK.out; omega), by go_num, by rw [HST.out, HE.out, HZL.out], by rw [HST.out, HE.out]; exact HOW.out, hbel⟩
                    case measure => have := HLK.out; simp [intOf]; omega
              · have HE : Hid (chB 2 p u v n Z1 (b + 1) = chD p u v n b Z2 k) := Lib.hid (by rw [HZ2.out, show k = 2 by (have := Hk2.out; omega)])
                generalize chD p u v n b Z2 k = Z3 at *
                have lk1 : decide ((k : Int) ≤ 1) = false := by simp; omega
                clear hlk
                go_wp2
                go_roundw
                case rel => exact ⟨b + 1, by (have := HLB.out; omega), by go_num, by rw [HE.out], by rw [HE.out]; exact hown, hbel⟩
                case measure => have := HLB.out; simp [intOf]; omega
          · have HE : Hid (chS 2 p u v (n + 1) = chB 2 p u v n Z1 b) := Lib.hid (by rw [HZ1.out, show b = 21 by (have := Hb21.out; omega)])
            generalize chB 2 p u v n Z1 b = Z2 at *
            have lb1 : decide ((b : Int) ≤ 20) = false := by simp; omega
            clear hlb
            go_wp2
            go_roundw
            case rel => exact ⟨n + 1, by (have := HLN.out; omega), by go_num, by rw [HE.out], by rw [HE.out]; exact hown, hbel⟩
            case measure => have := HLN.out; simp [intOf]; omega
      · have HE : Hid (chZ p u v = chS 2 p u v n) := Lib.hid (by rw [show n = 21 by (have := Hn21.out; omega)]; rfl)
        rw [HE.out] at HN HCL2
        generalize chS 2 p u v n = Z1 at *
        have ln1 : decide ((n : Int) ≤ 20) = false := by simp; omega
        have HOW := Lib.hid hown
        clear HE hln hown
        go_wp2
        go_ret3
        exact ⟨_, ret_viC HN.out.2.symm HK.out.symm, by rw [HN.out.1, ← HCL2.out]; exact own_mono HOW.out T2.out.size, T2.out.trans (hbel.out.mono T2.out.size)⟩
  · have HK : Hid (chOk p u v = false) := Lib.hid (by simpa using hall)
    have HN := Lib.hid (ch_no HK.out)
    have HD : Hid ((prcV p && inR u 0 20 && inR v 0 20) = false) := Lib.hid HK.out
    have EP := Lib.hid (fun W => l11Prices_c p W)
    have EU := Lib.hid (fun W => l1In_c u 0 20 W)
    have EV := Lib.hid (fun W => l1In_c v 0 20 W)
    clear hall
    generalize chOk p u v = CO at *
    generalize prcV p = B1 at *
    generalize inR u 0 20 = B2 at *
    generalize inR v 0 20 = B3 at *
    go_enter Tryd.func37, Tryd.ntmps37
    go_wp2_with fail
    refine (EP.out _).mono ?_
    rintro e w1 ⟨rfl, t1⟩
    have T1 := Lib.hid (((Below.refl w.heap.size w).alloc (Nat.le_refl _) _).trans (t1.mono (by simp)))
    clear t1
    cases B1 with
    | false =>
      go_wp2
      go_ret3
      exact ⟨_, ret_viC HN.out.2.symm HK.out.symm, by rw [HN.out.1]; exact World.ownsRow_made _ #[] 0 T1.out.size (by decide) rfl, T1.out.alloc T1.out.size _⟩
    | true =>
      go_wp2_with fail
      refine (EU.out _).mono ?_
      rintro e w2 ⟨rfl, rfl⟩
      cases B2 with
      | false =>
        go_wp2
        go_ret3
        exact ⟨_, ret_viC HN.out.2.symm HK.out.symm, by rw [HN.out.1]; exact World.ownsRow_made _ #[] 0 T1.out.size (by decide) rfl, T1.out.alloc T1.out.size _⟩
      | true =>
        cases B3 with
        | false =>
          go_wp2_with fail
          refine (EV.out _).mono ?_
          rintro e w3 ⟨rfl, rfl⟩
          go_wp2
          go_ret3
          exact ⟨_, ret_viC HN.out.2.symm HK.out.symm, by rw [HN.out.1]; exact World.ownsRow_made _ #[] 0 T1.out.size (by decide) rfl, T1.out.alloc T1.out.size _⟩
        | true => have := HD.out; cases this
end Go.Proofs.YtpknodbkjjcdjaaDoor
