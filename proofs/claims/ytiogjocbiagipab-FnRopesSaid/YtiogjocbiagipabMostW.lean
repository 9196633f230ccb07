/- The walk of impl.mostBroken, a sliding window. Condition: sizes. -/
import Derived.Test.YtiogjocbiagipabBrokenW
namespace Go.Proofs.Ytiogjocbiagipab
open Go.RowKit
set_option linter.unusedVariables false
set_option maxRecDepth 100000 in
set_option maxHeartbeats 8000000 in
theorem mostBroken_c (v : Value) (l : List Dmg) (len : Int) (w : World) (hr : Rs w v l.length (dmgs l)) (hs : Srt l) (h2 : 1 ≤ len ∧ len ≤ 100000) :
    Calls Try.prog 54 #[v, .int .i64 len] w fun e w' => e = .returned (.tuple #[.int .i64 (mst l len (-1) l.length).1, .int .i64 (mst l len (-1) l.length).2]) ∧ Below w.heap.size w w' := by
  obtain ⟨ao, a, oa, ca, rfl, hao, hat⟩ := hr.form_Dmg
  have HA := Lib.hid hao
  have HL := Lib.hid hat
  have HS := Lib.hid hs
  have H2 := Lib.hid h2
  have h15 := hs.len
  clear hr hao hat hs h2
  go_enter Try.func54, Try.ntmps54
  go_wp2
  go_loopw [6, 7, 8, 9, 14] (fun at_ m br en i wr => ∃ (k e : Nat), k ≤ l.length ∧ i = .int .i64 k ∧ at_ = .int .i64 (mst l len (-1) k).1 ∧ m = .int .i64 (mst l len (-1) k).2 ∧ br = .int .i64 (pre l e - pre l k) ∧ en = .int .i64 (e : Int) ∧ (k ≤ e ∧ e ≤ l.length) ∧ Hid (∀ i j, k ≤ i → i < l.length → j < e → (gth l j).a < (gth l i).a + len) ∧ Hid (Below w.heap.size w wr)) (fun _ _ _ _ i _ => l.length - (intOf i).toNat)
  case atStart => exact ⟨0, 0, Nat.zero_le _, rfl, rfl, rfl, by simp [pre_zero], rfl, ⟨Nat.le_refl _, Nat.zero_le _⟩, Lib.hid (fun i j _ _ h => by omega), Lib.hid (Below.refl _ _)⟩
  case round =>
    obtain ⟨k, e, hk, rfl, rfl, rfl, rfl, rfl, ⟨hke, hel⟩, HIn, hbl⟩ := hrel
    have hszr := hbl.out.size
    by_cases hlt : k < l.length
    · obtain ⟨rfl, hla, hlm⟩ := HA.out (by omega)
      obtain ⟨c0, c1, c2⟩ := (HL.out.below hbl.out hla) k hlt
      have hlaw : a < wr.heap.size := by omega
      have HB0 := Lib.hid (HS.out.bd k hlt)
      obtain ⟨D, hD⟩ : ∃ D, D = gth l k := ⟨_, rfl⟩
      have HDd := Lib.hid hD
      rw [← hD] at c0 c1 c2 HB0
      clear hD
      generalize hM1 : (mst l len (-1) k).1 = M1
      generalize hM2 : (mst l len (-1) k).2 = M2
      have HM := Lib.hid (And.intro hM1 hM2)
      clear hM1 hM2
      have HI1 : Hid (∀ j, j < e → (gth l j).a < (gth l k).a + len) := Lib.hid (fun j hj => HIn.out k j (Nat.le_refl _) hlt hj)
      obtain ⟨Z, hZ⟩ : ∃ Z, Z = D.a + len := ⟨_, rfl⟩
      have HZ := Lib.hid hZ
      have wz : IntKind.i64.wrap (D.a + len) = Z := by rw [hZ]; exact IntWalk.i64_in _ (by have := HB0.out; have := H2.out; omega)
      clear hZ
      go_wp2_with fail
      have hbx := box_Dmg wr D 34 _ rfl _ (Below.refl _ _)
      generalize hW0 : wr.alloc (.cells #[.int .i64 D.a, .int .i64 D.s, .int .i64 D.w] 34) = W0 at *
      have HWB : Hid (Below wr.heap.size wr W0) := Lib.hid (by rw [← hW0]; exact (Below.refl _ _).alloc (Nat.le_refl _) _)
      obtain ⟨d0, d1, d2⟩ := hbx
      clear hW0 c0 c1 c2
      go_loopw [8, 9] (fun br en W' => ∃ (e' m : Nat), e' ≤ l.length ∧ e ≤ e' ∧ br = .int .i64 (pre l e' - pre l k) ∧ en = .int .i64 (e' : Int) ∧ W' = W0.drewN m ∧ Hid (∀ j, j < e' → (gth l j).a < (gth l k).a + len)) (fun _ en _ => l.length - (intOf en).toNat)
      case atStart => exact ⟨e, 0, hel, Nat.le_refl _, rfl, rfl, rfl, HI1⟩
      case round =>
        obtain ⟨e', m, he', hee, rfl, rfl, rfl, HI2⟩ := hrel
        by_cases hlt2 : e' < l.length
        · have hlaw2 : a < W0.heap.size := by have := HWB.out.size; omega
          obtain ⟨q0, q1, q2⟩ := (HL.out.below (hbl.out.trans (HWB.out.mono hszr)) hla) e' hlt2
          obtain ⟨E, hE⟩ : ∃ E, E = gth l e' := ⟨_, rfl⟩
          rw [← hE] at q0 q1 q2
          have HEd := Lib.hid hE
          clear hE
          by_cases hin : E.a < Z
          · have t1 : decide (E.a < Z) = true := by simpa using hin
            have HI3 : Hid (∀ j, j < e' + 1 → (gth l j).a < (gth l k).a + len) := Lib.hid (fun j hj => by
              by_cases x : j = e'
              · subst x; rw [← HEd.out, ← HDd.out, ← HZ.out]; exact hin
              · exact HI2.out j (by omega))
            have hps := pre_succ (l := l) hlt2
            rw [← HEd.out] at hps
            have hbe := HS.out.bd e' hlt2
            rw [← HEd.out] at hbe
            have hpe := pre_bd HS.out he'
            have hpk := pre_bd HS.out hk
            have HP1 : Hid (pre l (e' + 1) - pre l k = pre l e' - pre l k + E.w) := Lib.hid (by rw [hps]; omega)
            clear hps
            have hS : -600 ≤ pre l e' - pre l k ∧ pre l e' - pre l k ≤ 600 := by omega
            generalize pre l e' - pre l k = S at *
            have w3 : IntKind.i64.wrap (S + E.w) = S + E.w := IntWalk.i64_in _ (by omega)
            clear hpe hpk hin hbe hS
            go_wp2_with fail
            go_quiet (fail)
            go_wp2
            go_roundw
            case rel => exact ⟨e' + 1, m + nq, by omega, by omega, by rw [HP1.out], by go_num, rfl, HI3⟩
            case measure => simp [intOf]; omega
          · have t1 : decide (E.a < Z) = false := by simpa using hin
            have HEZ : Hid (Z ≤ E.a) := Lib.hid (by omega)
            clear hin
            go_wp2_with fail
            go_quiet (fail)
            have HOut : Hid (∀ j, e' ≤ j → j < l.length → (gth l k).a + len ≤ (gth l j).a) := Lib.hid (fun j h1 h2 => by
              have h3 := HS.out.mono e' j h1 h2
              have h4 := HEZ.out
              rw [HZ.out, HEd.out, HDd.out] at h4
              omega)
            have HKe : Hid (k + 1 ≤ e') := Lib.hid (by
              apply Classical.byContradiction
              intro hc
              have h1 := HOut.out k (by omega) hlt
              have := H2.out
              omega)
            have HNext : Hid (∀ i j, k + 1 ≤ i → i < l.length → j < e' → (gth l j).a < (gth l i).a + len) := Lib.hid (fun i j h1 h2 h3 => by
              have := HI2.out j h3
              have := HS.out.mono k i (by omega) h2
              omega)
            have hss := slide_step HS.out (len := len) (by have := HKe.out; omega) he' hlt HI2.out HOut.out
            rw [HM.out.2] at hss
            have hps := pre_succ (l := l) hlt
            rw [← HDd.out] at hss hps
            have hpe := pre_bd HS.out he'
            have hpk := pre_bd HS.out hk
            have hpm := pre_mono HS.out k e' (by have := HKe.out; omega) he'
            have HP1 : Hid (pre l e' - pre l (k + 1) = pre l e' - pre l k - D.w) := Lib.hid (by rw [hps]; omega)
            clear hps
            have hSb : 0 ≤ pre l e' - pre l k ∧ pre l e' - pre l k ≤ 600 := by omega
            generalize pre l e' - pre l k = S at *
            have w3 : IntKind.i64.wrap (S - D.w) = S - D.w := IntWalk.i64_in _ (by have := HB0.out; omega)
            clear hpe hpk hpm hSb
            by_cases hbig : M2 < S
            · rw [if_pos hbig] at hss
              have HY := Lib.hid hss
              clear hss
              go_wp2
              go_roundw
              case rel =>
                refine ⟨k + 1, e', by omega, by go_num, by rw [HY.out], by rw [HY.out], by rw [HP1.out], rfl, ⟨by have := HKe.out; omega, he'⟩, HNext, Lib.hid (hbl.out.trans ((below_drewN HWB.out _).mono (by omega)))⟩
              case measure => simp [intOf]; omega
            · rw [if_neg hbig] at hss
              have HY := Lib.hid hss
              clear hss
              go_wp2
              go_roundw
              case rel =>
                refine ⟨k + 1, e', by omega, by go_num, by rw [HY.out, HM.out.1], by rw [HY.out, HM.out.2], by rw [HP1.out], rfl, ⟨by have := HKe.out; omega, he'⟩, HNext, Lib.hid (hbl.out.trans ((below_drewN HWB.out _).mono (by omega)))⟩
              case measure => simp [intOf]; omega
        · have t1 : decide ((e' : Int) < (l.length : Int)) = false := by simp; omega
          go_wp2_with fail
          go_quiet (fail)
          have HOut : Hid (∀ j, e' ≤ j → j < l.length → (gth l k).a + len ≤ (gth l j).a) := Lib.hid (fun j h1 h2 => by omega)
          have HKe : Hid (k + 1 ≤ e') := Lib.hid (by
            apply Classical.byContradiction
            intro hc
            have h1 := HOut.out k (by omega) hlt
            have := H2.out
            omega)
          have HNext : Hid (∀ i j, k + 1 ≤ i → i < l.length → j < e' → (gth l j).a < (gth l i).a + len) := Lib.hid (fun i j h1 h2 h3 => by
            have := HI2.out j h3
            have := HS.out.mono k i (by omega) h2
            omega)
          have hss := slide_step HS.out (len := len) (by have := HKe.out; omega) he' hlt HI2.out HOut.out
          rw [HM.out.2] at hss
          have hps := pre_succ (l := l) hlt
          rw [← HDd.out] at hss hps
          have hpe := pre_bd HS.out he'
          have hpk := pre_bd HS.out hk
          have hpm := pre_mono HS.out k e' (by have := HKe.out; omega) he'
          have HP1 : Hid (pre l e' - pre l (k + 1) = pre l e' - pre l k - D.w) := Lib.hid (by rw [hps]; omega)
          clear hps
          have hSb : 0 ≤ pre l e' - pre l k ∧ pre l e' - pre l k ≤ 600 := by omega
          generalize pre l e' - pre l k = S at *
          have w3 : IntKind.i64.wrap (S - D.w) = S - D.w := IntWalk.i64_in _ (by have := HB0.out; omega)
          clear hpe hpk hpm hSb
          by_cases hbig : M2 < S
          · rw [if_pos hbig] at hss
            have HY := Lib.hid hss
            clear hss
            go_wp2
            go_roundw
            case rel =>
              refine ⟨k + 1, e', by omega, by go_num, by rw [HY.out], by rw [HY.out], by rw [HP1.out], rfl, ⟨by have := HKe.out; omega, he'⟩, HNext, Lib.hid (hbl.out.trans ((below_drewN HWB.out _).mono (by omega)))⟩
            case measure => simp [intOf]; omega
          · rw [if_neg hbig] at hss
            have HY := Lib.hid hss
            clear hss
            go_wp2
            go_roundw
            case rel =>
              refine ⟨k + 1, e', by omega, by go_num, by rw [HY.out, HM.out.1], by rw [HY.out, HM.out.2], by rw [HP1.out], rfl, ⟨by have := HKe.out; omega, he'⟩, HNext, Lib.hid (hbl.out.trans ((below_drewN HWB.out _).mono (by omega)))⟩
            case measure => simp [intOf]; omega
    · obtain rfl : k = l.length := by omega
      go_wp2
      go_ret2
      exact ⟨rfl, hbl.out⟩
end Go.Proofs.Ytiogjocbiagipab
