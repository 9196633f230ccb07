/- The fastest profile under limits, the specification's. Condition: sizes. -/
import Derived.Test.YtklfipmjdhkkiaaProfFI
namespace Go.Proofs.Ytklfipmjdhkkiaa
open Go.RowKit
set_option linter.unusedVariables false
theorem fu_no4 {l : List Int} {f a : Int} (h : inR f 0 100 = false) : fuOk l f a = false ∧ fuR l f a = [] := by
  have : fuOk l f a = false := by
    cases e : fuOk l f a with
    | false => rfl
    | true =>
      unfold fuOk at e
      rw [Bool.and_eq_true, inR_iff] at e
      have h1 := (fu_parts e.1).1.1
      have h2 := fuB_in e.1 0 (by omega)
      rw [inR_no] at h
      omega
  exact ⟨this, by simp [fuR, this]⟩
theorem bk_stepj {l : List Int} {a : Int} {j : Nat} (hm : j + 1 + 1 ≤ l.length) :
    (bkN l a (l.length - 1 - (j + 1))).set j (if (bkN l a (l.length - 1 - (j + 1))).getD (j + 1) 0 + a < (bkN l a (l.length - 1 - (j + 1))).getD j 0 then (bkN l a (l.length - 1 - (j + 1))).getD (j + 1) 0 + a else (bkN l a (l.length - 1 - (j + 1))).getD j 0) = bkN l a (l.length - 1 - j) := bk_step (m := j + 1) (by omega) hm
theorem least_sw (x y : Int) : (if x < y then x else y) = (if y < x then y else x) := by split <;> split <;> omega
theorem leastD (x y z : Int) (h : (if x < y then x else y) = z) (W : World) : Calls Try.prog 40 #[.int .i64 x, .int .i64 y] W.drew fun e w' => e = .returned (.int .i64 z) ∧ w' = W.drew := by
  rw [← h]
  exact least9_c x y W.drew
set_option maxRecDepth 100000 in
set_option maxHeartbeats 4000000 in
theorem specFastestUnder_c (v : Value) (l : List Int) (f a : Int) (w : World) (hr : Rd w v (intVs l)) (hn : l.length ≤ 1048576) :
    Calls Try.prog 11 #[v, .int .i64 f, .int .i64 a] w fun e w' => ∃ g, e = .returned (.tuple #[g, .bool (fuOk l f a)]) ∧ w'.ownsRow w.heap.size 3 1 g (fuR l f a).length (intVs (fuR l f a)) ∧ Below w.heap.size w w' := by
  have E0 := Lib.hid (fun W h => l9Good_c v l W h hn)
  have E4 := Lib.hid (fun W => l9Speed_c f W)
  have E1 := Lib.hid (fun W => l9Rate_c a W)
  have E2 := Lib.hid (fun W h => ownR_c v l W h hn)
  have HR := Lib.hid hr
  obtain ⟨ao, b, ob, ca, rfl, hao, hat⟩ := hr.formR
  clear hr hao hat
  cases hk : p9V l with
  | false =>
    rw [hk] at E0
    have HX := Lib.hid (fu_no1 (f := f) (a := a) hk)
    clear hk
    go_enter Try.func11, Try.ntmps11
    go_wp2_with fail
    refine (E0.out _ HR.out).mono ?_
    rintro e w1 ⟨rfl, b1⟩
    have HB := Lib.hid b1
    clear b1
    go_wp2
    go_ret2
    exact ⟨_, ret_vR HX.out.1.symm, by rw [HX.out.2]; exact World.ownsRow_made _ #[] 0 HB.out.size (by decide) rfl, HB.out.alloc HB.out.size _⟩
  | true =>
    cases hf : inR f 0 100 with
    | false =>
      rw [hk] at E0
      rw [hf] at E4
      have HX := Lib.hid (fu_no4 (l := l) (a := a) hf)
      clear hk hf
      go_enter Try.func11, Try.ntmps11
      go_wp2_with fail
      refine (E0.out _ HR.out).mono ?_
      rintro e w1 ⟨rfl, b1⟩
      have HB := Lib.hid b1
      clear b1
      go_wp2_with fail
      refine (E4.out _).mono ?_
      rintro e w2 ⟨rfl, rfl⟩
      go_wp2
      go_ret2
      exact ⟨_, ret_vR HX.out.1.symm, by rw [HX.out.2]; exact World.ownsRow_made _ #[] 0 HB.out.size (by decide) rfl, HB.out.alloc HB.out.size _⟩
    | true =>
      cases hm : inR a 1 20 with
      | false =>
        rw [hk] at E0
        rw [hf] at E4
        rw [hm] at E1
        have HX := Lib.hid (fu_no2 (l := l) (f := f) hm)
        clear hk hf hm
        go_enter Try.func11, Try.ntmps11
        go_wp2_with fail
        refine (E0.out _ HR.out).mono ?_
        rintro e w1 ⟨rfl, b1⟩
        have HB := Lib.hid b1
        clear b1
        go_wp2_with fail
        refine (E4.out _).mono ?_
        rintro e w2 ⟨rfl, rfl⟩
        go_wp2_with fail
        refine (E1.out _).mono ?_
        rintro e w3 ⟨rfl, rfl⟩
        go_wp2
        go_ret2
        exact ⟨_, ret_vR HX.out.1.symm, by rw [HX.out.2]; exact World.ownsRow_made _ #[] 0 HB.out.size (by decide) rfl, HB.out.alloc HB.out.size _⟩
      | true =>
        have HI := Lib.hid (fu_in hk hm)
        obtain ⟨⟨hl30, hv⟩, ha⟩ := fu_parts HI.out
        have HV := Lib.hid hv
        have HBI := Lib.hid (fun k (hk : k + 1 ≤ l.length) => bkN_in ha.1 hv k hk)
        have HFB := Lib.hid (fuB_in HI.out)
        have hfr := (inR_iff _ _ _).1 hf
        rw [hk] at E0
        rw [hf] at E4
        rw [hm] at E1
        clear hk hm hv hf
        go_enter Try.func11, Try.ntmps11
        go_wp2_with fail
        refine (E0.out _ HR.out).mono ?_
        rintro e w1 ⟨rfl, b1⟩
        have HB := Lib.hid b1
        have hs1 := b1.size
        clear b1
        go_wp2_with fail
        refine (E4.out _).mono ?_
        rintro e w2 ⟨rfl, rfl⟩
        go_wp2_with fail
        refine (E1.out _).mono ?_
        rintro e w2 ⟨rfl, rfl⟩
        go_wp2_with fail
        refine (E2.out _ (HR.out.below HB.out rfl)).mono ?_
        rintro e w3 ⟨g, rfl, o3, _, b3⟩
        rcases own_form o3 with ⟨h0, _⟩ | ⟨gb, gc, rfl, hBg, hgw, hnc, hcm⟩
        · omega
        have hs3 := b3.size
        have HB3 := Lib.hid (HB.out.trans (b3.mono HB.out.size))
        have HO3 := Lib.hid o3
        clear b3 o3
        have q0 : IntKind.i64.wrap ((l.length : Int) - 2) = (l.length : Int) - 2 := IntWalk.i64_in _ (by omega)
        go_wp2
        go_loopw [9] (fun i wr => ∃ m : Nat, m + 1 ≤ l.length ∧ i = .int .i64 ((m : Int) - 1) ∧ wr.ownsRow w2.heap.size 3 1 (.slice (some ⟨gb, 0, none⟩) l.length gc) l.length (intVs (bkN l a (l.length - 1 - m))) ∧ Hid (Below w.heap.size w wr)) (fun i _ => (intOf i + 1).toNat)
        case atStart => exact ⟨l.length - 1, by omega, by congr 1; omega, by rw [show l.length - 1 - (l.length - 1) = 0 by omega]; exact HO3.out, HB3⟩
        case round =>
          obtain ⟨m, hm, rfl, hown, hbel⟩ := hrel
          by_cases h0 : 0 < m
          · obtain ⟨j, rfl⟩ : ∃ j, m = j + 1 := ⟨m - 1, by omega⟩
            have hje : ((j + 1 : Nat) : Int) - 1 = (j : Int) := by omega
            rw [hje]
            have HJE := Lib.hid hje
            clear hje
            have hi := HBI.out (l.length - 1 - (j + 1)) (by omega)
            have hx := hi j (by omega)
            have hy := hi (j + 1) (by omega)
            have hlen := bkN_len l a (l.length - 1 - (j + 1))
            have HST0 := Lib.hid (bk_stepj (a := a) hm)
            have hod := hown.drew
            have c0 := (hod.cellAt j (by omega)).trans (int_at (l := bkN l a (l.length - 1 - (j + 1))) (by omega))
            have c1 := (hod.cellAt (j + 1) (by omega)).trans (int_at (l := bkN l a (l.length - 1 - (j + 1))) (by omega))
            have f0 := hod.frozenAt j
            have HL := Lib.hid (leastD ((bkN l a (l.length - 1 - (j + 1))).getD j 0) ((bkN l a (l.length - 1 - (j + 1))).getD (j + 1) 0 + a) _ (least_sw _ _) wr)
            have HST := Lib.hid (own_set9 hod j (if (bkN l a (l.length - 1 - (j + 1))).getD (j + 1) 0 + a < (bkN l a (l.length - 1 - (j + 1))).getD j 0 then (bkN l a (l.length - 1 - (j + 1))).getD (j + 1) 0 + a else (bkN l a (l.length - 1 - (j + 1))).getD j 0))
            rw [HST0.out] at HST
            generalize (if (bkN l a (l.length - 1 - (j + 1))).getD (j + 1) 0 + a < (bkN l a (l.length - 1 - (j + 1))).getD j 0 then (bkN l a (l.length - 1 - (j + 1))).getD (j + 1) 0 + a else (bkN l a (l.length - 1 - (j + 1))).getD j 0) = Z at *
            clear hown hod HST0 hi
            generalize (bkN l a (l.length - 1 - (j + 1))).getD j 0 = X at *
            generalize (bkN l a (l.length - 1 - (j + 1))).getD (j + 1) 0 = Y at *
            have HBN := Lib.hid (hbel.out.drew.setCell (p := ⟨gb, j, none⟩) (show w.heap.size ≤ gb by omega) (.int .i64 Z))
            obtain ⟨r1, r2, r3⟩ := succ_in j (by omega)
            have q1 : IntKind.i64.wrap (Y + a) = Y + a := IntWalk.i64_in _ (by omega)
            have q2 : IntKind.i64.wrap ((j : Int) - 1) = (j : Int) - 1 := IntWalk.i64_in _ (by omega)
            have t1 : decide ((0 : Int) ≤ (j : Int)) = true := by simp
            have t2 : (j : Int) + 1 < (l.length : Int) := by omega
            have t4 : (j : Int) < (l.length : Int) := by omega
            have t5 : j + 1 < l.length := by omega
            have t6 : (0 : Int) ≤ (j : Int) := by omega
            go_wp2_with fail
            go_still_tail 15, (by kernel_rfl)
            still_call HL.out
            repeat still_step
            refine wpStill_nil ?_
            change wpList _ _ _ _ _ wr.drew
            generalize wr.drew = w6 at *
            clear c1 r1 r2 r3
            go_wp2
            go_roundw
            case rel => exact ⟨j, by omega, rfl, HST.out, HBN⟩
            case measure => simp [intOf]
          · obtain rfl : m = 0 := by omega
            have hown0 : wr.ownsRow w2.heap.size 3 1 (.slice (some ⟨gb, 0, none⟩) l.length gc) l.length (intVs (fuB l a)) := by
              have e : l.length - 1 - 0 = l.length - 1 := by omega
              rw [e] at hown
              exact hown
            have hlen : (fuB l a).length = l.length := bkN_len _ _ _
            have c0 := (hown0.cellAt 0 (by omega)).trans (int_at (l := fuB l a) (by omega))
            have f0 := hown0.frozenAt 0
            have hx := HFB.out 0 (by omega)
            have t0 : (0 : Int) < (l.length : Int) := by omega
            have t2 : 0 < l.length := by omega
            by_cases hgt : (fuB l a).getD 0 0 < f
            · have HX := Lib.hid (fu_no3 (l := l) (f := f) (a := a) ((inR_no _ _ _).2 (.inr hgt)))
              have t3 : decide ((fuB l a).getD 0 0 < f) = true := by simpa using hgt
              clear hown hown0
              generalize (fuB l a).getD 0 0 = X at *
              go_wp2
              go_ret2
              exact ⟨_, ret_vR HX.out.1.symm, by rw [HX.out.2]; exact World.ownsRow_made _ #[] 0 hbel.out.size (by decide) rfl, hbel.out.alloc hbel.out.size _⟩
            · have HX := Lib.hid (fu_yes (f := f) HI.out ((inR_iff _ _ _).2 ⟨hfr.1, by omega⟩))
              have t3 : decide ((fuB l a).getD 0 0 < f) = false := by simpa using hgt
              have HSI := Lib.hid (fuS_in HX.out.1)
              have HKP := Lib.hid (fuL_keeps HX.out.1)
              have HFL := Lib.hid (fuL_in HX.out.1)
              have HST := Lib.hid (own_set9 hown0 0 f)
              have HB5 := Lib.hid (hbel.out.setCell (p := ⟨gb, 0, none⟩) (show w.heap.size ≤ gb by omega) (.int .i64 f))
              have hfs : (fuB l a).set 0 f = fuS l f a := rfl
              rw [hfs] at HST
              have hlS := fuS_len l f a
              have HFI := Lib.hid (fun k (hk : k + 1 ≤ l.length) => fwN_in (l := fuS l f a) ha.1 (fun i hi => HSI.out i (by omega)) k (by omega))
              clear hown hown0 hfs
              generalize (fuB l a).getD 0 0 = X at *
              go_wp2
              generalize wr.setCell ⟨gb, 0, none⟩ (.int .i64 f) = w5 at *
              clear c0 f0
              go_loopw [10] (fun i wr => ∃ k : Nat, 0 < k ∧ k ≤ l.length ∧ i = .int .i64 (k : Int) ∧ wr.ownsRow w2.heap.size 3 1 (.slice (some ⟨gb, 0, none⟩) l.length gc) l.length (intVs (fwN (fuS l f a) a (k - 1))) ∧ Hid (Below w.heap.size w wr)) (fun i _ => l.length - (intOf i).toNat)
              case atStart => exact ⟨1, by omega, by omega, rfl, HST.out, HB5⟩
              case round =>
                obtain ⟨k, h1, hk, rfl, hown, hbel⟩ := hrel
                by_cases hlt : k < l.length
                · have hi := HFI.out (k - 1) (by omega)
                  have hx1 := hi k (by omega)
                  have hy1 := hi (k - 1) (by omega)
                  have hlen2 := fwN_len (fuS l f a) a (k - 1)
                  have HST0 := Lib.hid (fw_step (r := fuS l f a) (a := a) h1)
                  have hod := hown.drew
                  have c0 := (hod.cellAt k (by omega)).trans (int_at (l := fwN (fuS l f a) a (k - 1)) (by omega))
                  have c1 := (hod.cellAt (k - 1) (by omega)).trans (int_at (l := fwN (fuS l f a) a (k - 1)) (by omega))
                  have f0 := hod.frozenAt k
                  have HL := Lib.hid (leastD ((fwN (fuS l f a) a (k - 1)).getD k 0) ((fwN (fuS l f a) a (k - 1)).getD (k - 1) 0 + a) _ (least_sw _ _) wr)
                  have HST2 := Lib.hid (own_set9 hod k (if (fwN (fuS l f a) a (k - 1)).getD (k - 1) 0 + a < (fwN (fuS l f a) a (k - 1)).getD k 0 then (fwN (fuS l f a) a (k - 1)).getD (k - 1) 0 + a else (fwN (fuS l f a) a (k - 1)).getD k 0))
                  rw [HST0.out] at HST2
                  generalize (if (fwN (fuS l f a) a (k - 1)).getD (k - 1) 0 + a < (fwN (fuS l f a) a (k - 1)).getD k 0 then (fwN (fuS l f a) a (k - 1)).getD (k - 1) 0 + a else (fwN (fuS l f a) a (k - 1)).getD k 0) = Z at *
                  clear hown hod HST0 hi
                  generalize (fwN (fuS l f a) a (k - 1)).getD k 0 = U at *
                  generalize (fwN (fuS l f a) a (k - 1)).getD (k - 1) 0 = Y at *
                  have HBN := Lib.hid (hbel.out.drew.setCell (p := ⟨gb, k, none⟩) (show w.heap.size ≤ gb by omega) (.int .i64 Z))
                  obtain ⟨p1, p2, p3⟩ := pred_in k h1 (by omega)
                  have q1 : IntKind.i64.wrap (Y + a) = Y + a := IntWalk.i64_in _ (by omega)
                  have t4 : (k : Int) < (l.length : Int) := by omega
                  have t5 : (k : Int) - 1 < (l.length : Int) := by omega
                  have t6 : (k : Int) ≤ (l.length : Int) := by omega
                  have t7 : (1 : Int) ≤ (k : Int) := by omega
                  have t8 : (0 : Int) < (k : Int) := by omega
                  have t9 : k ≤ l.length := by omega
                  go_wp2_with fail
                  go_still_tail 15, (by kernel_rfl)
                  still_call HL.out
                  repeat still_step
                  refine wpStill_nil ?_
                  change wpList _ _ _ _ _ wr.drew
                  generalize wr.drew = w6 at *
                  clear c1 p1 p2 p3
                  go_wp2
                  go_roundw
                  case rel => exact ⟨k + 1, by omega, by omega, by go_num, HST2.out, HBN⟩
                  case measure => simp [intOf]; omega
                · obtain rfl : k = l.length := by omega
                  have hrow : wr.ownsRow w2.heap.size 3 1 (.slice (some ⟨gb, 0, none⟩) l.length gc) l.length (intVs (fuL l f a)) := hown
                  have hlL := fuL_len l f a
                  have E6 := Lib.hid (l9Keeps_c _ (fuL l f a) a wr (Rd.of_own hrow) (by omega) (fun i hi => HFL.out i (by omega)) ha)
                  rw [HKP.out] at E6
                  have HOW := Lib.hid hrow
                  clear hown hrow
                  go_wp2_with fail
                  refine E6.out.mono ?_
                  rintro e w7 ⟨rfl, b7⟩
                  have HO7 := Lib.hid (owns_below HOW.out b7)
                  have HB7 := Lib.hid (hbel.out.trans (b7.mono hbel.out.size))
                  clear b7
                  go_wp2
                  go_ret2
                  exact ⟨_, ret_vR HX.out.1.symm, by rw [HX.out.2, fuL_len]; exact own_mono HO7.out hs1, HB7.out⟩
end Go.Proofs.Ytklfipmjdhkkiaa
