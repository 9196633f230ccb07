/- Ways to a place and passes, the specification's. Condition: sizes. -/
import Derived.Test.YtiioabmfonhlbaaCirM
namespace Go.Proofs.Ytiioabmfonhlbaa
open Go.RowKit
set_option linter.unusedVariables false
/-- the ways of all cabins to a place -/
abbrev wf8 (L : Int) (l : List Int) (p : Int) : Nat → Int := fun k => wayOf L (l.getD k 0) p
def cpOk (L S : Int) (l : List Int) (p T : Int) : Bool := cirV L S l && (inR p 0 (L - 1) && inR T 0 100000)
def pbR (L S : Int) (l : List Int) (p T : Int) : Int := if cpOk L S l p T then passN (10 * L) (S * T) (wf8 L l p) l.length else 0
theorem pb_no {L S : Int} {l : List Int} {p T : Int} (h : cpOk L S l p T = false) : pbR L S l p T = 0 := by simp [pbR, h]
theorem pb_yes {L S : Int} {l : List Int} {p T : Int} (h : cpOk L S l p T = true) : pbR L S l p T = passN (10 * L) (S * T) (wf8 L l p) l.length := by simp [pbR, h]
theorem passN_bd {t x : Int} {f : Nat → Int} (ht : 100 ≤ t) (hx : 0 ≤ x ∧ x ≤ 10000000) (hf : ∀ i, 0 ≤ f i) {k : Nat} (hk : k ≤ 12) : 0 ≤ passN t x f k ∧ passN t x f k ≤ 1300000 := by
  have h1 := passN_nonneg (x := x) (f := f) (show 0 < t by omega) k
  have h2 := passN_le (f := f) (show 0 < t by omega) hx.1 hf k
  have h4 : 0 ≤ x / t := Int.ediv_nonneg hx.1 (by omega)
  have h3 := ediv_lo (a := x) (show 0 < t by omega)
  have h5 : 100 * (x / t) ≤ t * (x / t) := Int.mul_le_mul_of_nonneg_right ht h4
  have h6 : (k : Int) * (1 + x / t) ≤ 12 * 100001 := Int.mul_le_mul (by omega) (by omega) (by omega) (by omega)
  omega
set_option maxHeartbeats 1000000 in
theorem l8Way_c (L S : Int) (v : Value) (l : List Int) (k : Nat) (p : Int) (w : World) (hr : Rd w v (intVs l)) (hV : cirV L S l = true) (hk : k < l.length) (hp : 0 ≤ p ∧ p ≤ L - 1) :
    Calls Try.prog 79 #[.agg #[.int .i64 L, .int .i64 S, v], .int .i64 (k : Int), .int .i64 p] w fun e w' => e = .returned (.int .i64 (wayOf L (l.getD k 0) p)) ∧ Below w.heap.size w w' := by
  obtain ⟨ao, a, oa, ca, rfl, hao, hat⟩ := hr.form8
  obtain ⟨rfl, hla, hlm⟩ := hao (by omega)
  obtain ⟨hL, hS, hri, h12⟩ := cirV_parts hV
  have hb := rise_at hri hk
  have HW : Hid (wayOf L (l.getD k 0) p = (10 * (p - l.getD k 0) + 10 * L) % (10 * L)) := Lib.hid rfl
  have hwr := wayOf_range (L := L) (s := l.getD k 0) (p := p) (by omega)
  have HB := Lib.hid ((Below.refl w.heap.size w).alloc (Nat.le_refl _) (.cells #[.int .i64 L, .int .i64 S, .slice (some ⟨a, oa, none⟩) l.length ca] 26))
  have e0 := (hat.below HB.out hla) k hk
  clear hr hao hat hV hri
  have hkk : (k : Int) < (l.length : Int) := by omega
  generalize l.getD k 0 = X at *
  have q1 : IntKind.i64.wrap (p - X) = p - X := IntWalk.i64_in _ (by omega)
  have q2 : IntKind.i64.wrap (10 * (p - X)) = 10 * (p - X) := IntWalk.i64_in _ (by omega)
  have q3 : IntKind.i64.wrap (10 * L) = 10 * L := IntWalk.i64_in _ (by omega)
  have q4 : IntKind.i64.wrap (10 * (p - X) + 10 * L) = 10 * (p - X) + 10 * L := IntWalk.i64_in _ (by omega)
  have q5 : Int.tmod (10 * (p - X) + 10 * L) (10 * L) = wayOf L X p := by rw [HW.out, Int.tmod_eq_emod_of_nonneg (by omega)]
  have q6 : IntKind.i64.wrap (wayOf L X p) = wayOf L X p := IntWalk.i64_in _ (by omega)
  have q7 : ((10 * L) == 0) = false := by rw [beq_eq_false_iff_ne]; omega
  have q8 : ¬ (10 * L = 0) := by omega
  generalize wayOf L X p = Y at *
  go_enter Try.func79, Try.ntmps79
  go_wp2_with fail
  go_quiet (fail)
  go_wp2
  go_ret
  exact ⟨rfl, below_drewN HB.out _⟩
set_option maxRecDepth 100000 in
set_option maxHeartbeats 4000000 in
theorem specPassesBy_c (L S : Int) (v : Value) (l : List Int) (p T : Int) (w : World) (hr : Rd w v (intVs l)) (hn : l.length ≤ 1048576) (hwp : (Lit.int .i64 p).wf = true) (hwT : (Lit.int .i64 T).wf = true) :
    Calls Try.prog 40 #[.agg #[.int .i64 L, .int .i64 S, v], .int .i64 p, .int .i64 T] w fun e w' => e = .returned (.tuple #[.int .i64 (pbR L S l p T), .bool (cpOk L S l p T)]) ∧ Below w.heap.size w w' := by
  have E0 := Lib.hid (fun W v h => l8Good_c L S v l W h hn)
  have E1 := Lib.hid (fun W => l1In_c p 0 (L - 1) W)
  have E2 := Lib.hid (fun W => l8Time_c T W)
  have HR := Lib.hid hr
  obtain ⟨ao, a, oa, ca, rfl, hao, hat⟩ := hr.form8
  have HB := Lib.hid ((Below.refl w.heap.size w).alloc (Nat.le_refl _) (.cells #[.int .i64 L, .int .i64 S, .slice ao l.length ca] 26))
  have HB0 := Lib.hid (blk_new3 w (.int .i64 L) (.int .i64 S) (.slice ao l.length ca) 26)
  have hd : cpOk L S l p T = (cirV L S l && (inR p 0 (L - 1) && inR T 0 100000)) := rfl
  clear hr hwp hwT hao hat
  cases hk : cirV L S l with
  | false =>
    rw [hk] at E0 hd
    have HD : Hid (cpOk L S l p T = false) := Lib.hid (by rw [hd]; rfl)
    have HN := Lib.hid (pb_no HD.out)
    clear hk hd E1 E2
    go_enter Try.func40, Try.ntmps40
    go_wp2_with fail
    refine (E0.out _ _ (HR.out.below HB.out rfl)).mono ?_
    rintro e w1 ⟨rfl, b1⟩
    have HT := Lib.hid (HB.out.trans (b1.mono HB.out.size))
    clear b1
    go_wp2
    go_ret2
    exact ⟨ret_iv HN.out.symm HD.out.symm, HT.out⟩
  | true =>
    obtain ⟨hL, hS, hri, h12⟩ := cirV_parts hk
    have hw1 : IntKind.i64.wrap (L - 1) = L - 1 := IntWalk.i64_in _ (by omega)
    cases hp : inR p 0 (L - 1) with
    | false =>
      rw [hk] at E0
      rw [hp] at E1
      rw [hk, hp] at hd
      have HD : Hid (cpOk L S l p T = false) := Lib.hid (by rw [hd]; rfl)
      have HN := Lib.hid (pb_no HD.out)
      clear hk hp hd E2 hri
      go_enter Try.func40, Try.ntmps40
      go_wp2_with fail
      refine (E0.out _ _ (HR.out.below HB.out rfl)).mono ?_
      rintro e w1 ⟨rfl, b1⟩
      have HT := Lib.hid (HB.out.trans (b1.mono HB.out.size))
      obtain ⟨c0, c1, c2⟩ := blk_cell3 (blk_keep HB0.out b1 (by simp))
      clear b1
      go_wp2_with fail
      refine (E1.out _).mono ?_
      rintro e w2 ⟨rfl, rfl⟩
      go_wp2
      go_ret2
      exact ⟨ret_iv HN.out.symm HD.out.symm, HT.out⟩
    | true =>
      have hpb := (inR_iff p 0 (L - 1)).1 hp
      cases hm : inR T 0 100000 with
      | false =>
        rw [hk] at E0
        rw [hp] at E1
        rw [hm] at E2
        rw [hk, hp, hm] at hd
        have HD : Hid (cpOk L S l p T = false) := Lib.hid (by rw [hd]; rfl)
        have HN := Lib.hid (pb_no HD.out)
        clear hk hp hm hd hri
        go_enter Try.func40, Try.ntmps40
        go_wp2_with fail
        refine (E0.out _ _ (HR.out.below HB.out rfl)).mono ?_
        rintro e w1 ⟨rfl, b1⟩
        have HT := Lib.hid (HB.out.trans (b1.mono HB.out.size))
        obtain ⟨c0, c1, c2⟩ := blk_cell3 (blk_keep HB0.out b1 (by simp))
        clear b1
        go_wp2_with fail
        refine (E1.out _).mono ?_
        rintro e w2 ⟨rfl, rfl⟩
        go_wp2_with fail
        refine (E2.out _).mono ?_
        rintro e w3 ⟨rfl, rfl⟩
        go_wp2
        go_ret2
        exact ⟨ret_iv HN.out.symm HD.out.symm, HT.out⟩
      | true =>
        have hT := (inR_iff T 0 100000).1 hm
        have hST := way_bd hS hT
        have HWV := Lib.hid hk
        rw [hk] at E0
        rw [hp] at E1
        rw [hm] at E2
        rw [hk, hp, hm] at hd
        have HD : Hid (cpOk L S l p T = true) := Lib.hid (by rw [hd]; rfl)
        have HY := Lib.hid (pb_yes HD.out)
        have HPB := Lib.hid (fun (k : Nat) (h : k ≤ 12) => passN_bd (t := 10 * L) (x := S * T) (f := wf8 L l p) (by omega) hST (fun i => (wayOf_range (by omega)).1) h)
        have HWY := Lib.hid (fun W v (k : Nat) h hk' => l8Way_c L S v l k p W h hk hk' (by omega))
        have q1 : IntKind.i64.wrap (S * T) = S * T := IntWalk.i64_in _ (by omega)
        have q2 : IntKind.i64.wrap (10 * L) = 10 * L := IntWalk.i64_in _ (by omega)
        have q7 : ((10 * L) == 0) = false := by rw [beq_eq_false_iff_ne]; omega
        clear hk hp hm hd hri
        go_enter Try.func40, Try.ntmps40
        go_wp2_with fail
        refine (E0.out _ _ (HR.out.below HB.out rfl)).mono ?_
        rintro e w1 ⟨rfl, b1⟩
        have HT := Lib.hid (HB.out.trans (b1.mono HB.out.size))
        have HK := Lib.hid (blk_keep HB0.out b1 (by simp))
        have hs1 : w.heap.size + 1 ≤ w1.heap.size := by have := b1.size; simpa using this
        obtain ⟨c0, c1, c2⟩ := blk_cell3 HK.out
        clear b1
        go_wp2_with fail
        refine (E1.out _).mono ?_
        rintro e w2 ⟨rfl, rfl⟩
        go_wp2_with fail
        refine (E2.out _).mono ?_
        rintro e w3 ⟨rfl, rfl⟩
        go_wp2
        go_loopw [8, 9] (fun n i wr => ∃ k : Nat, k ≤ l.length ∧ i = .int .i64 k ∧ n = .int .i64 (passN (10 * L) (S * T) (wf8 L l p) k) ∧ Hid (Below w3.heap.size w3 wr)) (fun _ i _ => l.length - (intOf i).toNat)
        case atStart => exact ⟨0, by omega, rfl, rfl, Lib.hid (Below.refl _ _)⟩
        case round =>
          obtain ⟨k, hk, rfl, rfl, hbel⟩ := hrel
          have hbs := hbel.out.size
          have HB2 := Lib.hid (HT.out.trans (hbel.out.mono HT.out.size))
          have HK2 := Lib.hid (blk_keep HK.out hbel.out (by omega))
          clear c0 c1 c2
          obtain ⟨c0, c1, c2⟩ := blk_cell3 HK2.out
          by_cases hlt : k < l.length
          · have HS : Hid (passN (10 * L) (S * T) (wf8 L l p) (k + 1) = passN (10 * L) (S * T) (wf8 L l p) k + passOne (10 * L) (S * T) (wayOf L (l.getD k 0) p)) := Lib.hid rfl
            have b0 := HPB.out k (by omega)
            have b1 := HPB.out (k + 1) (by omega)
            have hwr := wayOf_range (L := L) (s := l.getD k 0) (p := p) (by omega)
            have HE := Lib.hid (HWY.out wr _ k (HR.out.below HB2.out rfl) hlt)
            generalize wayOf L (l.getD k 0) p = Y at *
            generalize hN1 : passN (10 * L) (S * T) (wf8 L l p) (k + 1) = N1 at *
            have HN1 := Lib.hid hN1
            clear hN1
            generalize passN (10 * L) (S * T) (wf8 L l p) k = N0 at *
            by_cases hy : Y ≤ S * T
            · have HP : Hid (N1 = N0 + 1 + (S * T - Y) / (10 * L)) := Lib.hid (by rw [HS.out]; unfold passOne; rw [if_pos hy]; omega)
              have hdv := Int.ediv_nonneg (show 0 ≤ S * T - Y by omega) (show 0 ≤ 10 * L by omega)
              have hdv2 := Int.ediv_le_self (10 * L) (show 0 ≤ S * T - Y by omega)
              have q3 : IntKind.i64.wrap (S * T - Y) = S * T - Y := IntWalk.i64_in _ (by omega)
              have q4 : Int.tdiv (S * T - Y) (10 * L) = (S * T - Y) / (10 * L) := Int.tdiv_eq_ediv_of_nonneg (by omega)
              have t1 : decide (Y ≤ S * T) = true := by simpa using hy
              have q9 : IntKind.i64.wrap (N0 + 1) = N0 + 1 := IntWalk.i64_in _ (by omega)
              generalize (S * T - Y) / (10 * L) = D at *
              have q5 : IntKind.i64.wrap D = D := IntWalk.i64_in _ (by omega)
              have q6 : IntKind.i64.wrap (N0 + 1 + D) = N0 + 1 + D := IntWalk.i64_in _ (by omega)
              clear hy
              go_wp2_with fail
              refine HE.out.mono ?_
              rintro e w4 ⟨rfl, b4⟩
              have HB4 := Lib.hid (hbel.out.trans (b4.mono hbs))
              clear c0 c1 c2
              obtain ⟨c0, c1, c2⟩ := blk_cell3 (blk_keep HK2.out b4 (by omega))
              clear b4
              go_wp2
              go_roundw
              case rel => exact ⟨k + 1, by omega, by go_num, by rw [HN1.out, HP.out], HB4⟩
              case measure => simp [intOf]; omega
            · have HP : Hid (N1 = N0) := Lib.hid (by rw [HS.out]; unfold passOne; rw [if_neg hy]; omega)
              have t1 : decide (Y ≤ S * T) = false := by simpa using hy
              clear hy
              go_wp2_with fail
              refine HE.out.mono ?_
              rintro e w4 ⟨rfl, b4⟩
              have HB4 := Lib.hid (hbel.out.trans (b4.mono hbs))
              clear c0 c1 c2
              obtain ⟨c0, c1, c2⟩ := blk_cell3 (blk_keep HK2.out b4 (by omega))
              clear b4
              go_wp2
              go_roundw
              case rel => exact ⟨k + 1, by omega, by go_num, by rw [HN1.out, HP.out], HB4⟩
              case measure => simp [intOf]; omega
          · obtain rfl : k = l.length := by omega
            go_wp2
            go_ret2
            exact ⟨ret_iv HY.out.symm HD.out.symm, HB2.out⟩
end Go.Proofs.Ytiioabmfonhlbaa
