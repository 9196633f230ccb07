/- NextPass, the specification's. Condition: sizes. -/
import Derived.Test.YtiioabmfonhlbaaCirB
namespace Go.Proofs.Ytiioabmfonhlbaa
open Go.RowKit
set_option linter.unusedVariables false
/-- the way of each cabin at its next pass -/
def nf8 (L S : Int) (l : List Int) (p T : Int) : Nat → Int := fun k => nextW (10 * L) (S * T) (wayOf L (l.getD k 0) p)
def npOk (L S : Int) (l : List Int) (p T : Int) : Bool := cpOk L S l p T && decide (0 < l.length)
def npI (L S : Int) (l : List Int) (p T : Int) : Int := if npOk L S l p T then (amin (nf8 L S l p T) (l.length - 1) : Int) else 0
def npS (L S : Int) (l : List Int) (p T : Int) : Int := if npOk L S l p T then secOf S (nf8 L S l p T (amin (nf8 L S l p T) (l.length - 1))) else 0
theorem np_no {L S : Int} {l : List Int} {p T : Int} (h : npOk L S l p T = false) : npI L S l p T = 0 ∧ npS L S l p T = 0 := by simp [npI, npS, h]
theorem np_yes {L S : Int} {l : List Int} {p T : Int} (h : npOk L S l p T = true) : npI L S l p T = (amin (nf8 L S l p T) (l.length - 1) : Int) ∧ npS L S l p T = secOf S (nf8 L S l p T (amin (nf8 L S l p T) (l.length - 1))) := by simp [npI, npS, h]
/-- what the first k cabins leave: nobody, or the first of the least -/
def bst (f : Nat → Int) (k : Nat) : Int := if k = 0 then -1 else (amin f (k - 1) : Int)
def lst (f : Nat → Int) (k : Nat) : Int := if k = 0 then 0 else f (amin f (k - 1))
theorem bst_zero (f : Nat → Int) : bst f 0 = -1 ∧ lst f 0 = 0 := ⟨rfl, rfl⟩
theorem bst_pos (f : Nat → Int) {k : Nat} (h : 0 < k) : bst f k = (amin f (k - 1) : Int) ∧ lst f k = f (amin f (k - 1)) := by unfold bst lst; rw [if_neg (by omega), if_neg (by omega)]; exact ⟨rfl, rfl⟩
theorem bst_one (f : Nat → Int) : bst f 1 = 0 ∧ lst f 1 = f 0 := ⟨rfl, rfl⟩
theorem bst_less (f : Nat → Int) {k : Nat} (h : 0 < k) (g : f k < lst f k) : bst f (k + 1) = k ∧ lst f (k + 1) = f k := by
  rw [(bst_pos f h).2] at g
  obtain ⟨h1, h2⟩ := bst_pos f (k := k + 1) (by omega)
  obtain ⟨j, rfl⟩ : ∃ j, k = j + 1 := ⟨k - 1, by omega⟩
  rw [h1, h2]
  simp only [Nat.add_sub_cancel] at g ⊢
  have e : amin f (j + 1) = j + 1 := by simp only [amin]; rw [if_pos g]
  rw [e]
  exact ⟨rfl, rfl⟩
theorem bst_same (f : Nat → Int) {k : Nat} (h : 0 < k) (g : ¬ f k < lst f k) : bst f (k + 1) = bst f k ∧ lst f (k + 1) = lst f k := by
  obtain ⟨h3, h4⟩ := bst_pos f h
  rw [h4] at g
  obtain ⟨h1, h2⟩ := bst_pos f (k := k + 1) (by omega)
  rw [h1, h2, h3, h4]
  obtain ⟨j, rfl⟩ : ∃ j, k = j + 1 := ⟨k - 1, by omega⟩
  simp only [Nat.add_sub_cancel] at g ⊢
  have e : amin f (j + 1) = amin f j := by simp only [amin]; rw [if_neg g]
  rw [e]
  exact ⟨rfl, rfl⟩
theorem nf8_bd {L S : Int} {l : List Int} {p T : Int} (hL : 10 ≤ L ∧ L ≤ 4000) (hST : 0 ≤ S * T ∧ S * T ≤ 10000000) (k : Nat) : 0 ≤ nf8 L S l p T k ∧ nf8 L S l p T k ≤ 10050000 := by
  have h1 := wayOf_range (L := L) (s := l.getD k 0) (p := p) (by omega)
  have h2 := nextW_from (t := 10 * L) (x := S * T) (w := wayOf L (l.getD k 0) p) (by omega)
  unfold nf8
  by_cases h : wayOf L (l.getD k 0) p < S * T
  · have := nextW_lt (t := 10 * L) (x := S * T) (w := wayOf L (l.getD k 0) p) (by omega) h
    omega
  · have e : nextW (10 * L) (S * T) (wayOf L (l.getD k 0) p) = wayOf L (l.getD k 0) p := by unfold nextW; rw [if_neg h]
    omega
theorem q_most (b M : Int) (h : max 1 b = M) (w : World) (n : Nat) :
    Calls Try.prog 80 #[.int .i64 1, .int .i64 b] (w.drewN n) fun e w'' => e = .returned (.int .i64 M) ∧ ∃ m, w'' = w.drewN m :=
  (l1MostV 1 b _).mono fun _ _ ⟨he, hw⟩ => ⟨by rw [← h]; exact he, n, hw⟩
theorem ret_iib8 {x y u v : Int} {a b : Bool} (g : x = y) (f : u = v) (h : a = b) : Ending.returned (.tuple #[.int .i64 x, .int .i64 u, .bool a]) = .returned (.tuple #[.int .i64 y, .int .i64 v, .bool b]) := by rw [g, f, h]
set_option maxRecDepth 100000 in
set_option maxHeartbeats 4000000 in
theorem specNextPass_c (L S : Int) (v : Value) (l : List Int) (p T : Int) (w : World) (hr : Rd w v (intVs l)) (hn : l.length ≤ 1048576) (hwp : (Lit.int .i64 p).wf = true) (hwT : (Lit.int .i64 T).wf = true) :
    Calls Try.prog 37 #[.agg #[.int .i64 L, .int .i64 S, v], .int .i64 p, .int .i64 T] w fun e w' => e = .returned (.tuple #[.int .i64 (npI L S l p T), .int .i64 (npS L S l p T), .bool (npOk L S l p T)]) ∧ Below w.heap.size w w' := by
  have E0 := Lib.hid (fun W v h => l8Good_c L S v l W h hn)
  have E1 := Lib.hid (fun W => l1In_c p 0 (L - 1) W)
  have E2 := Lib.hid (fun W => l8Time_c T W)
  have HR := Lib.hid hr
  obtain ⟨ao, a, oa, ca, rfl, hao, hat⟩ := hr.form8
  have HB := Lib.hid ((Below.refl w.heap.size w).alloc (Nat.le_refl _) (.cells #[.int .i64 L, .int .i64 S, .slice ao l.length ca] 26))
  have HB0 := Lib.hid (blk_new3 w (.int .i64 L) (.int .i64 S) (.slice ao l.length ca) 26)
  have hd : cpOk L S l p T = (cirV L S l && (inR p 0 (L - 1) && inR T 0 100000)) := rfl
  clear hr hwp hwT hao hat
  cases hk : cirV L S l with
  | false =>
    rw [hk] at E0 hd
    have HD : Hid (cpOk L S l p T = false) := Lib.hid (by rw [hd]; rfl)
    have HD2 : Hid (npOk L S l p T = false) := Lib.hid (by unfold npOk; rw [HD.out]; rfl)
    have HN := Lib.hid (np_no HD2.out)
    clear hk hd E1 E2
    go_enter Try.func37, Try.ntmps37
    go_wp2_with fail
    refine (E0.out _ _ (HR.out.below HB.out rfl)).mono ?_
    rintro e w1 ⟨rfl, b1⟩
    have HT := Lib.hid (HB.out.trans (b1.mono HB.out.size))
    clear b1
    go_wp2
    go_ret3
    exact ⟨ret_iib8 HN.out.1.symm HN.out.2.symm HD2.out.symm, HT.out⟩
  | true =>
    obtain ⟨hL, hS, hri, h12⟩ := cirV_parts hk
    have hw1 : IntKind.i64.wrap (L - 1) = L - 1 := IntWalk.i64_in _ (by omega)
    cases hp : inR p 0 (L - 1) with
    | false =>
      rw [hk] at E0
      rw [hp] at E1
      rw [hk, hp] at hd
      have HD : Hid (cpOk L S l p T = false) := Lib.hid (by rw [hd]; rfl)
      have HD2 : Hid (npOk L S l p T = false) := Lib.hid (by unfold npOk; rw [HD.out]; rfl)
      have HN := Lib.hid (np_no HD2.out)
      clear hk hp hd E2 hri
      go_enter Try.func37, Try.ntmps37
      go_wp2_with fail
      refine (E0.out _ _ (HR.out.below HB.out rfl)).mono ?_
      rintro e w1 ⟨rfl, b1⟩
      have HT := Lib.hid (HB.out.trans (b1.mono HB.out.size))
      obtain ⟨c0, c1, c2⟩ := blk_cell3 (blk_keep HB0.out b1 (by simp))
      clear b1
      go_wp2_with fail
      refine (E1.out _).mono ?_
      rintro e w2 ⟨rfl, rfl⟩
      go_wp2
      go_ret3
      exact ⟨ret_iib8 HN.out.1.symm HN.out.2.symm HD2.out.symm, HT.out⟩
    | true =>
      have hpb := (inR_iff p 0 (L - 1)).1 hp
      cases hm : inR T 0 100000 with
      | false =>
        rw [hk] at E0
        rw [hp] at E1
        rw [hm] at E2
        rw [hk, hp, hm] at hd
        have HD : Hid (cpOk L S l p T = false) := Lib.hid (by rw [hd]; rfl)
        have HD2 : Hid (npOk L S l p T = false) := Lib.hid (by unfold npOk; rw [HD.out]; rfl)
        have HN := Lib.hid (np_no HD2.out)
        clear hk hp hm hd hri
        go_enter Try.func37, Try.ntmps37
        go_wp2_with fail
        refine (E0.out _ _ (HR.out.below HB.out rfl)).mono ?_
        rintro e w1 ⟨rfl, b1⟩
        have HT := Lib.hid (HB.out.trans (b1.mono HB.out.size))
        obtain ⟨c0, c1, c2⟩ := blk_cell3 (blk_keep HB0.out b1 (by simp))
        clear b1
        go_wp2_with fail
        refine (E1.out _).mono ?_
        rintro e w2 ⟨rfl, rfl⟩
        go_wp2_with fail
        refine (E2.out _).mono ?_
        rintro e w3 ⟨rfl, rfl⟩
        go_wp2
        go_ret3
        exact ⟨ret_iib8 HN.out.1.symm HN.out.2.symm HD2.out.symm, HT.out⟩
      | true =>
        have hT := (inR_iff T 0 100000).1 hm
        have hST := way_bd hS hT
        have HWV := Lib.hid hk
        rw [hk] at E0
        rw [hp] at E1
        rw [hm] at E2
        rw [hk, hp, hm] at hd
        have HD : Hid (cpOk L S l p T = true) := Lib.hid (by rw [hd]; rfl)
        have q1 : IntKind.i64.wrap (S * T) = S * T := IntWalk.i64_in _ (by omega)
        have q2 : IntKind.i64.wrap (10 * L) = 10 * L := IntWalk.i64_in _ (by omega)
        have q7 : ((10 * L) == 0) = false := by rw [beq_eq_false_iff_ne]; omega
        have q8 : ¬ (10 * L = 0) := by omega
        by_cases h0 : 0 < l.length
        · have HD2 : Hid (npOk L S l p T = true) := Lib.hid (by unfold npOk; rw [HD.out]; simp; exact h0)
          have HY := Lib.hid (np_yes HD2.out)
          have HFB := Lib.hid (fun k => nf8_bd (L := L) (S := S) (l := l) (p := p) (T := T) hL hST k)
          have HWY := Lib.hid (fun W v (k : Nat) h hk' => l8Way_c L S v l k p W h hk hk' (by omega))
          have t1 : ((l.length : Int) == 0) = false := by rw [beq_eq_false_iff_ne]; omega
          have t2 : (l.length == 0) = false := by rw [beq_eq_false_iff_ne]; omega
          clear hk hp hm hd hri
          go_enter Try.func37, Try.ntmps37
          go_wp2_with fail
          refine (E0.out _ _ (HR.out.below HB.out rfl)).mono ?_
          rintro e w1 ⟨rfl, b1⟩
          have HT := Lib.hid (HB.out.trans (b1.mono HB.out.size))
          have HK := Lib.hid (blk_keep HB0.out b1 (by simp))
          have hs1 : w.heap.size + 1 ≤ w1.heap.size := by have := b1.size; simpa using this
          obtain ⟨c0, c1, c2⟩ := blk_cell3 HK.out
          clear b1
          go_wp2_with fail
          refine (E1.out _).mono ?_
          rintro e w2 ⟨rfl, rfl⟩
          go_wp2_with fail
          refine (E2.out _).mono ?_
          rintro e w3 ⟨rfl, rfl⟩
          go_wp2
          clear t1 t2
          go_loopw [9, 10, 11] (fun b m i wr => ∃ k : Nat, k ≤ l.length ∧ i = .int .i64 k ∧ b = .int .i64 (bst (nf8 L S l p T) k) ∧ m = .int .i64 (lst (nf8 L S l p T) k) ∧ Hid (Below w3.heap.size w3 wr)) (fun _ _ i _ => l.length - (intOf i).toNat)
          case atStart => exact ⟨0, by omega, rfl, rfl, rfl, Lib.hid (Below.refl _ _)⟩
          case round =>
            obtain ⟨k, hk, rfl, rfl, rfl, hbel⟩ := hrel
            have hbs := hbel.out.size
            have HB2 := Lib.hid (HT.out.trans (hbel.out.mono HT.out.size))
            have HK2 := Lib.hid (blk_keep HK.out hbel.out (by omega))
            clear c0 c1 c2
            obtain ⟨c0, c1, c2⟩ := blk_cell3 HK2.out
            by_cases hlt : k < l.length
            · have hwr := wayOf_range (L := L) (s := l.getD k 0) (p := p) (by omega)
              have HE := Lib.hid (HWY.out wr _ k (HR.out.below HB2.out rfl) hlt)
              have HF : Hid (nf8 L S l p T k = nextW (10 * L) (S * T) (wayOf L (l.getD k 0) p)) := Lib.hid rfl
              have hfb := HFB.out k
              have HB0' := Lib.hid (fun h : k = 0 => (by subst h; exact bst_one _ : bst (nf8 L S l p T) (k + 1) = 0 ∧ lst (nf8 L S l p T) (k + 1) = nf8 L S l p T 0))
              have HBL := Lib.hid (fun (h : 0 < k) g => bst_less (nf8 L S l p T) h g)
              have HBS := Lib.hid (fun (h : 0 < k) g => bst_same (nf8 L S l p T) h g)
              have HBP := Lib.hid (fun (h : 0 < k) => bst_pos (nf8 L S l p T) h)
              generalize wayOf L (l.getD k 0) p = Y at *
              go_wp2_with fail
              refine HE.out.mono ?_
              rintro e w4 ⟨rfl, b4⟩
              have HB4 := Lib.hid (hbel.out.trans (b4.mono hbs))
              clear c0 c1 c2
              obtain ⟨c0, c1, c2⟩ := blk_cell3 (blk_keep HK2.out b4 (by omega))
              clear b4
              go_wp2
              go_loopw [12] (fun y wq => ∃ (Z : Int) (m : Nat), y = .int .i64 Z ∧ wq = w4.drewN m ∧ (0 ≤ Z ∧ Z ≤ 10050000) ∧ Hid (nextW (10 * L) (S * T) Z = nf8 L S l p T k)) (fun y _ => (S * T - intOf y).toNat)
              case atStart => exact ⟨Y, 0, rfl, rfl, by omega, Lib.hid HF.out.symm⟩
              case round =>
                obtain ⟨Z, m, rfl, hwq, hZ, HZ⟩ := hrel
                have HWQ := Lib.hid hwq
                have C0 : wr.cell? ⟨w.heap.size, 0, none⟩ = some (.int .i64 L) := by rw [hwq]; exact c0
                have C1 : wr.cell? ⟨w.heap.size, 1, none⟩ = some (.int .i64 S) := by rw [hwq]; exact c1
                have C2 : wr.cell? ⟨w.heap.size, 2, none⟩ = some (.slice ao l.length ca) := by rw [hwq]; exact c2
                clear hwq c0 c1 c2
                by_cases hz : Z < S * T
                · have hst := next_step (t := 10 * L) (x := S * T) (w := Z) (by omega) hz (max 1 ((S * T - Z) / (10 * L))) rfl
                  have hdv := Int.ediv_nonneg (show 0 ≤ S * T - Z by omega) (show 0 ≤ 10 * L by omega)
                  have hdv2 := Int.ediv_le_self (10 * L) (show 0 ≤ S * T - Z by omega)
                  have q3 : IntKind.i64.wrap (S * T - Z) = S * T - Z := IntWalk.i64_in _ (by omega)
                  have q4 : Int.tdiv (S * T - Z) (10 * L) = (S * T - Z) / (10 * L) := Int.tdiv_eq_ediv_of_nonneg (by omega)
                  have t1 : decide (Z < S * T) = true := by simpa using hz
                  generalize (S * T - Z) / (10 * L) = D at *
                  have q5 : IntKind.i64.wrap D = D := IntWalk.i64_in _ (by omega)
                  generalize hM : max 1 D = M at *
                  generalize hR : 10 * L * M = R at *
                  have q6 : IntKind.i64.wrap (10 * L * M) = R := by rw [hR]; exact IntWalk.i64_in _ (by omega)
                  have q9 : IntKind.i64.wrap (Z + R) = Z + R := IntWalk.i64_in _ (by omega)
                  have HM := Lib.hid hM
                  have HST2 := Lib.hid hst
                  clear hM hR hst
                  go_wp2_with fail
                  go_quiet ((go_at_call 80; exact q_most _ _ HM.out _ _))
                  go_wp2
                  go_roundw
                  case rel => exact ⟨Z + R, m + nq, rfl, by rw [HWQ.out, World.drewN_drewN], by have := HST2.out; omega, Lib.hid (HST2.out.1.trans HZ.out)⟩
                  case measure => simp [intOf]; have := HST2.out; omega
                · have HZV : Hid (nf8 L S l p T k = Z) := Lib.hid (by rw [← HZ.out]; unfold nextW; rw [if_neg hz])
                  have t1 : decide (Z < S * T) = false := by simpa using hz
                  have HB5 : Hid (Below w3.heap.size w3 wr) := Lib.hid (by rw [HWQ.out]; exact below_drewN HB4.out _)
                  rw [HZV.out] at HBL HBS
                  generalize hf : nf8 L S l p T = f at *
                  have HFF := Lib.hid hf
                  clear hf hz
                  by_cases hk0 : k = 0
                  · obtain rfl := hk0
                    obtain ⟨n1, n2⟩ := HB0'.out rfl
                    have HN := Lib.hid (And.intro n1 (n2.trans HZV.out))
                    have z1 := (bst_zero f).1
                    have z2 := (bst_zero f).2
                    clear n1 n2
                    rw [z1, z2]
                    go_wp2
                    go_roundw
                    case rel => exact ⟨0 + 1, by omega, by go_num, by rw [HFF.out, HN.out.1]; rfl, by rw [HFF.out, HN.out.2], HB5⟩
                    case measure => simp [intOf]; omega
                  · have hkp : 0 < k := by omega
                    have hbn : 0 ≤ bst f k := by rw [(HBP.out hkp).1]; omega
                    generalize bst f k = B at *
                    generalize lst f k = M at *
                    have t3 : decide (B < 0) = false := by simp; omega
                    by_cases hzm : Z < M
                    · have HN := Lib.hid (HBL.out hkp hzm)
                      have t2 : decide (Z < M) = true := by simpa using hzm
                      clear hzm
                      go_wp2
                      go_roundw
                      case rel => exact ⟨k + 1, by omega, by go_num, by rw [HFF.out, HN.out.1], by rw [HFF.out, HN.out.2], HB5⟩
                      case measure => simp [intOf]; omega
                    · have HN := Lib.hid (HBS.out hkp (by omega))
                      have t2 : decide (Z < M) = false := by simpa using hzm
                      clear hzm
                      go_wp2
                      go_roundw
                      case rel => exact ⟨k + 1, by omega, by go_num, by rw [HFF.out, HN.out.1], by rw [HFF.out, HN.out.2], HB5⟩
                      case measure => simp [intOf]; omega
            · obtain rfl : k = l.length := by omega
              obtain ⟨z1, z2⟩ := bst_pos (nf8 L S l p T) h0
              rw [z1, z2]
              have hfb := HFB.out (amin (nf8 L S l p T) (l.length - 1))
              have HSO : Hid (secOf S (nf8 L S l p T (amin (nf8 L S l p T) (l.length - 1))) = (nf8 L S l p T (amin (nf8 L S l p T) (l.length - 1)) + S - 1) / S) := Lib.hid rfl
              clear z1 z2
              generalize nf8 L S l p T (amin (nf8 L S l p T) (l.length - 1)) = V at *
              generalize amin (nf8 L S l p T) (l.length - 1) = B at *
              have q3 : IntKind.i64.wrap (V + S) = V + S := IntWalk.i64_in _ (by omega)
              have q4 : IntKind.i64.wrap (V + S - 1) = V + S - 1 := IntWalk.i64_in _ (by omega)
              have q5 : Int.tdiv (V + S - 1) S = (V + S - 1) / S := Int.tdiv_eq_ediv_of_nonneg (by omega)
              have hdv := Int.ediv_nonneg (show 0 ≤ V + S - 1 by omega) (show 0 ≤ S by omega)
              have hdv2 := Int.ediv_le_self S (show 0 ≤ V + S - 1 by omega)
              have q6 : (S == 0) = false := by rw [beq_eq_false_iff_ne]; omega
              have q9 : ¬ (S = 0) := by omega
              generalize (V + S - 1) / S = D at *
              have q10 : IntKind.i64.wrap D = D := IntWalk.i64_in _ (by omega)
              go_wp2
              go_quiet (fail)
              go_wp2
              go_ret3
              exact ⟨ret_iib8 HY.out.1.symm (by rw [HY.out.2, HSO.out]) HD2.out.symm, below_drewN HB2.out _⟩
        · have HD2 : Hid (npOk L S l p T = false) := Lib.hid (by unfold npOk; rw [HD.out, decide_eq_false h0]; rfl)
          have HN := Lib.hid (np_no HD2.out)
          have t1 : ((l.length : Int) == 0) = true := by rw [beq_iff_eq]; omega
          have t2 : (l.length == 0) = true := by rw [beq_iff_eq]; omega
          clear hk hp hm hd hri
          go_enter Try.func37, Try.ntmps37
          go_wp2_with fail
          refine (E0.out _ _ (HR.out.below HB.out rfl)).mono ?_
          rintro e w1 ⟨rfl, b1⟩
          have HT := Lib.hid (HB.out.trans (b1.mono HB.out.size))
          have HK := Lib.hid (blk_keep HB0.out b1 (by simp))
          obtain ⟨c0, c1, c2⟩ := blk_cell3 HK.out
          clear b1
          go_wp2_with fail
          refine (E1.out _).mono ?_
          rintro e w2 ⟨rfl, rfl⟩
          go_wp2_with fail
          refine (E2.out _).mono ?_
          rintro e w3 ⟨rfl, rfl⟩
          go_wp2
          go_ret3
          exact ⟨ret_iib8 HN.out.1.symm HN.out.2.symm HD2.out.symm, HT.out⟩
end Go.Proofs.Ytiioabmfonhlbaa
