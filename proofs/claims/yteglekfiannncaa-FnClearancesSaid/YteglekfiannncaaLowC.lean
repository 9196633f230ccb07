/- The lowest clearance: the program's and the specification's answer as one function. Condition: sizes. -/
import Derived.Test.YteglekfiannncaaClearC
import Derived.Test.YteglekfiannncaaLess4C
namespace Go.Proofs.Yteglekfiannncaa
open Go.RowKit
set_option linter.unusedVariables false
/-- The lowest one of the first k + 1 places. -/
def lowN (l : List Sup) (r : Rp) (g : List GP) : Nat → Nat
  | 0 => 0
  | k + 1 => if frLt (cRn l r g ((k + 1 : Nat) : Int)) (cRd l r g ((k + 1 : Nat) : Int)) (cRn l r g (lowN l r g k : Int)) (cRd l r g (lowN l r g k : Int)) then k + 1 else lowN l r g k
theorem lowN_le (l : List Sup) (r : Rp) (g : List GP) : ∀ k, lowN l r g k ≤ k
  | 0 => Nat.le_refl _
  | k + 1 => by
    have := lowN_le l r g k
    unfold lowN
    split <;> omega
theorem lowN_yes {l : List Sup} {r : Rp} {g : List GP} {k : Nat} (h : frLt (cRn l r g ((k + 1 : Nat) : Int)) (cRd l r g ((k + 1 : Nat) : Int)) (cRn l r g (lowN l r g k : Int)) (cRd l r g (lowN l r g k : Int))) : lowN l r g (k + 1) = k + 1 := by
  rw [lowN, if_pos h]
theorem lowN_no {l : List Sup} {r : Rp} {g : List GP} {k : Nat} (h : ¬ frLt (cRn l r g ((k + 1 : Nat) : Int)) (cRd l r g ((k + 1 : Nat) : Int)) (cRn l r g (lowN l r g k : Int)) (cRd l r g (lowN l r g k : Int))) : lowN l r g (k + 1) = lowN l r g k := by
  rw [lowN, if_neg h]
noncomputable def loOk (l : List Sup) (r : Rp) (g : List GP) : Bool := isR r && isG l g
/-- The line's end. -/
def endN (l : List Sup) : Nat := ((nth l (l.length - 1)).a).toNat
noncomputable def loP (l : List Sup) (r : Rp) (g : List GP) : Int := if loOk l r g then (lowN l r g (endN l) : Int) else 0
noncomputable def loN (l : List Sup) (r : Rp) (g : List GP) : Int := if loOk l r g then rN (cRn l r g (lowN l r g (endN l) : Int)) (cRd l r g (lowN l r g (endN l) : Int)) else 0
noncomputable def loD (l : List Sup) (r : Rp) (g : List GP) : Int := if loOk l r g then rD (cRn l r g (lowN l r g (endN l) : Int)) (cRd l r g (lowN l r g (endN l) : Int)) else 0
theorem lo_no {l : List Sup} {r : Rp} {g : List GP} (h : loOk l r g = false) : loP l r g = 0 ∧ loN l r g = 0 ∧ loD l r g = 0 := by simp [loP, loN, loD, h]
theorem lo_yes {l : List Sup} {r : Rp} {g : List GP} (h : loOk l r g = true) : loP l r g = (lowN l r g (endN l) : Int) ∧ loN l r g = rN (cRn l r g (lowN l r g (endN l) : Int)) (cRd l r g (lowN l r g (endN l) : Int)) ∧ loD l r g = rD (cRn l r g (lowN l r g (endN l) : Int)) (cRd l r g (lowN l r g (endN l) : Int)) := by simp [loP, loN, loD, h]
theorem endN_eq {l : List Sup} (h : IsL l) : ((endN l : Nat) : Int) = (nth l (l.length - 1)).a ∧ endN l ≤ 3000 := by
  have h2 := h.two
  have b := h.bd (i := l.length - 1) (by omega)
  unfold endN; omega
theorem on_of {l : List Sup} (h : IsL l) {k : Nat} (hk : k ≤ endN l) : onL l (k : Int) = true := by
  have e := endN_eq h
  rw [onL_iff]
  exact ⟨h, by omega, by omega⟩
theorem sg_of {l : List Sup} {r : Rp} (h : IsL l) (hr : isR r = true) {k : Nat} (hk : k ≤ endN l) : sgOk l r (k : Int) = true := by
  unfold sgOk; rw [on_of h hk, hr]; rfl
theorem results_tmp4 {fn : Func} {t u v x : Tmp} (h : fn.results = #[.tmp t, .tmp u, .tmp v, .tmp x]) (tmps : Array Value) (P : Program) (w : World) :
    (results fn tmps).run P w = .ok (.tuple #[tmps.getD t undef, tmps.getD u undef, tmps.getD v undef, tmps.getD x undef]) w := by
  simp [results, h]
theorem ret4 {a b c a' b' c' : Int} {p q : Bool} (h1 : a = a') (h2 : b = b') (h3 : c = c') (h4 : p = q) : Ending.returned (.tuple #[.int .i64 a, .int .i64 b, .int .i64 c, .bool p]) = .returned (.tuple #[.int .i64 a', .int .i64 b', .int .i64 c', .bool q]) := by rw [h1, h2, h3, h4]
set_option maxRecDepth 100000 in
set_option maxHeartbeats 4000000 in
theorem specLowestClearance_c (v0 : Value) (l : List Sup) (r : Rp) (v1 : Value) (g : List GP) (w : World) (hr0 : Rs w v0 l.length (sups l)) (hn : l.length ≤ 1048576) (hr1 : Rs w v1 g.length (gps g)) (hng : g.length ≤ 1048576) :
    Calls Try.prog 18 #[v0, .agg #[.int .i64 r.w, .int .i64 r.p], v1] w fun e w' => e = .returned (.tuple #[.int .i64 (loP l r g), .int .i64 (loN l r g), .int .i64 (loD l r g), .bool (loOk l r g)]) ∧ Below w.heap.size w w' := by
  have HX := Lib.hid (fun W h => box_Rp w r 26 _ rfl W h)
  have HR0 := Lib.hid (hr0.below ((Below.refl _ _).alloc (Nat.le_refl _) (.cells #[.int .i64 r.w, .int .i64 r.p] 26)) rfl)
  have HR1 := Lib.hid (hr1.below ((Below.refl _ _).alloc (Nat.le_refl _) (.cells #[.int .i64 r.w, .int .i64 r.p] 26)) rfl)
  have HB0 : Hid (Below w.heap.size w (w.alloc (.cells #[.int .i64 r.w, .int .i64 r.p] 26))) := Lib.hid ((Below.refl _ _).alloc (Nat.le_refl _) _)
  have E0 := Lib.hid (fun W hW => l4Asked_c v0 l r 0 W hW hn)
  have E1 := Lib.hid (fun W hW hW1 => l4Ground_c v0 l v1 g W hW hn hW1 hng)
  have h0 : sgOk l r 0 = (isL l && isR r) := by
    unfold sgOk
    cases hl : isL l with
    | false => simp [onL, hl]
    | true => have := on_of (isL_yes hl) (k := 0) (Nat.zero_le _); simp at this; rw [this]
  have hD : loOk l r g = (isR r && isG l g) := rfl
  cases hok : loOk l r g with
  | false =>
    have HV := Lib.hid (lo_no hok)
    rw [HV.out.1, HV.out.2.1, HV.out.2.2]
    rw [hok] at hD
    have HD := Lib.hid hD.symm
    clear hok HV hD hr0 hr1
    cases ho : sgOk l r 0 with
    | false =>
      rw [ho] at E0
      clear HD E1 ho h0
      go_enter Try.func18, Try.ntmps18
      go_wp2_with fail
      refine (E0.out _ HR0.out).mono ?_
      rintro e w1 ⟨rfl, b1⟩
      go_wp2
      (try simp only [Exit.inBlock, Exit.then])
      refine bodyPost_ret (results_tmp4 rfl _ _ _) rfl ?_
      exact ⟨rfl, HB0.out.trans (b1.mono HB0.out.size)⟩
    | true =>
      rw [ho, eq_comm, Bool.and_eq_true] at h0
      rw [ho] at E0
      have hq : isG l g = false := by have := HD.out; rw [h0.2] at this; simpa using this
      rw [hq] at E1
      clear HD ho h0
      go_enter Try.func18, Try.ntmps18
      go_wp2_with fail
      refine (E0.out _ HR0.out).mono ?_
      rintro e w1 ⟨rfl, b1⟩
      go_wp2_with fail
      refine (E1.out _ (HR0.out.below b1 rfl) (HR1.out.below b1 rfl)).mono ?_
      rintro e w2 ⟨rfl, d2⟩
      go_wp2
      (try simp only [Exit.inBlock, Exit.then])
      refine bodyPost_ret (results_tmp4 rfl _ _ _) rfl ?_
      exact ⟨rfl, Drew.below_trans (HB0.out.trans (b1.mono HB0.out.size)) d2⟩
  | true =>
    have HV := Lib.hid (lo_yes hok)
    rw [HV.out.1, HV.out.2.1, HV.out.2.2]
    rw [hok, eq_comm, Bool.and_eq_true] at hD
    obtain ⟨hR, hg⟩ := hD
    have hG := (isG_iff l g).1 hg
    have hL := hG.line
    have ho : sgOk l r 0 = true := by rw [h0, (isL_iff l).2 hL, hR]; rfl
    rw [ho] at E0
    rw [hg] at E1
    obtain ⟨he1, he2⟩ := endN_eq hL
    have HCl := Lib.hid (fun (k : Nat) (hk : k ≤ endN l) W hW hW1 => l4Clear_c v0 l r v1 g (k : Int) W hW hn hW1 hng (sg_of hL hR hk) hG)
    have HOK := Lib.hid (fun (k : Nat) (hk : k ≤ endN l) => cR_ok (sg_of hL hR hk) hG)
    have h2 := hL.two
    have h8 := hL.eight
    obtain ⟨a, oa, ca, rfl, hla, hm, hs⟩ := hr0.sup (by omega)
    have HA := Lib.hid hs
    obtain ⟨p1, p2, p3⟩ := pred_in l.length (by omega) (by omega)
    have hi1 : l.length - 1 < l.length := by omega
    have hi2 : (l.length : Int) - 1 < (l.length : Int) := by omega
    have HN : Hid (∀ k, lowN l r g k ≤ k) := Lib.hid (lowN_le l r g)
    have HYes : Hid (∀ k, frLt (cRn l r g ((k + 1 : Nat) : Int)) (cRd l r g ((k + 1 : Nat) : Int)) (cRn l r g (lowN l r g k : Int)) (cRd l r g (lowN l r g k : Int)) → lowN l r g (k + 1) = k + 1) := Lib.hid (fun k => lowN_yes)
    have HNo : Hid (∀ k, ¬ frLt (cRn l r g ((k + 1 : Nat) : Int)) (cRd l r g ((k + 1 : Nat) : Int)) (cRn l r g (lowN l r g k : Int)) (cRd l r g (lowN l r g k : Int)) → lowN l r g (k + 1) = lowN l r g k) := Lib.hid (fun k => lowN_no)
    have H00 : Hid (lowN l r g 0 = 0) := Lib.hid rfl
    clear hr0 hr1 hs HV hok hR hg hG hL ho h0
    generalize hE : endN l = E at *
    have HE := Lib.hid he1
    rw [← he1] at HE
    generalize hZ : (nth l (l.length - 1)).a = Z at *
    subst he1
    have HZ := Lib.hid hZ
    clear hZ hE HE
    go_enter Try.func18, Try.ntmps18
    go_wp2_with fail
    refine (E0.out _ HR0.out).mono ?_
    rintro e w1 ⟨rfl, b1⟩
    have HR01 := Lib.hid (HR0.out.below b1 rfl)
    have HR11 := Lib.hid (HR1.out.below b1 rfl)
    go_wp2_with fail
    refine (E1.out _ HR01.out HR11.out).mono ?_
    rintro e w2 ⟨rfl, d2⟩
    have HR02 := Lib.hid (d2.rs HR01.out)
    have HR12 := Lib.hid (d2.rs HR11.out)
    have hb2 := Drew.below_trans b1 d2
    have HX2 := Lib.hid (fun W (h : Below w2.heap.size w2 W) => HX.out W ((show Below (w.heap.size + 1) _ w2 by simpa using hb2).trans (h.mono (by have := hb2.size; simpa using this))))
    have B2 := Lib.hid (HB0.out.trans (hb2.mono HB0.out.size))
    have hz2 := hb2.size
    simp at hz2
    clear d2 b1 hb2 HR01 HR11 HX HR0 HR1 HB0 E0 E1
    go_wp2_with fail
    go_loopw [10, 11, 12, 13] (fun bst num den i wr => ∃ k : Nat, k ≤ E + 1 ∧ i = .int .i64 (k : Int) ∧ Below w2.heap.size w2 wr ∧ ((k = 0 ∧ bst = .int .i64 (-1) ∧ num = .int .i64 0 ∧ den = .int .i64 1) ∨ ∃ j, k = j + 1 ∧ bst = .int .i64 (lowN l r g j : Int) ∧ num = .int .i64 (cRn l r g (lowN l r g j : Int)) ∧ den = .int .i64 (cRd l r g (lowN l r g j : Int)))) (fun _ _ _ i _ => E + 1 - (intOf i).toNat)
    case atStart => exact ⟨0, Nat.zero_le _, rfl, Below.refl _ _, .inl ⟨rfl, rfl, rfl, rfl⟩⟩
    case round =>
      obtain ⟨k, hk, rfl, hb, hc⟩ := hrel
      have hsz := hb.size
      obtain ⟨c0, _, _⟩ := (HA.out.below (B2.out.trans (hb.mono B2.out.size)) hla) (l.length - 1) (by omega)
      rw [HZ.out] at c0
      have HRa := Lib.hid (HR02.out.below hb rfl)
      have HRb := Lib.hid (HR12.out.below hb rfl)
      obtain ⟨x0, x1⟩ := HX2.out wr hb
      by_cases hle : k ≤ E
      · have hki : (k : Int) ≤ (E : Int) := by omega
        obtain ⟨⟨q1, q2⟩, q3, q4⟩ := HOK.out k hle
        obtain ⟨p4, p5, p6⟩ := succ_in k (by omega)
        have HCk := Lib.hid (HCl.out k hle wr HRa.out HRb.out)
        rcases hc with ⟨hk0, rfl, rfl, rfl⟩ | ⟨j, hkj, rfl, rfl, rfl⟩
        · have HL' : Hid (lowN l r g k = k) := Lib.hid (by rw [hk0]; exact H00.out)
          clear hk0
          go_wp2_with fail
          refine HCk.out.mono ?_
          rintro e w4 ⟨rfl, b4⟩
          go_wp2
          go_roundw
          case rel => exact ⟨k + 1, by omega, by go_num, hb.trans (b4.mono hb.size), .inr ⟨k, rfl, by rw [HL'.out], by rw [HL'.out], by rw [HL'.out]⟩⟩
          case measure => simp [intOf]; omega
        · obtain ⟨⟨r1, r2⟩, r3, r4⟩ := HOK.out (lowN l r g j) (by have := HN.out j; omega)
          have HY := HYes.out j
          have HNN := HNo.out j
          rw [← hkj] at HY HNN
          have HF := Lib.hid (fun W => l4Less_c (cRn l r g (k : Int)) (cRd l r g (k : Int)) (cRn l r g (lowN l r g j : Int)) (cRd l r g (lowN l r g j : Int)) W (by omega) (by omega) (by omega) (by omega))
          have hjn : ¬ ((lowN l r g j : Int) < 0) := by omega
          by_cases hf : frLt (cRn l r g (k : Int)) (cRd l r g (k : Int)) (cRn l r g (lowN l r g j : Int)) (cRd l r g (lowN l r g j : Int))
          · have HYY := Lib.hid (HY hf)
            rw [decide_eq_true hf] at HF
            clear hf HY HNN hkj
            go_wp2_with fail
            refine HCk.out.mono ?_
            rintro e w4 ⟨rfl, b4⟩
            go_wp2_with fail
            refine (HF.out _).mono ?_
            rintro e w5 ⟨rfl, rfl⟩
            go_wp2
            go_roundw
            case rel => exact ⟨k + 1, by omega, by go_num, hb.trans (b4.mono hb.size), .inr ⟨k, rfl, by rw [HYY.out], by rw [HYY.out], by rw [HYY.out]⟩⟩
            case measure => simp [intOf]; omega
          · have HYY := Lib.hid (HNN hf)
            rw [decide_eq_false hf] at HF
            clear hf HY HNN hkj
            go_wp2_with fail
            refine HCk.out.mono ?_
            rintro e w4 ⟨rfl, b4⟩
            go_wp2_with fail
            refine (HF.out _).mono ?_
            rintro e w5 ⟨rfl, rfl⟩
            go_wp2
            go_roundw
            case rel => exact ⟨k + 1, by omega, by go_num, hb.trans (b4.mono hb.size), .inr ⟨k, rfl, by rw [HYY.out], by rw [HYY.out], by rw [HYY.out]⟩⟩
            case measure => simp [intOf]; omega
      · obtain rfl : k = E + 1 := by omega
        rcases hc with ⟨h, _⟩ | ⟨j, hj, rfl, rfl, rfl⟩
        · omega
        · obtain rfl : E = j := by omega
          obtain ⟨⟨r1, r2⟩, r3, r4⟩ := HOK.out (lowN l r g E) (HN.out E)
          have hki : ¬ ((E + 1 : Nat) : Int) ≤ (E : Int) := by omega
          have hki2 : ¬ ((E : Int) + 1 ≤ (E : Int)) := by omega
          go_wp2_with fail
          refine (l2Reduce_g (cRn l r g (lowN l r g E : Int)) (cRd l r g (lowN l r g E : Int)) _ (by omega) (by omega) (by omega) (by omega)).mono ?_
          rintro e w4 ⟨rfl, d4⟩
          go_wp2
          (try simp only [Exit.inBlock, Exit.then])
          refine bodyPost_ret (results_tmp4 rfl _ _ _) rfl ?_
          exact ⟨rfl, Drew.below_trans (B2.out.trans (hb.mono B2.out.size)) d4⟩
end Go.Proofs.Yteglekfiannncaa
