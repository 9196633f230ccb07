/- RemoveCabin, the specification's. Condition: sizes. -/
import Derived.Test.YtmmjbdffpgohdaaCirR
import Derived.Deep.RegionHeld3
namespace Go.Proofs.Ytmmjbdffpgohdaa
open Go.RowKit
set_option linter.unusedVariables false
theorem iv_app (a b : List Int) : intVs (a ++ b) = intVs a ++ intVs b := by simp [intVs]
theorem Rd.take {w : World} {a : Option Addr} {c k : Nat} {l : List Int} (h : Rd w (.slice a l.length c) (intVs l)) (hk : k ≤ l.length) : Rd w (.slice a k c) (intVs (l.take k)) := by
  have hl : (intVs (l.take k)).length = k := by simp [intVs]; omega
  have hll : (intVs l).length = l.length := by simp [intVs]
  rcases h with ⟨h0, _⟩ | ⟨b, off, cap, hv, hlt, hm, hc⟩
  · have h1 : l = [] := by simpa [intVs] using h0
    subst h1
    have : k = 0 := by simpa using hk
    subst this
    exact .inl ⟨rfl, _, _, rfl⟩
  · rw [hll] at hv
    cases hv
    refine .inr ⟨b, off, c, by rw [hl], hlt, by rw [hl]; rw [hll] at hm; omega, fun i u hi => ?_⟩
    refine hc i u ?_
    have hik : i < k := by have := (List.getElem?_eq_some_iff.1 hi).1; omega
    rw [int_at (by simp; omega)] at hi
    rw [int_at (by omega)]
    simpa [List.getD, hik] using hi
theorem Rd.cap_le {w : World} {a : Option Addr} {c : Nat} {l : List Int} (h : Rd w (.slice a l.length c) (intVs l)) (h0 : 0 < l.length) : l.length ≤ c := by
  have hll : (intVs l).length = l.length := by simp [intVs]
  rcases h with ⟨h1, _⟩ | ⟨b, off, cap, hv, hlt, hm, hc⟩
  · have : l = [] := by simpa [intVs] using h1
    subst this
    simp at h0
  · rw [hll] at hv hm
    cases hv
    omega
set_option maxRecDepth 100000 in
set_option maxHeartbeats 4000000 in
theorem specRemoveCabin_c (L S : Int) (v : Value) (l : List Int) (k : Int) (w : World) (hr : Rd w v (intVs l)) (hn : l.length ≤ 1048576) (hwk : (Lit.int .i64 k).wf = true) :
    Calls Try.prog 49 #[.agg #[.int .i64 L, .int .i64 S, v], .int .i64 k] w (CirR w (rcL L S l k) (rcS L S l k) (rcR L S l k) (rcOk L S l k)) := by
  have E0 := Lib.hid (fun W v h => l8Good_c L S v l W h hn)
  have E1 := Lib.hid (fun W => l1In_c k 0 ((l.length : Int) - 1) W)
  have HR := Lib.hid hr
  obtain ⟨ao, a, oa, ca, rfl, hao, hat⟩ := hr.form8
  have HA := Lib.hid hao
  have HL := Lib.hid hat
  have HB := Lib.hid (((Below.refl w.heap.size w).alloc (Nat.le_refl _) (.cells #[.int .i64 L, .int .i64 S, .slice ao l.length ca] 55)).alloc (by simp) (.cells #[.int .i64 0, .int .i64 0, .slice none 0 0] 55))
  have HB0 := Lib.hid (blk_stay (o' := .cells #[.int .i64 0, .int .i64 0, .slice none 0 0] 55) (blk_new3 w (.int .i64 L) (.int .i64 S) (.slice ao l.length ca) 55))
  have hb1 := blk_new3 (w.alloc (.cells #[.int .i64 L, .int .i64 S, .slice ao l.length ca] 55)) (.int .i64 0) (.int .i64 0) (.slice none 0 0) 55
  simp only [World.size_alloc] at hb1
  have HB1 := Lib.hid hb1
  have hd : rcOk L S l k = (cirV L S l && inR k 0 ((l.length : Int) - 1)) := rfl
  have q1 : IntKind.i64.wrap ((l.length : Int) - 1) = (l.length : Int) - 1 := IntWalk.i64_in _ (by omega)
  clear hr hwk hb1 hao hat
  cases hk : cirV L S l with
  | false =>
    rw [hk] at E0 hd
    have HD : Hid (rcOk L S l k = false) := Lib.hid (by rw [hd]; rfl)
    have HN := Lib.hid (rc_no HD.out)
    clear hk hd E1
    go_enter Try.func49, Try.ntmps49
    go_wp2_with fail
    refine (E0.out _ _ (HR.out.below HB.out rfl)).mono ?_
    rintro e w1 ⟨rfl, b1⟩
    have HT := Lib.hid (HB.out.trans (b1.mono HB.out.size))
    have HK1 := Lib.hid (blk_keep HB1.out b1 (by simp))
    clear b1
    have KZ := HK1.out
    obtain ⟨r0, r1, r2⟩ := blk_cell3 KZ
    obtain ⟨s0, s1, s2⟩ := blk_froz3 KZ
    have Z := blk_all3 (x := .int .i64 0) (y := .int .i64 0) (z := .slice none 0 0) KZ
    obtain ⟨z0, z1, z2⟩ := blk_cell3 Z
    have Z0 := Lib.hid z0
    have Z1 := Lib.hid z1
    have Z2 := Lib.hid z2
    have HTF := Lib.hid (below_all3 HT.out (b := w.heap.size + 1) (by omega) (.int .i64 0) (.int .i64 0) (.slice none 0 0))
    clear Z z0 z1 z2 KZ
    go_wp2
    refine bodyPost_ret (v := .tuple #[.agg #[.int .i64 0, .int .i64 0, .slice none 0 0], .bool false]) (by simp [results, Try.results49, go_sem, Z0.out, Z1.out, Z2.out]) rfl (cirR_no HN.out HD.out HTF.out)
  | true =>
    cases hm : inR k 0 ((l.length : Int) - 1) with
    | false =>
      rw [hk] at E0
      rw [hm] at E1
      rw [hk, hm] at hd
      have HD : Hid (rcOk L S l k = false) := Lib.hid (by rw [hd]; rfl)
      have HN := Lib.hid (rc_no HD.out)
      clear hk hm hd
      go_enter Try.func49, Try.ntmps49
      go_wp2_with fail
      refine (E0.out _ _ (HR.out.below HB.out rfl)).mono ?_
      rintro e w1 ⟨rfl, b1⟩
      have HT := Lib.hid (HB.out.trans (b1.mono HB.out.size))
      have HK1 := Lib.hid (blk_keep HB1.out b1 (by simp))
      obtain ⟨c0, c1, c2⟩ := blk_cell3 (blk_keep HB0.out b1 (by simp; omega))
      clear b1
      go_wp2_with fail
      refine (E1.out _).mono ?_
      rintro e w2 ⟨rfl, rfl⟩
      have KZ := HK1.out
      obtain ⟨r0, r1, r2⟩ := blk_cell3 KZ
      obtain ⟨s0, s1, s2⟩ := blk_froz3 KZ
      have Z := blk_all3 (x := .int .i64 0) (y := .int .i64 0) (z := .slice none 0 0) KZ
      obtain ⟨z0, z1, z2⟩ := blk_cell3 Z
      have Z0 := Lib.hid z0
      have Z1 := Lib.hid z1
      have Z2 := Lib.hid z2
      have HTF := Lib.hid (below_all3 HT.out (b := w.heap.size + 1) (by omega) (.int .i64 0) (.int .i64 0) (.slice none 0 0))
      clear Z z0 z1 z2 KZ
      go_wp2
      refine bodyPost_ret (v := .tuple #[.agg #[.int .i64 0, .int .i64 0, .slice none 0 0], .bool false]) (by simp [results, Try.results49, go_sem, Z0.out, Z1.out, Z2.out]) rfl (cirR_no HN.out HD.out HTF.out)
    | true =>
      have hkb := (inR_iff k 0 ((l.length : Int) - 1)).1 hm
      have h12 := (cirV_parts hk).2.2.2
      rw [hk] at E0
      rw [hm] at E1
      rw [hk, hm] at hd
      have HD : Hid (rcOk L S l k = true) := Lib.hid (by rw [hd]; rfl)
      have HY := Lib.hid (rc_yes HD.out)
      obtain ⟨n, rfl⟩ : ∃ n : Nat, k = n := ⟨k.toNat, by omega⟩
      rw [Int.toNat_natCast] at HY
      have hnl : n < l.length := by omega
      obtain ⟨rfl, hla, hlm⟩ := HA.out (by omega)
      have q2 : IntKind.i64.wrap ((n : Int) + 1) = (n : Int) + 1 := IntWalk.i64_in _ (by omega)
      have HLEN : Hid ((l.take n ++ l.drop (n + 1)).length = l.length - 1) := Lib.hid (by simp; omega)
      clear hk hm hd
      go_enter Try.func49, Try.ntmps49
      go_wp2_with fail
      refine (E0.out _ _ (HR.out.below HB.out rfl)).mono ?_
      rintro e w1 ⟨rfl, b1⟩
      have HT := Lib.hid (HB.out.trans (b1.mono HB.out.size))
      have HK1 := Lib.hid (blk_keep HB1.out b1 (by simp))
      have HK0 := Lib.hid (blk_keep HB0.out b1 (by simp; omega))
      have hs1 : w.heap.size + 2 ≤ w1.heap.size := by have := b1.size; simpa using this
      clear b1
      obtain ⟨c0, c1, c2⟩ := blk_cell3 HK0.out
      go_wp2_with fail
      refine (E1.out _).mono ?_
      rintro e w2 ⟨rfl, rfl⟩
      have HRT := Lib.hid (Rd.take HR.out (k := n) (by omega))
      have HLT : Hid ((l.take n).length = n) := Lib.hid (by simp; omega)
      have HLD : Hid ((intVs (l.drop (n + 1))).length = (l.length - (n + 1)) * 1) := Lib.hid (by simp [intVs])
      have HCE := Lib.hid (iv_cells (l.drop (n + 1)))
      have HAP := Lib.hid (iv_app (l.take n) (l.drop (n + 1)))
      have HDN : Hid (∀ W, Below w2.heap.size w2 W → ∀ z u, (intVs (l.drop (n + 1)))[z]? = some u → W.cell? ((⟨a, oa + (n + 1), none⟩ : Addr).add z) = some u) := Lib.hid (fun W hW z u hu => by
        rw [gs_addr]
        have hz : z < l.length - (n + 1) := by have := (List.getElem?_eq_some_iff.1 hu).1; simp at this; omega
        have h1 := (HL.out.below (HT.out.trans (hW.mono HT.out.size)) hla) (n + 1 + z) (by omega)
        rw [show oa + (n + 1) + z = oa + (n + 1 + z) by omega, h1]
        have h2 : (intVs (l.drop (n + 1)))[z]? = some (.int .i64 (l.getD (n + 1 + z) 0)) := by
          rw [int_at (by simp; omega)]
          simp [List.getD, List.getElem?_drop]
        rw [h2] at hu
        exact hu)
      obtain ⟨i0, hi, hz0, hz1, hz2⟩ := info_parts Try.infoInt8
      have HRC := Lib.hid (fun W (hW : Below w2.heap.size w2 W) => HR.out.below (HT.out.trans (hW.mono HT.out.size)) rfl)
      have HRTW := Lib.hid (fun W (hW : Below w2.heap.size w2 W) => HRT.out.below (HT.out.trans (hW.mono HT.out.size)) rfl)
      have HKS : Hid (∀ W, Below (w.heap.size + 1) w2 W → Below (w.heap.size + 1) w2 W ∧ W.cell? ⟨w.heap.size, 0, none⟩ = some (.int .i64 L) ∧ W.cell? ⟨w.heap.size, 1, none⟩ = some (.int .i64 S) ∧ W.cell? ⟨w.heap.size, 2, none⟩ = some (.slice (some ⟨a, oa, none⟩) l.length ca)) := Lib.hid (fun W hW => by
        obtain ⟨d0, d1, d2⟩ := blk_cell3 (blk_keep HK0.out hW (by omega))
        exact ⟨hW, d0, d1, d2⟩)
      have hcl := HR.out.cap_le (by omega)
      have hcn : n ≤ ca := by omega
      have hcn1 : n + 1 ≤ ca := by omega
      have j1 : (0 : Int) ≤ (n : Int) := by omega
      have j2 : (n : Int) ≤ (ca : Int) := by omega
      have j3 : (0 : Int) ≤ (n : Int) + 1 := by omega
      have j4 : (n : Int) + 1 ≤ (l.length : Int) := by omega
      have j5 : (l.length : Int) ≤ (ca : Int) := by omega
      have j8 : (n : Int) ≤ (n : Int) + 1 := by omega
      have j9 : (l.length : Int) ≤ (n : Int) + 1 → l.length = n + 1 := by omega
      have j6 : ((n : Int) + 1).toNat = n + 1 := by omega
      have j7 : (n : Int) ≤ (l.length : Int) := by omega
      have HKP := HK1
      by_cases hca : ca = n + 1
      · subst hca
        have HCL := Lib.hid hcl
        clear hcl j9
        go_wp2_with fail
        go_region_held3 (fun w' => Below (w.heap.size + 1) w2 w' ∧ w'.cell? ⟨w.heap.size, 0, none⟩ = some (.int .i64 L) ∧ w'.cell? ⟨w.heap.size, 1, none⟩ = some (.int .i64 S) ∧ w'.cell? ⟨w.heap.size, 2, none⟩ = some (.slice (some ⟨a, oa, none⟩) l.length (n + 1)))
          (exact HKS.out _ (by first | exact Below.refl _ _ | exact (Below.refl _ _).drew | exact B3T.mono (by omega) | exact below_all3 (B3T.mono (by omega)) (by omega) _ _ _ | exact B2T.mono (by omega) | exact B1T.mono (by omega) | fail))
          (first
            | (go_at_call 88; refine (l1Own_c _ (l.take n) _ (HRTW.out _ (by first | exact Below.refl _ _ | exact (Below.refl _ _).drew | fail)) (by simp; omega)).mono ?_; rintro e W1 ⟨g1, rfl, o1, hg1, b1⟩; have B1T : Below w2.heap.size w2 W1 := (Below.refl _ _).drew.trans b1; have Q1 := Lib.hid (blk_keep HKP.out B1T (by omega)); rw [HLT.out] at o1)
            | (refine step_append_any _ (by rfl) _ _ _ (by rfl) w2.heap.size 3 i0 (.int .i64 0) 1 8 Try.underlying49 hi hz0 hz1 hz2 rfl (by omega) g1 n (intVs (l.take n)) (by rfl) o1 (some ⟨a, oa, none⟩) (l.length - (n + 1)) 0 (intVs (l.drop (n + 1))) (by rfl) HLD.out (fun hmm => absurd hmm (by have := HCL.out; omega)) HCE.out (by unfold maxLen; omega) (by omega) (by exact B1T.size) ?_; intro g2 W2 o2 gr2 at2; have B2T : Below w2.heap.size w2 W2 := B1T.grown gr2 B1T.size (fun j hj => (o1.lt j hj).1); have Q2 := Lib.hid ((gr2.block (w.heap.size + 1) (by have := B1T.size; omega) (fun e => by have : w2.heap.size ≤ w.heap.size + 1 := (o1.lt _ e.symm).1; omega)).trans Q1.out); rw [← HAP.out] at o2; obtain ⟨ga2, gc2, rfl⟩ := (Rs.of_own o2).shape)
            | (go_at_call 86; refine (l8With_c L S _ _ l (l.take n ++ l.drop (n + 1)) _ (HRC.out _ (by first | exact B2T | fail)) (Rd.of_own o2) (by rw [HLEN.out]; omega)).mono ?_; rintro e W3 ⟨g3, rfl, o3, hg3, b3⟩; have B3T : Below w2.heap.size w2 W3 := B2T.trans (b3.mono B2T.size); have K3 := blk_keep Q2.out b3 (by have := B2T.size; omega); rw [HLEN.out] at o3; obtain ⟨ga3, gc3, rfl⟩ := (Rs.of_own o3).shape; obtain ⟨r0, r1, r2⟩ := blk_cell3 K3; obtain ⟨s0, s1, s2⟩ := blk_froz3 K3)
            | fail)
        have Z := blk_all3 (x := .int .i64 L) (y := .int .i64 S) (z := .slice ga3 (l.length - 1) gc3) K3
        obtain ⟨z0, z1, z2⟩ := blk_cell3 Z
        have Z0 := Lib.hid z0
        have Z1 := Lib.hid z1
        have Z2 := Lib.hid z2
        have HOF := Lib.hid (own_by (b := w.heap.size + 1) (own_mono o3 (show w.heap.size ≤ W2.heap.size by have := B2T.size; omega)) (grown_all3 W3 (w.heap.size + 1) (.int .i64 L) (.int .i64 S) (.slice ga3 (l.length - 1) gc3)) (fun h => by have : W2.heap.size ≤ w.heap.size + 1 := (o3.lt _ h).1; have := B2T.size; omega))
        have HTF := Lib.hid (below_all3 (HT.out.trans (B3T.mono HT.out.size)) (b := w.heap.size + 1) (by omega) (.int .i64 L) (.int .i64 S) (.slice ga3 (l.length - 1) gc3))
        clear Z z0 z1 z2 K3 r0 r1 r2 s0 s1 s2
        go_wp2
        refine bodyPost_ret (v := .tuple #[.agg #[.int .i64 L, .int .i64 S, .slice ga3 (l.length - 1) gc3], .bool true]) (by simp [results, Try.results49, go_sem, Z0.out, Z1.out, Z2.out]) rfl ⟨_, by rw [HY.out.1, HY.out.2.1, HD.out], by rw [HY.out.2.2, HLEN.out]; exact HOF.out, HTF.out⟩
      · skip
        go_wp2_with fail
        go_region_held3 (fun w' => Below (w.heap.size + 1) w2 w' ∧ w'.cell? ⟨w.heap.size, 0, none⟩ = some (.int .i64 L) ∧ w'.cell? ⟨w.heap.size, 1, none⟩ = some (.int .i64 S) ∧ w'.cell? ⟨w.heap.size, 2, none⟩ = some (.slice (some ⟨a, oa, none⟩) l.length ca))
          (exact HKS.out _ (by first | exact Below.refl _ _ | exact (Below.refl _ _).drew | exact B3T.mono (by omega) | exact below_all3 (B3T.mono (by omega)) (by omega) _ _ _ | exact B2T.mono (by omega) | exact B1T.mono (by omega) | fail))
          (first
            | (go_at_call 88; refine (l1Own_c _ (l.take n) _ (HRTW.out _ (by first | exact Below.refl _ _ | exact (Below.refl _ _).drew | fail)) (by simp; omega)).mono ?_; rintro e W1 ⟨g1, rfl, o1, hg1, b1⟩; have B1T : Below w2.heap.size w2 W1 := (Below.refl _ _).drew.trans b1; have Q1 := Lib.hid (blk_keep HKP.out B1T (by omega)); rw [HLT.out] at o1)
            | (refine step_append_any _ (by rfl) _ _ _ (by rfl) w2.heap.size 3 i0 (.int .i64 0) 1 8 Try.underlying49 hi hz0 hz1 hz2 rfl (by omega) g1 n (intVs (l.take n)) (by rfl) o1 (some ⟨a, oa + (n + 1), none⟩) (l.length - (n + 1)) (ca - (n + 1)) (intVs (l.drop (n + 1))) (by rfl) HLD.out (fun hmm => ⟨_, rfl, HDN.out _ (by go_split_ands; first | assumption | exact B1T)⟩) HCE.out (by unfold maxLen; omega) (by omega) (by exact B1T.size) ?_; intro g2 W2 o2 gr2 at2; have B2T : Below w2.heap.size w2 W2 := B1T.grown gr2 B1T.size (fun j hj => (o1.lt j hj).1); have Q2 := Lib.hid ((gr2.block (w.heap.size + 1) (by have := B1T.size; omega) (fun e => by have : w2.heap.size ≤ w.heap.size + 1 := (o1.lt _ e.symm).1; omega)).trans Q1.out); rw [← HAP.out] at o2; obtain ⟨ga2, gc2, rfl⟩ := (Rs.of_own o2).shape)
            | (go_at_call 86; refine (l8With_c L S _ _ l (l.take n ++ l.drop (n + 1)) _ (HRC.out _ (by first | exact B2T | fail)) (Rd.of_own o2) (by rw [HLEN.out]; omega)).mono ?_; rintro e W3 ⟨g3, rfl, o3, hg3, b3⟩; have B3T : Below w2.heap.size w2 W3 := B2T.trans (b3.mono B2T.size); have K3 := blk_keep Q2.out b3 (by have := B2T.size; omega); rw [HLEN.out] at o3; obtain ⟨ga3, gc3, rfl⟩ := (Rs.of_own o3).shape; obtain ⟨r0, r1, r2⟩ := blk_cell3 K3; obtain ⟨s0, s1, s2⟩ := blk_froz3 K3)
            | fail)
        have Z := blk_all3 (x := .int .i64 L) (y := .int .i64 S) (z := .slice ga3 (l.length - 1) gc3) K3
        obtain ⟨z0, z1, z2⟩ := blk_cell3 Z
        have Z0 := Lib.hid z0
        have Z1 := Lib.hid z1
        have Z2 := Lib.hid z2
        have HOF := Lib.hid (own_by (b := w.heap.size + 1) (own_mono o3 (show w.heap.size ≤ W2.heap.size by have := B2T.size; omega)) (grown_all3 W3 (w.heap.size + 1) (.int .i64 L) (.int .i64 S) (.slice ga3 (l.length - 1) gc3)) (fun h => by have : W2.heap.size ≤ w.heap.size + 1 := (o3.lt _ h).1; have := B2T.size; omega))
        have HTF := Lib.hid (below_all3 (HT.out.trans (B3T.mono HT.out.size)) (b := w.heap.size + 1) (by omega) (.int .i64 L) (.int .i64 S) (.slice ga3 (l.length - 1) gc3))
        clear Z z0 z1 z2 K3 r0 r1 r2 s0 s1 s2
        go_wp2
        refine bodyPost_ret (v := .tuple #[.agg #[.int .i64 L, .int .i64 S, .slice ga3 (l.length - 1) gc3], .bool true]) (by simp [results, Try.results49, go_sem, Z0.out, Z1.out, Z2.out]) rfl ⟨_, by rw [HY.out.1, HY.out.2.1, HD.out], by rw [HY.out.2.2, HLEN.out]; exact HOF.out, HTF.out⟩
end Go.Proofs.Ytmmjbdffpgohdaa
