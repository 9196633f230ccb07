/- impl.MoveCabin. Condition: sizes; the table of moves is as laid. -/
import Derived.Test.YtiogjocbiagipabDoorMoveC
namespace Go.Proofs.YtiogjocbiagipabDoor
open Go.RowKit
set_option linter.unusedVariables false
theorem ret_v {v : Value} {p q : Bool} (g : p = q) : Ending.returned (.tuple #[v, .bool p]) = .returned (.tuple #[v, .bool q]) := by rw [g]
set_option maxRecDepth 100000 in
set_option maxHeartbeats 4000000 in
theorem implMoveCabin_c (v : Value) (l : List Cab) (n t : Int) (w : World) (hr : Rs w v l.length (cabs l)) (hn : l.length ≤ 1048576) (hwn : (Lit.int .i64 n).wf = true) (hwt : (Lit.int .i64 t).wf = true) (hM : MovP w) :
    Calls Tryd.prog 9 #[v, .int .i64 n, .int .i64 t] w fun e w' => ∃ g, e = .returned (.tuple #[g, .bool (mvOk l n t)]) ∧ w'.ownsRow w.heap.size 34 5 g (mvR l n t).length (cabs (mvR l n t)) ∧ Below w.heap.size w w' := by
  have hmf : ∀ (fn : Fn) (first cap : Array Value) (w : World), (Instr.makeFunc fn first cap).run Tryd.prog w = .ok (.func fn first cap) w := fun _ _ _ _ => rfl
  have E0 := Lib.hid (fun W h => implAreCabins_c v l W h hn)
  have E1 := Lib.hid (fun W => isCabinState_c t W)
  have hd : mvIn l t = (cabL l && inR t 0 3) := rfl
  have HR := Lib.hid hr
  have HM := Lib.hid hM
  clear hr hwn hwt hM
  cases hk : cabL l with
  | false =>
    rw [hk] at E0 hd
    have HN := Lib.hid (mv_in (n := n) (by rw [hd]; rfl : mvIn l t = false))
    clear hk hd E1
    go_enter Tryd.func9, Tryd.ntmps9
    go_wp2_with fail
    have HB0 : Hid (Below w.heap.size w (w.alloc (.cells #[.int .i64 n] 3))) := Lib.hid ((Below.refl _ _).alloc (Nat.le_refl _) _)
    have HP0 : Hid ((w.alloc (.cells #[.int .i64 n] 3)).cell? ⟨w.heap.size, 0, none⟩ = some (.int .i64 n)) := Lib.hid (by rw [World.cell?_alloc_at _ _ _ _ rfl]; rfl)
    have hs0 : (w.alloc (.cells #[.int .i64 n] 3)).heap.size = w.heap.size + 1 := by simp
    generalize w.alloc (.cells #[.int .i64 n] 3) = W0 at *
    refine (E0.out _ (HR.out.below HB0.out rfl)).mono ?_
    rintro e w1 ⟨rfl, b1⟩
    have HT1 := Lib.hid (HB0.out.trans (b1.mono (by omega)))
    clear b1
    go_wp2
    go_ret2
    exact ⟨_, ret_v HN.out.symm, by rw [mv_no HN.out]; exact World.ownsRow_made _ #[] 0 HT1.out.size (by decide) rfl, HT1.out.alloc HT1.out.size _⟩
  | true =>
    cases hm : inR t 0 3 with
    | false =>
      rw [hk] at E0
      rw [hm] at E1
      rw [hk, hm] at hd
      have HN := Lib.hid (mv_in (n := n) (by rw [hd]; rfl : mvIn l t = false))
      clear hk hm hd
      go_enter Tryd.func9, Tryd.ntmps9
      go_wp2_with fail
      have HB0 : Hid (Below w.heap.size w (w.alloc (.cells #[.int .i64 n] 3))) := Lib.hid ((Below.refl _ _).alloc (Nat.le_refl _) _)
      have HP0 : Hid ((w.alloc (.cells #[.int .i64 n] 3)).cell? ⟨w.heap.size, 0, none⟩ = some (.int .i64 n)) := Lib.hid (by rw [World.cell?_alloc_at _ _ _ _ rfl]; rfl)
      have hs0 : (w.alloc (.cells #[.int .i64 n] 3)).heap.size = w.heap.size + 1 := by simp
      generalize w.alloc (.cells #[.int .i64 n] 3) = W0 at *
      refine (E0.out _ (HR.out.below HB0.out rfl)).mono ?_
      rintro e w1 ⟨rfl, b1⟩
      go_wp2_with fail
      refine (E1.out _).mono ?_
      rintro e w2 ⟨rfl, rfl⟩
      have HT1 := Lib.hid (HB0.out.trans (b1.mono (by omega)))
      clear b1
      go_wp2
      go_ret2
      exact ⟨_, ret_v HN.out.symm, by rw [mv_no HN.out]; exact World.ownsRow_made _ #[] 0 HT1.out.size (by decide) rfl, HT1.out.alloc HT1.out.size _⟩
    | true =>
      have HC := Lib.hid (cabL_yes hk)
      have h12 := HC.out.len
      have ht := (inR_iff t 0 3).1 hm
      rw [hk] at E0
      rw [hm] at E1
      rw [hk, hm] at hd
      have HIN : Hid (mvIn l t = true) := Lib.hid (by rw [hd]; rfl)
      obtain ⟨s, hs⟩ : ∃ s : Nat, t = s := ⟨t.toNat, by omega⟩
      subst hs
      have hs4 : s < 4 := by omega
      clear hk hm hd
      go_enter Tryd.func9, Tryd.ntmps9
      go_wp2_with fail
      have HB0 : Hid (Below w.heap.size w (w.alloc (.cells #[.int .i64 n] 3))) := Lib.hid ((Below.refl _ _).alloc (Nat.le_refl _) _)
      have HP0 : Hid ((w.alloc (.cells #[.int .i64 n] 3)).cell? ⟨w.heap.size, 0, none⟩ = some (.int .i64 n)) := Lib.hid (by rw [World.cell?_alloc_at _ _ _ _ rfl]; rfl)
      have hs0 : (w.alloc (.cells #[.int .i64 n] 3)).heap.size = w.heap.size + 1 := by simp
      generalize w.alloc (.cells #[.int .i64 n] 3) = W0 at *
      refine (E0.out _ (HR.out.below HB0.out rfl)).mono ?_
      rintro e w1 ⟨rfl, b1⟩
      go_wp2_with fail
      refine (E1.out _).mono ?_
      rintro e w2 ⟨rfl, rfl⟩
      have HT1 := Lib.hid (HB0.out.trans (b1.mono (by omega)))
      have HP1 := Lib.hid ((b1.cell (p := ⟨w.heap.size, 0, none⟩) (by show w.heap.size < _; omega)).trans HP0.out)
      have hsz1 := b1.size
      go_wp2_with fail
      refine (idxF_c v l n w.heap.size _ (HR.out.below HT1.out rfl) h12 HP1.out (by omega)).mono ?_
      rintro e w3 ⟨rfl, b3⟩
      have HT3 := Lib.hid (HT1.out.trans (b3.mono HT1.out.size))
      clear b1 b3
      by_cases hix : idxN l n < l.length
      · have hv : idxV l n = (idxN l n : Int) := by unfold idxV; rw [if_pos hix]
        rw [hv]
        clear hv
        obtain ⟨ao, a, oa, ca, rfl, hao, hat⟩ := HR.out.form_Cab
        obtain ⟨rfl, hla, hlm⟩ := hao (by omega)
        have HL := Lib.hid hat
        have hla3 : a < w3.heap.size := by have := HT3.out.size; omega
        obtain ⟨c0, c1, c2, c3, c4⟩ := (HL.out.below HT3.out hla) (idxN l n) hix
        have hok := (isC_iff _).1 (HC.out.ok (idxN l n) hix).1
        have HMV := Lib.hid (fun h => mv_may (l := l) (n := n) (t := s) h)
        have HMT := Lib.hid (fun h => mv_trip (l := l) (n := n) (t := s) h)
        have HMA := Lib.hid (fun h3 h4 => mv_all (l := l) (n := n) (t := s) HIN.out hix h3 h4)
        have HMY := Lib.hid (fun h => mv_yes (l := l) (n := n) (t := s) h)
        have HCV := Lib.hid (cabL_mv HC.out hix (t := s) (by omega))
        have HS3 := Lib.hid (cabs_set3 l (idxN l n) hix s)
        have HS4 := Lib.hid (fun P => cabs_set4 (l.set (idxN l n) ⟨(gth l (idxN l n)).i, (gth l (idxN l n)).s, (gth l (idxN l n)).w, s, (gth l (idxN l n)).p⟩) (idxN l n) (by simpa using hix) P)
        have HGS : Hid (gth (l.set (idxN l n) ⟨(gth l (idxN l n)).i, (gth l (idxN l n)).s, (gth l (idxN l n)).w, s, (gth l (idxN l n)).p⟩) (idxN l n) = ⟨(gth l (idxN l n)).i, (gth l (idxN l n)).s, (gth l (idxN l n)).w, s, (gth l (idxN l n)).p⟩) := Lib.hid (gth_set_same hix)
        rw [HGS.out] at HS4
        have HSS : Hid (∀ x y : Cab, (l.set (idxN l n) x).set (idxN l n) y = l.set (idxN l n) y) := Lib.hid (fun x y => by simp)
        have HLN : Hid (∀ x : Cab, l.length = (l.set (idxN l n) x).length) := Lib.hid (fun x => by simp)
        have HCE : Hid (CabAt w a oa l) := HL
        have HCL : Hid (∀ (W : World) (gg : Nat), CabAt W gg 0 l → W.cell? ⟨gg, idxN l n * 5 + 3, none⟩ = some (.int .i64 (gth l (idxN l n)).g) ∧ W.cell? ⟨gg, idxN l n * 5 + 4, none⟩ = some (.int .i64 (gth l (idxN l n)).p)) := Lib.hid (fun W gg h => by
          have := h (idxN l n) hix
          simp only [Nat.zero_add] at this
          exact ⟨this.2.2.2.1, this.2.2.2.2⟩)
        generalize gth l (idxN l n) = D at *
        generalize idxN l n = k at *
        obtain ⟨f, hf⟩ : ∃ f : Nat, D.g = f := ⟨D.g.toNat, by omega⟩
        have hf4 : f < 4 := by omega
        have tb := (HM.out.below HT3.out).cell f s hf4 hs4
        rw [hf] at c3
        have HF := Lib.hid hf
        have hpb := hok.2.2.2.2
        clear hf hat hao HGS
        have k1 : (0 : Int) ≤ (k : Int) := by omega
        have k2 : ¬ (k : Int) < 0 := by omega
        have k3 : (k : Int) < (l.length : Int) := by omega
        have f1 : (0 : Int) ≤ (f : Int) := by omega
        have f2 : (f : Int) < 4 := by omega
        have s1 : (0 : Int) ≤ (s : Int) := by omega
        have s2 : (s : Int) < 4 := by omega
        cases hmay : may f s with
        | false =>
          rw [hmay] at tb
          have HN := Lib.hid (HMV.out (by rw [HF.out]; exact hmay))
          clear hmay
          go_wp2
          go_ret2
          exact ⟨_, ret_v HN.out.symm, by rw [mv_no HN.out]; exact World.ownsRow_made _ #[] 0 HT3.out.size (by decide) rfl, HT3.out.alloc HT3.out.size _⟩
        | true =>
          rw [hmay] at tb
          have HMM : Hid (may D.g s = true) := Lib.hid (by rw [HF.out]; exact hmay)
          clear hmay
          go_wp2_with fail
          refine (cloneM_c _ l w3 (HR.out.below HT3.out rfl) (by omega) h12).mono ?_
          rintro e w4 ⟨mv, rfl, o4, b4⟩
          have HT4 := Lib.hid (HT3.out.trans (b4.mono HT3.out.size))
          rcases own_form o4 with ⟨h0, rfl⟩ | ⟨g, cg, rfl, hBg, hgw, hnc, hcm⟩
          · omega
          · obtain ⟨q3, q4⟩ := HCL.out w4 g (own_Cab o4)
            have m3 := o4.frozenAt (k * 5 + 3)
            have m4 := o4.frozenAt (k * 5 + 4)
            have hag : a ≠ g := by have := HT3.out.size; omega
            have HO5 := Lib.hid (own_setM o4 (k * 5 + 3) (.int .i64 (s : Int)))
            rw [HS3.out] at HO5
            have HT5 := Lib.hid (below_set HT4.out (by have := HT3.out.size; omega : w.heap.size ≤ g) (k * 5 + 3) (.int .i64 (s : Int)))
            have c5 : (w4.setCell ⟨g, k * 5 + 3, none⟩ (.int .i64 (s : Int))).cell? ⟨a, oa + k * 5 + 3, none⟩ = some (.int .i64 (f : Int)) := by
              rw [World.cell?_setCell_other _ _ _ _ (by simp <;> omega)]
              exact (b4.cell (p := ⟨a, oa + k * 5 + 3, none⟩) hla3).trans c3
            have q5 : (w4.setCell ⟨g, k * 5 + 3, none⟩ (.int .i64 (s : Int))).cell? ⟨g, k * 5 + 4, none⟩ = some (.int .i64 D.p) := by
              rw [World.cell?_setCell_other _ _ _ _ (by simp)]
              exact q4
            have HO6 := Lib.hid (own_setM HO5.out (k * 5 + 4) (.int .i64 (D.p + 1)))
            rw [HS4.out, HSS.out] at HO6
            have HT6 := Lib.hid (below_set HT5.out (by have := HT3.out.size; omega : w.heap.size ≤ g) (k * 5 + 4) (.int .i64 (D.p + 1)))
            have m6 : (w4.setCell ⟨g, k * 5 + 3, none⟩ (.int .i64 (s : Int))).frozen? ⟨g, k * 5 + 4, none⟩ = false := by
              have h := HO5.out.frozenAt (k * 5 + 4)
              exact h
            have e1 : IntKind.i64.wrap (D.p + 1) = D.p + 1 := IntWalk.i64_in _ (by omega)
            have hwsz : w.heap.size ≤ w3.heap.size := HT3.out.size
            clear o4 b4 c0 c1 c2 c4
            by_cases hf1 : f = 1
            · have a1 : ((f : Int) == 1) = true := by rw [beq_iff_eq]; omega
              have a2 : (f == 1) = true := by rw [beq_iff_eq]; omega
              by_cases hs0' : s = 0
              · have a3 : ((s : Int) == 0) = true := by rw [beq_iff_eq]; omega
                have a4 : (s == 0) = true := by rw [beq_iff_eq]; omega
                have HF1 := Lib.hid hf1
                have HS0 := Lib.hid hs0'
                clear hf1 hs0'
                have HMC : Hid (mvC D (s : Int) = ⟨D.i, D.s, D.w, s, D.p + 1⟩) := Lib.hid (by unfold mvC; rw [if_pos ⟨by rw [HF.out, HF1.out]; rfl, by rw [HS0.out]; rfl⟩])
                go_wp2_with fail
                have HO7 : Hid (((w4.setCell ⟨g, k * 5 + 3, none⟩ (.int .i64 (s : Int))).setCell ⟨g, k * 5 + 4, none⟩ (.int .i64 (D.p + 1))).ownsRow w3.heap.size 34 5 (.slice (some ⟨g, 0, none⟩) l.length cg) l.length (cabs (l.set k (mvC D (s : Int))))) := Lib.hid (by rw [HMC.out]; exact HO6.out)
                have HT7 : Hid (Below w.heap.size w ((w4.setCell ⟨g, k * 5 + 3, none⟩ (.int .i64 (s : Int))).setCell ⟨g, k * 5 + 4, none⟩ (.int .i64 (D.p + 1)))) := HT6
                generalize (w4.setCell ⟨g, k * 5 + 3, none⟩ (.int .i64 (s : Int))).setCell ⟨g, k * 5 + 4, none⟩ (.int .i64 (D.p + 1)) = W7 at *
                have HO8 := Lib.hid (own_lenM HO7.out (HLN.out (mvC D (s : Int))))
                refine (implAreCabins_c _ (l.set k (mvC D (s : Int))) _ (Rs.of_own (by have h := HO8.out; rw [← HLN.out (mvC D (s : Int))] at h ⊢; exact h)) (by rw [← HLN.out]; omega)).mono ?_
                rintro e w8 ⟨rfl, b8⟩
                have HT8 := Lib.hid (HT7.out.trans (b8.mono HT7.out.size))
                have HO9 := Lib.hid (owns_below HO8.out b8)
                clear b8
                cases hq : cabL (l.set k (mvC D (s : Int))) with
                | false =>
                  have HN := Lib.hid (HMT.out (by have h := HCV.out; rw [hq] at h; simpa using h.symm))
                  clear hq
                  go_wp2
                  go_ret2
                  exact ⟨_, ret_v HN.out.symm, by rw [mv_no HN.out]; exact World.ownsRow_made _ #[] 0 HT8.out.size (by decide) rfl, HT8.out.alloc HT8.out.size _⟩
                | true =>
                  have HY := Lib.hid (HMA.out HMM.out (by have h := HCV.out; rw [hq] at h; simpa using h.symm))
                  clear hq
                  go_wp2
                  go_ret2
                  refine ⟨_, ret_v HY.out.symm, ?_, HT8.out⟩
                  rw [HMY.out HY.out]
                  have h := own_mono HO9.out hwsz
                  rw [← HLN.out (mvC D (s : Int))] at h ⊢
                  exact h
              · have a3 : ((s : Int) == 0) = false := by rw [beq_eq_false_iff_ne]; omega
                have a4 : (s == 0) = false := by rw [beq_eq_false_iff_ne]; omega
                have HMC : Hid (mvC D (s : Int) = ⟨D.i, D.s, D.w, s, D.p⟩) := Lib.hid (by unfold mvC; rw [if_neg (by rw [HF.out]; omega)])
                go_wp2_with fail
                have HO7 : Hid ((w4.setCell ⟨g, k * 5 + 3, none⟩ (.int .i64 (s : Int))).ownsRow w3.heap.size 34 5 (.slice (some ⟨g, 0, none⟩) l.length cg) l.length (cabs (l.set k (mvC D (s : Int))))) := Lib.hid (by rw [HMC.out]; exact HO5.out)
                have HT7 : Hid (Below w.heap.size w (w4.setCell ⟨g, k * 5 + 3, none⟩ (.int .i64 (s : Int)))) := HT5
                generalize w4.setCell ⟨g, k * 5 + 3, none⟩ (.int .i64 (s : Int)) = W7 at *
                have HO8 := Lib.hid (own_lenM HO7.out (HLN.out (mvC D (s : Int))))
                refine (implAreCabins_c _ (l.set k (mvC D (s : Int))) _ (Rs.of_own (by have h := HO8.out; rw [← HLN.out (mvC D (s : Int))] at h ⊢; exact h)) (by rw [← HLN.out]; omega)).mono ?_
                rintro e w8 ⟨rfl, b8⟩
                have HT8 := Lib.hid (HT7.out.trans (b8.mono HT7.out.size))
                have HO9 := Lib.hid (owns_below HO8.out b8)
                clear b8
                cases hq : cabL (l.set k (mvC D (s : Int))) with
                | false =>
                  have HN := Lib.hid (HMT.out (by have h := HCV.out; rw [hq] at h; simpa using h.symm))
                  clear hq
                  go_wp2
                  go_ret2
                  exact ⟨_, ret_v HN.out.symm, by rw [mv_no HN.out]; exact World.ownsRow_made _ #[] 0 HT8.out.size (by decide) rfl, HT8.out.alloc HT8.out.size _⟩
                | true =>
                  have HY := Lib.hid (HMA.out HMM.out (by have h := HCV.out; rw [hq] at h; simpa using h.symm))
                  clear hq
                  go_wp2
                  go_ret2
                  refine ⟨_, ret_v HY.out.symm, ?_, HT8.out⟩
                  rw [HMY.out HY.out]
                  have h := own_mono HO9.out hwsz
                  rw [← HLN.out (mvC D (s : Int))] at h ⊢
                  exact h
            · have a1 : ((f : Int) == 1) = false := by rw [beq_eq_false_iff_ne]; omega
              have a2 : (f == 1) = false := by rw [beq_eq_false_iff_ne]; omega
              have HMC : Hid (mvC D (s : Int) = ⟨D.i, D.s, D.w, s, D.p⟩) := Lib.hid (by unfold mvC; rw [if_neg (by rw [HF.out]; omega)])
              go_wp2_with fail
              have HO7 : Hid ((w4.setCell ⟨g, k * 5 + 3, none⟩ (.int .i64 (s : Int))).ownsRow w3.heap.size 34 5 (.slice (some ⟨g, 0, none⟩) l.length cg) l.length (cabs (l.set k (mvC D (s : Int))))) := Lib.hid (by rw [HMC.out]; exact HO5.out)
              have HT7 : Hid (Below w.heap.size w (w4.setCell ⟨g, k * 5 + 3, none⟩ (.int .i64 (s : Int)))) := HT5
              generalize w4.setCell ⟨g, k * 5 + 3, none⟩ (.int .i64 (s : Int)) = W7 at *
              have HO8 := Lib.hid (own_lenM HO7.out (HLN.out (mvC D (s : Int))))
              refine (implAreCabins_c _ (l.set k (mvC D (s : Int))) _ (Rs.of_own (by have h := HO8.out; rw [← HLN.out (mvC D (s : Int))] at h ⊢; exact h)) (by rw [← HLN.out]; omega)).mono ?_
              rintro e w8 ⟨rfl, b8⟩
              have HT8 := Lib.hid (HT7.out.trans (b8.mono HT7.out.size))
              have HO9 := Lib.hid (owns_below HO8.out b8)
              clear b8
              cases hq : cabL (l.set k (mvC D (s : Int))) with
              | false =>
                have HN := Lib.hid (HMT.out (by have h := HCV.out; rw [hq] at h; simpa using h.symm))
                clear hq
                go_wp2
                go_ret2
                exact ⟨_, ret_v HN.out.symm, by rw [mv_no HN.out]; exact World.ownsRow_made _ #[] 0 HT8.out.size (by decide) rfl, HT8.out.alloc HT8.out.size _⟩
              | true =>
                have HY := Lib.hid (HMA.out HMM.out (by have h := HCV.out; rw [hq] at h; simpa using h.symm))
                clear hq
                go_wp2
                go_ret2
                refine ⟨_, ret_v HY.out.symm, ?_, HT8.out⟩
                rw [HMY.out HY.out]
                have h := own_mono HO9.out hwsz
                rw [← HLN.out (mvC D (s : Int))] at h ⊢
                exact h
      · have hv : idxV l n = -1 := by unfold idxV; rw [if_neg hix]
        rw [hv]
        have HN := Lib.hid (mv_none (t := (s : Int)) (Nat.le_antisymm (idxN_le l n) (Nat.le_of_not_lt hix)))
        clear hv hix
        go_wp2
        go_ret2
        exact ⟨_, ret_v HN.out.symm, by rw [mv_no HN.out]; exact World.ownsRow_made _ #[] 0 HT3.out.size (by decide) rfl, HT3.out.alloc HT3.out.size _⟩
end Go.Proofs.YtiogjocbiagipabDoor
