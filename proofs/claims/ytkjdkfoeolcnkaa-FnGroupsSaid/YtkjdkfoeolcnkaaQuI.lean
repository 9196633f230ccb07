/- Queues with groups: impl.leastFrom and LeastCabins. Condition: sizes. -/
import Derived.Test.YtkjdkfoeolcnkaaQuH
import Derived.Deep.CutRange
import Derived.Deep.DeepCutAuto
namespace Go.Proofs.Ytkjdkfoeolcnkaa
open Go.RowKit
set_option linter.unusedVariables false
theorem zsQ_cons (x : Gro) (l : List Gro) : zsQ (x :: l) = x.z :: zsQ l := rfl
theorem gro_tail {w : World} {a oa ca : Nat} {D : Gro} {l : List Gro} (h : GroAt w a oa (D :: l)) (ha : a < w.heap.size) (hc : (D :: l).length ≤ ca) (hm : (D :: l).length ≤ maxLen) : Rs w (.slice (some ⟨a, oa + 2, none⟩) l.length (ca - 1)) l.length (gros l) := by
  rw [List.length_cons] at hc hm
  refine .inr ⟨a, oa + 2, ca - 1, rfl, ha, ⟨by omega, by omega⟩, fun i u hu => ?_⟩
  have hi : i < l.length * 2 := by rw [← gros_len]; exact (List.getElem?_eq_some_iff.1 hu).1
  have hj : i / 2 < l.length := by omega
  obtain ⟨e0, e1⟩ := gros_at l (i / 2) hj
  obtain ⟨c0, c1⟩ := h (i / 2 + 1) (by simp; omega)
  have hg : gth (D :: l) (i / 2 + 1) = gth l (i / 2) := by simp [gth, List.getD]
  rw [hg] at c0 c1
  by_cases h2 : i % 2 = 0
  · have : i / 2 * 2 = i := by omega
    rw [this] at e0
    rw [e0] at hu
    cases hu
    rw [show oa + 2 + i = oa + (i / 2 + 1) * 2 by omega]
    exact c0
  · have : i / 2 * 2 + 1 = i := by omega
    rw [this] at e1
    rw [e1] at hu
    cases hu
    rw [show oa + 2 + i = oa + (i / 2 + 1) * 2 + 1 by omega]
    exact c1
theorem Rs.cap_le {w : World} {ao : Option Addr} {n cap : Nat} {xs : List Value} (h : Rs w (.slice ao n cap) n xs) (h0 : n ≠ 0) : n ≤ cap := by
  obtain ⟨b, off, c, hv, _, hc, _⟩ := h.pos h0
  cases hv
  exact hc
theorem cell_bd {F : List Int} {m : Int} (h : ∀ y, y ∈ F → 0 ≤ y ∧ y ≤ m) {k : Nat} (hk : k < F.length) : 0 ≤ F.getD k 0 ∧ F.getD k 0 ≤ m := h _ (getD_mem13 hk)
set_option maxRecDepth 100000 in
set_option maxHeartbeats 8000000 in
theorem leastFrom_c (s : Int) (hs : 1 ≤ s ∧ s ≤ 10) : ∀ (l : List Gro) (v u : Value) (F : List Int) (w : World), Rs w v l.length (gros l) → Rd w u (intVs F) → (∀ x, x ∈ l → 1 ≤ x.z ∧ x.z ≤ s) → (∀ y, y ∈ F → 0 ≤ y ∧ y ≤ 10) → F.length + l.length ≤ 8 →
    Calls Try.prog 59 #[v, .int .i64 s, u] w fun e w' => e = .returned (.int .i64 (lfR s (zsQ l) F : Int)) ∧ Below w.heap.size w w' := by
  obtain ⟨i0, hi, hz0, hz1, hz2⟩ := info_parts Try.infoIntR
  intro l
  induction l with
  | nil =>
    intro v u F w hr hu hx hy hn
    obtain ⟨a, ca, rfl⟩ := hr.zero
    obtain ⟨uo, ub, ob, cb, rfl, _, _⟩ := hu.formR
    clear hr hu
    go_enter Try.func59, Try.ntmps59
    go_wp2
    go_ret
    exact ⟨rfl, Below.refl _ _⟩
  | cons D l ih =>
    intro v u F w hr hu hx hy hn
    obtain ⟨hd1, hd2⟩ := hx D (by simp)
    have HXL : Hid (∀ x, x ∈ l → 1 ≤ x.z ∧ x.z ≤ s) := Lib.hid (fun x h => hx x (List.mem_cons_of_mem _ h))
    have hn2 : F.length + l.length ≤ 7 := by rw [List.length_cons] at hn; omega
    obtain ⟨a, oa, ca, rfl, hla, hlm, hat⟩ := hr.at_Gro (by simp)
    have hca := hr.cap_le (by simp)
    have HT := Lib.hid (gro_tail hat hla hca hlm)
    obtain ⟨c0, c1⟩ := hat.zero (by simp)
    have hg0 : gth (D :: l) 0 = D := rfl
    rw [hg0] at c0 c1
    have HY := Lib.hid hy
    have HU := Lib.hid hu
    have HIH := Lib.hid ih
    obtain ⟨uo, ub, ob, cb, rfl, hub, hut⟩ := hu.formR
    have HUA := Lib.hid hub
    have HUT := Lib.hid hut
    have hlen : (D :: l).length = l.length + 1 := by simp
    rw [hlen] at hca hlm
    have HZ : Hid (zsQ (D :: l) = D.z :: zsQ l) := Lib.hid rfl
    clear hr hu hx hy hat ih hub hut hn hg0
    rw [hlen]
    generalize zsQ (D :: l) = ZS at *
    clear hlen
    have t1 : ((((l.length + 1 : Nat)) : Int) == 0) = false := by simp; omega
    go_enter Try.func59, Try.ntmps59
    go_upto_region 3 with fail
    go_cut [7, 8] (fun z7 z8 wx => ∃ b c, z7 = .int .i64 D.z ∧ z8 = .slice b l.length c ∧ Hid (Below w.heap.size w wx) ∧ Hid (Rs wx (.slice b l.length c) l.length (gros l)))
    case first =>
      by_cases hc1 : ca = 1
      · subst hc1
        have hl0 : l.length = 0 := by omega
        go_quiet (fail)
        go_wp2
        go_meet
        exact ⟨some ⟨a, oa, none⟩, 0, rfl, by rw [hl0], Lib.hid (below_drewN (Below.refl _ _) _), Lib.hid (.inl ⟨hl0, some ⟨a, oa, none⟩, 0, by rw [hl0]⟩)⟩
      · go_quiet (fail)
        go_wp2
        go_meet
        exact ⟨_, _, rfl, rfl, Lib.hid (below_drewN (Below.refl _ _) _), Lib.hid (HT.out.drewN _)⟩
    case rest =>
      obtain ⟨b8, c8, rfl, rfl, HBC, HR8⟩ := hcut
      clear c0 c1 hca hlm hla HT
      have HUC : Hid (∀ W, Below wc.heap.size wc W → Rd W (.slice uo F.length cb) (intVs F)) := Lib.hid (fun W h => (HU.out.below HBC.out rfl).below h rfl)
      have HRC : Hid (∀ W, Below wc.heap.size wc W → Rs W (.slice b8 l.length c8) l.length (gros l)) := Lib.hid (fun W h => HR8.out.below h rfl)
      have HCL1 := Lib.hid (cloneR_c _ F wc (HUC.out wc (Below.refl _ _)) (by omega))
      have hsz : 0 ≤ s - D.z ∧ s - D.z ≤ 10 := by omega
      go_wp2_with fail
      refine (HCL1.out).mono ?_
      rintro e w5 ⟨g5, rfl, o5, b5⟩
      have HB5 := Lib.hid b5
      have HO5 := Lib.hid o5
      have hs5 := b5.size
      clear b5 o5
      go_wp2_with (at_builtin; go_loud (refine wpList_append_any _ rfl _ _ 31 rfl wc.heap.size 3 i0 (.int .i64 0) 1 8 Try.underlying31 hi hz0 hz1 hz2 rfl (by decide) _ _ _ rfl (HO5.out.alloc _) (some ⟨w5.heap.size, 0, none⟩) 1 1 [.int .i64 (s - D.z)] rfl rfl (fun _ => ⟨_, rfl, cell_one_new _ _ _⟩) (by simp [Value.oneCell']) (by unfold maxLen; omega) (by omega) (by simp; omega) ?_; intro v6 w6 hown6 hgrow6 _; have HO6 := Lib.hid hown6; have HB6 := Lib.hid ((HB5.out.alloc hs5 _).grown hgrow6 (by simp; omega) (fun j hj => (HO5.out.lt j hj).1)); clear hown6 hgrow6))
      have HRD6 : Hid (Rd w6 v6 (intVs (F ++ [s - D.z]))) := Lib.hid (by rw [iv_one]; exact Rd.of_own HO6.out)
      refine (HIH.out _ _ (F ++ [s - D.z]) w6 (HRC.out w6 HB6.out) HRD6.out HXL.out (fun y hy => by
        rcases List.mem_append.1 hy with h | h
        · exact HY.out y h
        · rw [List.mem_singleton] at h; rw [h]; exact hsz) (by rw [List.length_append, List.length_singleton]; omega)).mono ?_
      rintro e w7 ⟨rfl, b7⟩
      have HB7 := Lib.hid (HB6.out.trans (b7.mono HB6.out.size))
      have hs7 := HB7.out.size
      clear b7 HRD6 HO6 HO5 HB5 HB6
      have HM0 : Hid (lfR s (zsQ l) (F ++ [s - D.z]) = lfP s D.z (zsQ l) F 0) := Lib.hid rfl
      go_wp2
      go_loopw [9, 36] (fun m i wr => ∃ k : Nat, k ≤ F.length ∧ i = .int .i64 k ∧ m = .int .i64 (lfP s D.z (zsQ l) F k : Int) ∧ Hid (Below w7.heap.size w7 wr)) (fun _ i _ => F.length - (intOf i).toNat)
      case atStart => exact ⟨0, by omega, rfl, by first | rfl | trivial, Lib.hid (Below.refl _ _)⟩
      case round =>
        obtain ⟨k, hk, rfl, rfl, hbel⟩ := hrel
        by_cases hlt : k < F.length
        · obtain ⟨rfl, hlu, _⟩ := HUA.out (by omega)
          have HBR : Hid (Below wc.heap.size wc wr) := Lib.hid (HB7.out.trans (hbel.out.mono hs7))
          have cF : wr.cell? ⟨ub, ob + k, none⟩ = some (.int .i64 (F.getD k 0)) := (HBR.out.cell (p := ⟨ub, ob + k, none⟩) (by have := HBC.out.size; show ub < _; omega)).trans ((HBC.out.cell (p := ⟨ub, ob + k, none⟩) hlu).trans (HUT.out k hlt))
          obtain ⟨f1, f2⟩ := cell_bd HY.out hlt
          have hrs := hbel.out.size
          have HPY : Hid (D.z ≤ F.getD k 0 → lfP s D.z (zsQ l) F (k + 1) = min (lfP s D.z (zsQ l) F k) (lfR s (zsQ l) (F.set k (F.getD k 0 - D.z)))) := Lib.hid (fun h => lfP_yes h)
          have HPN : Hid (¬ D.z ≤ F.getD k 0 → lfP s D.z (zsQ l) F (k + 1) = lfP s D.z (zsQ l) F k) := Lib.hid (fun h => lfP_no h)
          have HSET : Hid (∀ y, y ∈ F.set k (F.getD k 0 - D.z) → D.z ≤ F.getD k 0 → 0 ≤ y ∧ y ≤ 10) := Lib.hid (fun y hy hz => by
            rcases List.mem_or_eq_of_mem_set hy with h | h
            · exact HY.out y h
            · rw [h]; omega)
          have HCL2 := Lib.hid (cloneR_c _ F wr (HUC.out wr HBR.out) (by omega))
          have HLF : Hid ((F.set k (F.getD k 0 - D.z)).length = F.length) := Lib.hid (by simp)
          have HIV : Hid ((intVs F).set k (.int .i64 (F.getD k 0 - D.z)) = intVs (F.set k (F.getD k 0 - D.z))) := Lib.hid (by simp [intVs, List.map_set])
          generalize hGE : F.getD k 0 = E at *
          have HGE := Lib.hid hGE
          clear hGE
          by_cases hz : D.z ≤ E
          · have HP := Lib.hid (HPY.out hz)
            have HS2 : Hid (∀ y, y ∈ F.set k (E - D.z) → 0 ≤ y ∧ y ≤ 10) := Lib.hid (fun y hy => HSET.out y hy hz)
            have t3 : decide (D.z ≤ E) = true := by simpa using hz
            go_wp2_with fail
            refine (HCL2.out).mono ?_
            rintro e w8 ⟨g8, rfl, o8, b8'⟩
            have HB8 := Lib.hid (HBR.out.trans (b8'.mono HBR.out.size))
            have HB87 := Lib.hid (hbel.out.trans (b8'.mono hrs))
            have hs8 := b8'.size
            clear b8' cF
            rcases own_form o8 with ⟨h0, _⟩ | ⟨gg, c9, rfl, hg1, hg2, _, _⟩
            · omega
            · have c8' : w8.cell? ⟨gg, k, none⟩ = some (.int .i64 E) := by rw [← HGE.out]; exact (o8.cellAt k (by omega)).trans (int_at hlt)
              have fr8 := o8.frozenAt k
              have q8 := o8.stored k (.int .i64 (E - D.z))
              have HO9 := Lib.hid q8.1
              rw [HIV.out] at HO9
              have HB9 : Hid (Below wc.heap.size wc (w8.setCell ⟨gg, k, none⟩ (.int .i64 (E - D.z)))) := Lib.hid (HB8.out.grown q8.2 HB8.out.size (fun j hj => by simp at hj; have := HBR.out.size; omega))
              have HB97 : Hid (Below w7.heap.size w7 (w8.setCell ⟨gg, k, none⟩ (.int .i64 (E - D.z)))) := Lib.hid (HB87.out.grown q8.2 HB87.out.size (fun j hj => by simp at hj; omega))
              have HE := Lib.hid (HIH.out _ _ (F.set k (E - D.z)) _ (HRC.out _ HB9.out) (Rd.of_own HO9.out) HXL.out HS2.out (by rw [HLF.out]; omega))
              clear q8 o8
              generalize F.set k (E - D.z) = F2 at *
              generalize lfR s (zsQ l) F2 = M2 at *
              generalize lfP s D.z (zsQ l) F k = M1 at *
              go_wp2_with fail
              refine (HE.out).mono ?_
              rintro e w10 ⟨rfl, b10⟩
              have HB10 := Lib.hid (HB97.out.trans (b10.mono HB97.out.size))
              clear b10 c8' fr8
              go_wp2
              go_roundw
              case rel => exact ⟨k + 1, by omega, by go_num, by rw [HP.out]; congr 1; omega, HB10⟩
              case measure => simp [intOf]; omega
          · have HP := Lib.hid (HPN.out hz)
            have t3 : decide (D.z ≤ E) = false := by simpa using hz
            go_wp2
            go_roundw
            case rel => exact ⟨k + 1, by omega, by go_num, by rw [HP.out], hbel⟩
            case measure => simp [intOf]; omega
        · obtain rfl : k = F.length := by omega
          go_wp2
          go_ret
          exact ⟨ret_i13 (by rw [HZ.out]; rfl), HBC.out.trans ((HB7.out.trans (hbel.out.mono hs7)).mono HBC.out.size)⟩
theorem lc_yes {l : List Gro} {s : Int} (h : lcOk l s = true) : lcV l s = (lfR s (zsQ l) [] : Int) ∧ (1 ≤ s ∧ s ≤ 10) ∧ l.length ≤ 8 ∧ (∀ x, x ∈ l → 1 ≤ x.z ∧ x.z ≤ s) := by
  have h' := h
  unfold lcOk at h'
  rw [Bool.and_eq_true, decide_eq_true_eq] at h'
  have hx : ∀ x, x ∈ l → 1 ≤ x.z ∧ x.z ≤ s := fun x hx => by
    obtain ⟨i, hi, rfl⟩ := List.getElem_of_mem hx
    have h1 := is_bd (as_is h'.1) i hi
    have h2 := as_fit h'.1 i hi
    unfold szQ at h1 h2
    rw [gth_get hi] at h1 h2
    omega
  refine ⟨?_, as_s h'.1, h'.2, hx⟩
  unfold lcV
  rw [h, if_pos rfl, lfR_lc]
  intro g hg
  unfold zsQ at hg
  obtain ⟨x, hxm, rfl⟩ := List.mem_map.1 hg
  exact (hx x hxm).2
theorem lc_no {l : List Gro} {s : Int} (h : lcOk l s = false) : lcV l s = 0 := by unfold lcV; rw [h]; rfl
set_option maxRecDepth 100000 in
set_option maxHeartbeats 2000000 in
theorem implLeastCabins_c (v : Value) (l : List Gro) (s : Int) (w : World) (hr : Rs w v l.length (gros l)) (hn : l.length ≤ 1048576) :
    Calls Try.prog 23 #[v, .int .i64 s] w fun e w' => e = .returned (.tuple #[.int .i64 (lcV l s), .bool (lcOk l s)]) ∧ Below w.heap.size w w' := by
  have E0 := Lib.hid (doFit_c v l s w hr hn)
  have HYES := Lib.hid (lc_yes (l := l) (s := s))
  have HNO := Lib.hid (lc_no (l := l) (s := s))
  have HOK : Hid (lcOk l s = (asQ l s && decide (l.length ≤ 8))) := Lib.hid rfl
  have HR := Lib.hid (fun W (h : Below w.heap.size w W) => hr.below h rfl)
  obtain ⟨va, vc, hva⟩ := hr.shape
  clear hr
  subst hva
  generalize asQ l s = b at *
  generalize lcOk l s = ok at *
  cases b with
  | false =>
    have hok : ok = false := HOK.out
    subst hok
    have HV := Lib.hid (HNO.out rfl).symm
    go_enter Try.func23, Try.ntmps23
    go_wp2_with fail
    refine (E0.out).mono ?_
    rintro e w1 ⟨rfl, b1⟩
    go_wp2
    go_ret2
    exact ⟨ret_ib9 HV.out rfl, b1⟩
  | true =>
    by_cases h8 : l.length ≤ 8
    · have hok : ok = true := by rw [HOK.out]; simp [h8]
      subst hok
      obtain ⟨y1, y2, y3, y4⟩ := HYES.out rfl
      have HV := Lib.hid y1.symm
      have HL := Lib.hid (fun W u (h : Below w.heap.size w W) (hu : Rd W u (intVs [])) => leastFrom_c s y2 l _ u [] W (HR.out W h) hu y4 (fun y hy => by simp at hy) (by simpa using y3))
      clear y1 y2 y4
      generalize lcV l s = RV at *
      go_enter Try.func23, Try.ntmps23
      go_wp2_with fail
      refine (E0.out).mono ?_
      rintro e w1 ⟨rfl, b1⟩
      have HB1 := Lib.hid b1
      have hs1 := b1.size
      clear b1
      go_wp2_with fail
      refine (HL.out _ _ (HB1.out.alloc hs1 _) (Rd.of_own (World.ownsRow_made w1 #[] 0 (Nat.le_refl _) (by decide) rfl))).mono ?_
      rintro e w2 ⟨rfl, b2⟩
      have HB2 := Lib.hid ((HB1.out.alloc hs1 (.cells #[] 3)).trans (b2.mono (by simp; omega)))
      clear b2
      go_wp2
      go_ret2
      exact ⟨ret_ib9 HV.out rfl, HB2.out⟩
    · have hok : ok = false := by rw [HOK.out]; simp [h8]
      subst hok
      have HV := Lib.hid (HNO.out rfl).symm
      go_enter Try.func23, Try.ntmps23
      go_wp2_with fail
      refine (E0.out).mono ?_
      rintro e w1 ⟨rfl, b1⟩
      go_wp2
      go_ret2
      exact ⟨ret_ib9 HV.out rfl, b1⟩
end Go.Proofs.Ytkjdkfoeolcnkaa
