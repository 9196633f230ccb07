/- Queues with groups: spec.l13Pack and LeastCabins. Condition: sizes. -/
import Derived.Test.YtkjdkfoeolcnkaaQuI
namespace Go.Proofs.Ytkjdkfoeolcnkaa
open Go.RowKit
set_option linter.unusedVariables false
theorem Rd.cap_le {w : World} {ao : Option Addr} {cap : Nat} {l : List Int} (h : Rd w (.slice ao l.length cap) (intVs l)) (h0 : l.length ≠ 0) : l.length ≤ cap := by
  rcases h with ⟨e, _⟩ | ⟨b, off, c, hv, _, hm, _⟩
  · exact absurd (by simpa [intVs] using e) (fun e2 : l = [] => h0 (by rw [e2]; rfl))
  · have hc : cap = c := by simp only [Value.slice.injEq] at hv; exact hv.2.2
    rw [hc]
    simpa [intVs] using hm.1
theorem zsQ_drop {l : List Gro} {i : Nat} (h : i < l.length) : (zsQ l).drop i = (gth l i).z :: (zsQ l).drop (i + 1) := by
  unfold zsQ
  rw [← List.map_drop, drop_gth l i h, List.map_cons, List.map_drop]
theorem zsQ_end (l : List Gro) : (zsQ l).drop l.length = [] := by unfold zsQ; rw [← List.map_drop, List.drop_length]; rfl
/-- Some of the first k places serves. -/
def pkT (F : List Int) (g : Int) (gs : List Int) (k : Nat) : Bool := decide (g ≤ F.getD k 0) && !((F.take k).contains (F.getD k 0)) && pkS (F.set k (F.getD k 0 - g)) gs
theorem pkS_hit {F : List Int} {g : Int} {gs : List Int} {k : Nat} (hk : k < F.length) (h : pkT F g gs k = true) : pkS F (g :: gs) = true := by
  unfold pkS
  exact List.any_eq_true.2 ⟨k, List.mem_range.2 hk, h⟩
theorem pkS_none {F : List Int} {g : Int} {gs : List Int} (h : ∀ k, k < F.length → pkT F g gs k = false) : pkS F (g :: gs) = false := by
  unfold pkS
  rw [List.any_eq_false]
  intro k hk
  rw [Bool.not_eq_true]
  exact h k (List.mem_range.1 hk)
set_option maxRecDepth 100000 in
set_option maxHeartbeats 8000000 in
theorem l13Pack_c (l : List Gro) (hx : ∀ x, x ∈ l → 1 ≤ x.z ∧ x.z ≤ 10) (hl : l.length ≤ 8) : ∀ (n i : Nat) (v u : Value) (F : List Int) (w : World), n + i = l.length → Rs w v l.length (gros l) → Rd w u (intVs F) → (∀ y, y ∈ F → 0 ≤ y ∧ y ≤ 10) → F.length ≤ 8 →
    Calls Try.prog 73 #[v, .int .i64 (i : Int), u] w fun e w' => e = .returned (.bool (pkS F ((zsQ l).drop i))) ∧ Below w.heap.size w w' := by
  intro n
  induction n with
  | zero =>
    intro i v u F w hi hr hu hy hF
    obtain ⟨a, ca, rfl⟩ := hr.shape
    obtain ⟨uo, ub, ob, cb, rfl, _, _⟩ := hu.formR
    obtain rfl : i = l.length := by omega
    have HX : Hid (true = pkS F ((zsQ l).drop l.length)) := Lib.hid (by rw [zsQ_end]; simp [pkS])
    clear hr hu
    go_enter Try.func73, Try.ntmps73
    go_wp2
    go_ret
    exact ⟨ret_b HX.out, Below.refl _ _⟩
  | succ n ih =>
    intro i v u F w hi hr hu hy hF
    have hil : i < l.length := by omega
    have HR : Hid (∀ W, Below w.heap.size w W → Rs W v l.length (gros l)) := Lib.hid (fun W h => hr.below h rfl)
    have HU : Hid (∀ W, Below w.heap.size w W → Rd W u (intVs F)) := Lib.hid (fun W h => hu.below h rfl)
    obtain ⟨a, oa, ca, rfl, hla, hlm, hat⟩ := hr.at_Gro (by omega)
    have HL := Lib.hid hat
    obtain ⟨uo, ub, ob, cb, rfl, hub, hut⟩ := hu.formR
    have HUC := Lib.hid (fun h : F.length ≠ 0 => Rd.cap_le hu h)
    have HUA := Lib.hid hub
    have HUT := Lib.hid hut
    have HY := Lib.hid hy
    have HIH := Lib.hid ih
    obtain ⟨hd1, hd2⟩ := hx (gth l i) (gth_mem hil)
    have HDR := Lib.hid (zsQ_drop hil)
    have HHIT : Hid (∀ k, k < F.length → pkT F (gth l i).z ((zsQ l).drop (i + 1)) k = true → pkS F ((zsQ l).drop i) = true) := Lib.hid (fun k hk h => by rw [HDR.out]; exact pkS_hit hk h)
    have HNON : Hid ((∀ k, k < F.length → pkT F (gth l i).z ((zsQ l).drop (i + 1)) k = false) → pkS F ((zsQ l).drop i) = false) := Lib.hid (fun h => by rw [HDR.out]; exact pkS_none h)
    have t1 : ((i : Int) == (l.length : Int)) = false := by simp; omega
    have hn12 : n + (i + 1) = l.length := by omega
    clear hr hu hy hat ih hub hut hx hi HDR
    generalize pkS F ((zsQ l).drop i) = RES at *
    generalize hD : gth l i = D at *
    have HD := Lib.hid hD
    clear hD
    go_enter Try.func73, Try.ntmps73
    go_wp2
    go_loopw [7] (fun ki wr => ∃ k : Nat, k ≤ F.length ∧ ki = .int .i64 k ∧ Hid (∀ j, j < k → pkT F D.z ((zsQ l).drop (i + 1)) j = false) ∧ Hid (Below w.heap.size w wr)) (fun ki _ => F.length - (intOf ki).toNat)
    case atStart => exact ⟨0, by omega, rfl, Lib.hid (fun j h => by omega), Lib.hid (Below.refl _ _)⟩
    case round =>
      obtain ⟨k, hk, rfl, hno, hbel⟩ := hrel
      by_cases hlt : k < F.length
      · obtain ⟨rfl, hlu, hlum⟩ := HUA.out (by omega)
        have hcb := HUC.out (by omega)
        obtain ⟨c0, c1⟩ := (HL.out.below hbel.out hla) i hil
        have hgd := HD.out
        rw [hgd] at c0 c1
        have cF := (hbel.out.cell (p := ⟨ub, ob + k, none⟩) hlu).trans (HUT.out k hlt)
        obtain ⟨f1, f2⟩ := cell_bd HY.out hlt
        have hbs := hbel.out.size
        have hbz1 : (0 : Int) ≤ (k : Int) := by omega
        have hbz2 : (k : Int) ≤ (cb : Int) := by omega
        have hbz3 : (k : Int) ≤ (F.length : Int) := by omega
        have hbz4 : (k : Int) < (F.length : Int) := by omega
        have hbz5 : (i : Int) < (l.length : Int) := by omega
        have HTK : Hid (Rd wr (.slice (some ⟨ub, ob, none⟩) (F.take k).length cb) (intVs (F.take k))) := Lib.hid (by
          have hl : (intVs (F.take k)).length = (F.take k).length := by simp [intVs]
          have h2 : (F.take k).length = k := by rw [List.length_take]; omega
          refine .inr ⟨ub, ob, cb, by rw [hl], by have := hbel.out.size; omega, ⟨by rw [hl, h2]; omega, by rw [hl, h2]; omega⟩, fun z x hx => ?_⟩
          have hz : z < (F.take k).length := by rw [← hl]; exact (List.getElem?_eq_some_iff.1 hx).1
          rw [int_at hz] at hx
          cases hx
          rw [(hbel.out.cell (p := ⟨ub, ob + z, none⟩) hlu), HUT.out z (by rw [h2] at hz; omega)]
          congr 2
          rw [h2] at hz
          simp [List.getD, hz])
        have HTL : Hid ((F.take k).length = k) := Lib.hid (by rw [List.length_take]; omega)
        have HC : Hid (∀ q, Calls Try.prog 61 #[.slice (some ⟨ub, ob, none⟩) k cb, .int .i64 (F.getD k 0)] (wr.drewN q) fun e w'' => e = .returned (.bool ((F.take k).contains (F.getD k 0))) ∧ ∃ m, w'' = wr.drewN m) := Lib.hid (fun q => by
          have h := l1Has13_c _ (F.take k) (F.getD k 0) (wr.drewN q) (HTK.out.drewN q) (by rw [HTL.out]; omega)
          rw [HTL.out] at h
          exact h.mono fun _ _ ⟨he, hw⟩ => ⟨he, q, hw⟩)
        have HPT : Hid (pkT F D.z ((zsQ l).drop (i + 1)) k = (decide (D.z ≤ F.getD k 0) && !((F.take k).contains (F.getD k 0)) && pkS (F.set k (F.getD k 0 - D.z)) ((zsQ l).drop (i + 1)))) := Lib.hid rfl
        have HIT := Lib.hid (HHIT.out k hlt)
        have HNX : Hid (pkT F D.z ((zsQ l).drop (i + 1)) k = false → ∀ j, j < k + 1 → pkT F D.z ((zsQ l).drop (i + 1)) j = false) := Lib.hid (fun h j hj => by
          by_cases e : j = k
          · subst e; exact h
          · exact hno.out j (by omega))
        generalize pkT F D.z ((zsQ l).drop (i + 1)) k = pt at *
        have HSET : Hid (∀ y, y ∈ F.set k (F.getD k 0 - D.z) → D.z ≤ F.getD k 0 → 0 ≤ y ∧ y ≤ 10) := Lib.hid (fun y hy hz => by
          rcases List.mem_or_eq_of_mem_set hy with h | h
          · exact HY.out y h
          · rw [h]; omega)
        have HLF : Hid ((F.set k (F.getD k 0 - D.z)).length = F.length) := Lib.hid (by simp)
        have HIV : Hid ((intVs F).set k (.int .i64 (F.getD k 0 - D.z)) = intVs (F.set k (F.getD k 0 - D.z))) := Lib.hid (by simp [intVs, List.map_set])
        generalize hGE : F.getD k 0 = E at *
        have HGE := Lib.hid hGE
        clear hGE HTK
        generalize (F.take k).contains E = bc at *
        by_cases hz : D.z ≤ E
        · have t3 : decide (E < D.z) = false := by simp; omega
          cases bc with
          | true =>
            have hpt : pt = false := by rw [HPT.out]; simp
            have HN2 := Lib.hid (HNX.out hpt)
            go_wp2_with fail
            go_quiet ((go_at_call 61; exact HC.out _))
            clear c0 c1 cF
            go_wp2
            go_roundw
            case rel => exact ⟨k + 1, by omega, by go_num, HN2, Lib.hid (below_drewN hbel.out _)⟩
            case measure => simp [intOf]; omega
          | false =>
            have HPT2 : Hid (pt = pkS (F.set k (E - D.z)) ((zsQ l).drop (i + 1))) := Lib.hid (by rw [HPT.out, decide_eq_true hz]; simp)
            have HS2 : Hid (∀ y, y ∈ F.set k (E - D.z) → 0 ≤ y ∧ y ≤ 10) := Lib.hid (fun y hy => HSET.out y hy hz)
            go_wp2_with fail
            go_quiet ((go_at_call 61; exact HC.out _))
            clear c0 c1 cF
            generalize hW5 : wr.drewN nq = w5 at *
            have HB5 : Hid (Below w.heap.size w w5) := Lib.hid (by rw [← hW5]; exact below_drewN hbel.out _)
            have hs5 := HB5.out.size
            clear hW5
            have HOW := Lib.hid (ownR_c _ F w5 (HU.out w5 HB5.out) (by omega))
            go_wp2_with fail
            refine (HOW.out).mono ?_
            rintro e w8 ⟨g8, rfl, o8, hg8, b8⟩
            have HB8 := Lib.hid (HB5.out.trans (b8.mono hs5))
            have hs8 := b8.size
            clear b8
            rcases own_form o8 with ⟨h0, _⟩ | ⟨gg, c9, rfl, hg1, hg2, _, _⟩
            · omega
            · have c8' : w8.cell? ⟨gg, k, none⟩ = some (.int .i64 E) := by rw [← HGE.out]; exact (o8.cellAt k (by omega)).trans (int_at hlt)
              have fr8 := o8.frozenAt k
              obtain ⟨c0, c1⟩ := (HL.out.below HB8.out hla) i hil
              rw [HD.out] at c0 c1
              have HO8 := Lib.hid o8
              clear o8
              go_wp2_with fail
              go_still_tail 13, (by kernel_rfl)
              change wpList _ _ _ _ _ w8.drew
              generalize hW9 : w8.drew = w9 at *
              have b9 : Below w8.heap.size w8 w9 := by rw [← hW9]; exact (Below.refl _ _).drew
              clear hW9 c0 c1 c8' fr8
              have o9 := own_below HO8.out b9
              have HB9 := Lib.hid (HB8.out.trans (b9.mono HB8.out.size))
              have hs9 := b9.size
              have c9' := (o9.cellAt k (by omega)).trans (int_at hlt)
              have fr9 := o9.frozenAt k
              have q9 := o9.stored k (.int .i64 (E - D.z))
              have HO9 := Lib.hid q9.1
              rw [HIV.out] at HO9
              have HB10 : Hid (Below w.heap.size w (w9.setCell ⟨gg, k, none⟩ (.int .i64 (E - D.z)))) := Lib.hid (HB9.out.grown q9.2 HB9.out.size (fun j hj => by simp at hj; omega))
              have HE : Hid (Calls Try.prog 73 #[.slice (some ⟨a, oa, none⟩) l.length ca, .int .i64 ((i : Int) + 1), .slice (some ⟨gg, 0, none⟩) F.length c9] (w9.setCell ⟨gg, k, none⟩ (.int .i64 (E - D.z))) fun e w' => e = .returned (.bool (pkS (F.set k (E - D.z)) ((zsQ l).drop (i + 1)))) ∧ Below (w9.setCell ⟨gg, k, none⟩ (.int .i64 (E - D.z))).heap.size (w9.setCell ⟨gg, k, none⟩ (.int .i64 (E - D.z))) w') := Lib.hid (by
                have h := HIH.out (i + 1) _ _ (F.set k (E - D.z)) _ hn12 (HR.out _ HB10.out) (Rd.of_own HO9.out) HS2.out (by rw [HLF.out]; exact hF)
                rw [Int.natCast_succ] at h
                exact h)
              rw [← HPT2.out] at HE
              clear q9 o9
              go_wp2_with fail
              refine (HE.out).mono ?_
              rintro e w10 ⟨rfl, b10⟩
              have HB11 := Lib.hid (HB10.out.trans (b10.mono HB10.out.size))
              clear b10 c9' fr9
              cases pt with
              | true =>
                have HX := Lib.hid (HIT.out rfl).symm
                go_wp2
                go_ret
                exact ⟨ret_b HX.out, HB11.out⟩
              | false =>
                have HN2 := Lib.hid (HNX.out rfl)
                go_wp2
                go_roundw
                case rel => exact ⟨k + 1, by omega, by go_num, HN2, HB11⟩
                case measure => simp [intOf]; omega
        · have t3 : decide (E < D.z) = true := by simp; omega
          have hpt : pt = false := by rw [HPT.out, decide_eq_false hz]; rfl
          have HN2 := Lib.hid (HNX.out hpt)
          go_wp2_with fail
          go_quiet (fail)
          clear c0 c1 cF
          go_wp2
          go_roundw
          case rel => exact ⟨k + 1, by omega, by go_num, HN2, Lib.hid (below_drewN hbel.out _)⟩
          case measure => simp [intOf]; omega
      · obtain rfl : k = F.length := by omega
        have HX := Lib.hid (HNON.out hno.out).symm
        go_wp2
        go_ret
        exact ⟨ret_b HX.out, hbel.out⟩
end Go.Proofs.Ytkjdkfoeolcnkaa
