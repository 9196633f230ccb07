/- Queues with groups: spec.SplitGroups. Condition: sizes. -/
import Derived.Test.YtkjdkfoeolcnkaaQuJ
import Derived.Test.YtkjdkfoeolcnkaaProfK
import Derived.Deep.RegionHeld3
import Derived.Deep.CutRange
import Derived.Deep.DeepCutAuto
namespace Go.Proofs.Ytkjdkfoeolcnkaa
open Go.RowKit
set_option linter.unusedVariables false
theorem leastQ (x y z : Int) (h : (if x < y then x else y) = z) (W : World) : Calls Try.prog 69 #[.int .i64 x, .int .i64 y] W fun e w' => e = .returned (.int .i64 z) ∧ w' = W := by
  rw [← h]
  exact least9_c x y W
/-- The first j parts of a group, the rest among them. -/
def tkP (s : Int) (D : Gro) (j : Nat) : List Gro := (pt13 s D).take j
theorem tkP_zero (s : Int) (D : Gro) : tkP s D 0 = [] := rfl
theorem tkP_all {s : Int} {D : Gro} {R : Nat → Int} {m : Nat} (h : RemIs s D R m) : tkP s D (m + 1) = pt13 s D := by
  unfold tkP
  rw [List.take_of_length_le]
  rw [h.split]; simp [pf13]
theorem tkP_succ {s : Int} {D : Gro} {R : Nat → Int} {m j : Nat} (h : RemIs s D R m) (hs1 : 1 ≤ s) (hj : j ≤ m) : ∃ z, (if R j < s then R j else s) = z ∧ tkP s D (j + 1) = tkP s D j ++ [⟨z, D.q⟩] ∧ 1 ≤ z ∧ z ≤ 10 ∨ 10 < s := by
  by_cases h10 : 10 < s
  · exact ⟨0, .inr h10⟩
  · refine ⟨_, .inl ⟨rfl, ?_, ?_⟩⟩
    · unfold tkP
      rw [h.split]
      by_cases e : j = m
      · subst e
        have hl := h.last
        rw [List.take_of_length_le (by simp [pf13]), List.take_append_of_le_length (by simp [pf13]), List.take_of_length_le (by simp [pf13])]
        congr 3
        split <;> omega
      · have hm := h.more j (by omega)
        rw [if_neg (by omega), List.take_append_of_le_length (by simp [pf13]; omega), List.take_append_of_le_length (by simp [pf13]; omega)]
        unfold pf13
        rw [List.take_replicate, List.take_replicate, Nat.min_eq_left (by omega), Nat.min_eq_left (by omega), List.replicate_succ']
    · have hp := h.pos j hj
      by_cases e : j = m
      · subst e
        have hl := h.last
        split <;> omega
      · have hm := h.more j (by omega)
        split <;> omega
theorem tkP_len {s : Int} {D : Gro} {R : Nat → Int} {m j : Nat} (h : RemIs s D R m) (hj : j ≤ m + 1) : (tkP s D j).length = j := by
  unfold tkP
  rw [List.length_take, h.split, List.length_append, pf13_len, List.length_singleton]
  omega
set_option maxRecDepth 100000 in
set_option maxHeartbeats 4000000 in
theorem specSplitGroups_c (v : Value) (l : List Gro) (s : Int) (w : World) (hr : Rs w v l.length (gros l)) (hn : l.length ≤ 1048576) :
    Calls Try.prog 33 #[v, .int .i64 s] w fun e w' => ∃ g, e = .returned (.tuple #[g, .bool (spOk l s)]) ∧ w'.ownsRow w.heap.size 34 2 g (spV l s).length (gros (spV l s)) ∧ Below w.heap.size w w' := by
  obtain ⟨i0, hi, hz0, hz1, hz2⟩ := info_parts Try.infoGro
  have HB0 := Lib.hid ((Below.refl w.heap.size w).alloc (Nat.le_refl _) (.cells #[] 34))
  have HO0 : Hid ((w.alloc (.cells #[] 34)).ownsRow w.heap.size 34 2 (.slice (some ⟨w.heap.size, 0, none⟩) 0 0) 0 []) := Lib.hid (World.ownsRow_made w #[] 0 (Nat.le_refl _) (by decide) rfl)
  have E0 := Lib.hid (l13Queue_c v l _ (hr.below HB0.out rfl) hn)
  have E1 := Lib.hid (fun W => l1In_c s 1 10 W)
  obtain ⟨ao, a, oa, ca, rfl, hao, hat⟩ := hr.form_Gro
  have HA := Lib.hid hao
  have HL := Lib.hid hat
  clear hr hao hat
  cases hq : isQ l with
  | false =>
    rw [hq] at E0
    have HOK := Lib.hid (sp_q (s := s) hq)
    have HV := Lib.hid (spV_no HOK.out)
    clear hq
    rw [HV.out, HOK.out]
    go_enter Try.func33, Try.ntmps33
    go_wp2_with fail
    refine (E0.out).mono ?_
    rintro e w1 ⟨rfl, rfl⟩
    go_wp2
    go_ret2
    exact ⟨_, rfl, HO0.out, HB0.out⟩
  | true =>
    rw [hq] at E0
    cases hs : inR s 1 10 with
    | false =>
      rw [hs] at E1
      have HOK := Lib.hid (sp_s (l := l) hs)
      have HV := Lib.hid (spV_no HOK.out)
      clear hq hs
      rw [HV.out, HOK.out]
      go_enter Try.func33, Try.ntmps33
      go_wp2_with fail
      refine (E0.out).mono ?_
      rintro e w1 ⟨rfl, rfl⟩
      go_wp2_with fail
      refine (E1.out _).mono ?_
      rintro e w2 ⟨rfl, rfl⟩
      go_wp2
      go_ret2
      exact ⟨_, rfl, HO0.out, HB0.out⟩
    | true =>
      rw [hs] at E1
      have HOK := Lib.hid (sp_yes hq hs)
      have hs' := (inR_iff _ _ _).1 hs
      have hl12 := is_len hq
      have HZ := Lib.hid (fun k (hk : k < l.length) => is_bd hq k hk)
      have HLN : Hid (∀ k, k ≤ l.length → (sp13 s (l.take k)).length ≤ 96) := Lib.hid (fun k hk => by
        have := sp13_len hs'.1 (l := l.take k) fun x hx => isQ_mem hq x (List.mem_of_mem_take hx)
        rw [List.length_take] at this
        omega)
      have HSY := Lib.hid (spV_yes (l := l) (s := s))
      have HSN := Lib.hid (spV_no (l := l) (s := s))
      have HIS : Hid (isQ (sp13 s l) = decide ((sp13 s l).length ≤ 12)) := Lib.hid (sp13_isQ hs'.1 hq)
      clear hq hs
      go_enter Try.func33, Try.ntmps33
      go_upto_region 2 with fail
      generalize w.alloc (.cells #[] 34) = w0 at *
      go_wp2_with fail
      refine (E0.out).mono ?_
      rintro e w1 ⟨rfl, rfl⟩
      go_wp2_with fail
      refine (E1.out _).mono ?_
      rintro e w2 ⟨rfl, rfl⟩
      go_wp2
      go_loopw [6, 7] (fun o i wr => ∃ k : Nat, k ≤ l.length ∧ i = .int .i64 k ∧ Hid (wr.ownsRow w.heap.size 34 2 o (sp13 s (l.take k)).length (gros (sp13 s (l.take k)))) ∧ Hid (Below w.heap.size w wr)) (fun _ i _ => l.length - (intOf i).toNat)
      case atStart => exact ⟨0, by omega, rfl, HO0, HB0⟩
      case round =>
        obtain ⟨k, hk, rfl, hown, hbel⟩ := hrel
        by_cases hlt : k < l.length
        · obtain ⟨rfl, hla, hlm⟩ := HA.out (by omega)
          have HCE := Lib.hid (fun W (h : Below w.heap.size w W) => (HL.out.below h hla) k hlt)
          obtain ⟨c0, c1⟩ := HCE.out wr hbel.out
          have hbs := hbel.out.size
          obtain ⟨R, m, hR, _⟩ := rem_is hs' (D := gth l k) (HZ.out k hlt)
          have HR := Lib.hid hR
          have hm7 := hR.le
          have hA := HLN.out k hk
          have HTK := Lib.hid (sp13_take (s := s) hlt)
          have hR0 := hR.zero
          clear hR
          have hdk : decide ((k : Int) < (l.length : Int)) = true := by simp; omega
          generalize sp13 s (l.take k) = A0 at *
          generalize gth l k = D at *
          go_wp2
          go_loopw [6, 8] (fun o ni wx => ∃ j : Nat, j ≤ m + 1 ∧ ni = .int .i64 (R j) ∧ Hid (wx.ownsRow w.heap.size 34 2 o (A0.length + j) (gros (A0 ++ tkP s D j))) ∧ Hid (Below w.heap.size w wx)) (fun o _ _ => (A0.length + m + 1) - sl13 o)
          case atStart => exact ⟨0, by omega, by rw [hR0], Lib.hid (by rw [tkP_zero, List.append_nil]; exact hown.out), hbel⟩
          case round =>
            obtain ⟨j, hj, rfl, hown, hbel⟩ := hrel
            have hbs := hbel.out.size
            obtain ⟨oa1, oc1, ho1⟩ := (Rs.of_own hown.out).shape
            subst ho1
            by_cases hjm : j ≤ m
            · obtain ⟨r1, r2⟩ := HR.out.pos j hjm
              have HSU := Lib.hid (HR.out.succ j)
              obtain ⟨z, hz⟩ := tkP_succ HR.out hs'.1 hjm
              obtain ⟨hz3, hz4, hz5, hz6⟩ := hz.resolve_right (by omega)
              have HLE := Lib.hid (leastQ (R j) s z hz3)
              have HPF : Hid (gros (A0 ++ tkP s D (j + 1)) = gros (A0 ++ tkP s D j) ++ [.int .i64 z, .bool D.q]) := Lib.hid (by rw [hz4, ← List.append_assoc, gros_snoc])
              obtain ⟨c0, c1⟩ := HCE.out wr hbel.out
              clear hz hz3 hz4
              generalize R j = E at *
              have t3 : decide ((0 : Int) < E) = true := by simp; omega
              have hki : (k : Int) < (l.length : Int) := by omega
              have hki0 : (0 : Int) ≤ (k : Int) := by omega
              have HOD : Hid (wr.drew.ownsRow w.heap.size 34 2 (.slice oa1 (A0.length + j) oc1) (A0.length + j) (gros (A0 ++ tkP s D j))) := Lib.hid (own_below hown.out (Below.refl _ _).drew)
              have HKS : Hid (∀ W, Below wr.heap.size wr W → W.cell? ⟨a, oa + k * 2 + 1, none⟩ = some (.bool D.q)) := Lib.hid (fun W h => (h.cell (p := ⟨a, oa + k * 2 + 1, none⟩) (by show a < _; omega)).trans c1)
              have tw : IntKind.i64.wrap (E - s) = E - s := IntWalk.i64_in _ (by omega)
              clear c0
              go_upto_region 10 with fail
              go_region_held3 (fun w' => w'.cell? ⟨a, oa + k * 2 + 1, none⟩ = some (.bool D.q))
                (first
                  | exact HKS.out _ (Below.refl _ _).drew
                  | exact HKS.out _ (Below.refl _ _)
                  | exact HKS.out _ ((Below.refl _ _).alloc (Nat.le_refl _) _)
                  | exact HKS.out _ ((Below.refl _ _).alloc (Nat.le_refl _) _).drew
                  | exact HKS.out _ ((Below.refl _ _).drew.alloc (by simp) _)
                  | exact C4.out
                  | assumption
                  | fail)
                (first
                  | (refine step_append_any _ (by rfl) _ _ _ (by rfl) w.heap.size 34 i0 (.agg #[.int .i64 0, .bool false]) 2 16 Try.underlying24 hi hz0 hz1 hz2 rfl (by omega) _ _ _ (by rfl) (by first | exact hown.out.alloc _ | exact HOD.out.alloc _ | fail) (some ⟨_, 0, none⟩) 1 1 [.int .i64 z, .bool D.q] (by rfl) rfl (fun _ => ⟨_, rfl, World.news_of_block (cs := #[.int .i64 z, .bool D.q]) (t := 34) (fr := (0, 0)) (heap_alloc_new _ _)⟩) (by simp [Value.oneCell']) (by unfold maxLen; omega) (by omega) (by first | (simp; omega) | (simp; done)) ?_; intro v4 w4 hown4 hgrow4 _; have C4 : Hid (w4.cell? ⟨a, oa + k * 2 + 1, none⟩ = some (.bool D.q)) := Lib.hid (hgrow4.cell (by first | exact HKS.out _ ((Below.refl _ _).alloc (Nat.le_refl _) _) | exact HKS.out _ ((Below.refl _ _).drew.alloc (by simp) _)) (fun e => by have h9 : w.heap.size ≤ a := (hown.out.lt _ e.symm).1; omega)); have HB4 : Hid (Below w.heap.size w w4) := Lib.hid (by first | exact (hbel.out.alloc hbs _).grown hgrow4 (by simp; omega) (fun y hy => (hown.out.lt y hy).1) | exact (hbel.out.drew.alloc hbs _).grown hgrow4 (by simp; omega) (fun y hy => (hown.out.lt y hy).1)); obtain ⟨va4, vc4, hv4⟩ := (Rs.of_own hown4).shape; subst hv4; have HO4 := Lib.hid hown4; clear hown4 hgrow4)
                  | (go_at_call 69; refine (HLE.out _).mono ?_; rintro e W2 ⟨rfl, rfl⟩)
                  | fail)
              go_wp2
              go_roundw
              case rel => exact ⟨j + 1, by omega, by rw [HSU.out], Lib.hid (by rw [HPF.out]; exact HO4.out), HB4⟩
              case measure => simp [sl13]; omega
            · obtain rfl : j = m + 1 := by omega
              have hp := HR.out.past
              have hall := tkP_all HR.out
              have hln := tkP_len HR.out (Nat.le_refl (m + 1))
              have HEQ : Hid (sp13 s (l.take (k + 1)) = A0 ++ tkP s D (m + 1) ∧ (A0 ++ tkP s D (m + 1)).length = A0.length + (m + 1)) := Lib.hid ⟨by rw [HTK.out, hall], by rw [List.length_append, hln]⟩
              clear hall hln
              generalize R (m + 1) = E at *
              have t3 : decide ((0 : Int) < E) = false := by simp; omega
              go_wp2
              go_roundw
              case rel => exact ⟨k + 1, by omega, by go_num, Lib.hid (by rw [HEQ.out.1, HEQ.out.2]; exact hown.out), hbel⟩
              case measure => simp [intOf]; omega
        · obtain rfl : k = l.length := by omega
          have ho := hown.out
          rw [List.take_length] at ho
          have hl96 := HLN.out l.length (Nat.le_refl _)
          rw [List.take_length] at hl96
          have hbs := hbel.out.size
          have HC := Lib.hid (l13Queue_c _ (sp13 s l) wr (Rs.of_own ho) (by omega))
          rw [HIS.out] at HC
          obtain ⟨xa, xc, hx⟩ := (Rs.of_own ho).shape
          subst hx
          cases hok : decide ((sp13 s l).length ≤ 12) with
          | false =>
            have HOK2 : Hid (spOk l s = false) := Lib.hid (by rw [HOK.out]; exact hok)
            have HV := Lib.hid (HSN.out HOK2.out)
            rw [hok] at HC
            clear ho hok
            go_wp2_with fail
            refine (HC.out).mono ?_
            rintro e w6 ⟨rfl, rfl⟩
            go_wp2
            go_ret2
            rw [HV.out, HOK2.out]
            exact ⟨_, rfl, World.ownsRow_made _ #[] 0 hbs (by decide) rfl, hbel.out.alloc hbs _⟩
          | true =>
            have HOK2 : Hid (spOk l s = true) := Lib.hid (by rw [HOK.out]; exact hok)
            have HV := Lib.hid (HSY.out HOK2.out)
            have HO := Lib.hid ho
            rw [hok] at HC
            clear ho hok
            go_wp2_with fail
            refine (HC.out).mono ?_
            rintro e w6 ⟨rfl, rfl⟩
            go_wp2
            go_ret2
            rw [HV.out, HOK2.out]
            exact ⟨_, rfl, HO.out, hbel.out⟩
end Go.Proofs.Ytkjdkfoeolcnkaa
