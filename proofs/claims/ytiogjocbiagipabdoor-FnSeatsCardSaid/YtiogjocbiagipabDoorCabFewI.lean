/- FewestCabins, the program's. Condition: sizes. -/
import Derived.Test.YtiogjocbiagipabDoorSortC
import Derived.Test.YtiogjocbiagipabDoorFewMath
import Derived.Test.YtiogjocbiagipabDoorCabNextC
import Derived.Test.YtiogjocbiagipabDoorShelfI
import Derived.Sort.OwnSortedInts
namespace Go.Proofs.YtiogjocbiagipabDoor
open Go.RowKit Go.Sort
set_option linter.unusedVariables false
theorem filt_prefix (q : Cab → Bool) (l : List Cab) (k : Nat) : (l.take k).filter q = (l.filter q).take ((l.take k).filter q).length := by
  have h : l.filter q = (l.take k).filter q ++ (l.drop k).filter q := by rw [← List.filter_append, List.take_append_drop]
  rw [h, List.take_left' rfl]
theorem rs_take {w : World} {B g ca : Nat} {t : Nat} {U : TypeId} {r : List Cab} (h : w.ownsRow B U 5 (.slice (some ⟨g, 0, none⟩) r.length ca) r.length (cabs r)) (ht : t ≤ r.length) : Rs w (.slice (some ⟨g, 0, none⟩) t ca) (r.take t).length (cabs (r.take t)) := by
  have hl : (r.take t).length = t := by rw [List.length_take]; omega
  rcases own_form h with ⟨_, hv⟩ | ⟨g', ca', hv, hB, hg, hc, hm⟩
  · cases hv
  · cases hv
    rw [hl]
    refine .inr ⟨g, 0, ca, rfl, hg, ⟨by omega, by unfold maxLen at *; omega⟩, fun i u hi => ?_⟩
    have h1 := h.cells (g := g) rfl i u (by
      have e : cabs r = cabs (r.take t) ++ cabs (r.drop t) := by rw [← cabs_append, List.take_append_drop]
      rw [e, List.getElem?_append_left (List.getElem?_eq_some_iff.1 hi).1]; exact hi)
    rw [gs_addr] at h1
    exact h1
theorem sortI_c (v : Value) (zs : List Int) (w : World) (B : Nat) (ho : w.ownsRow B 3 1 v zs.length (intVs zs)) (hn : zs.length ≤ 12) :
    Calls Tryd.prog 77 #[v] w fun e w' => e = .returned (.tuple #[]) ∧ w'.ownsRow B 3 1 v zs.length (intVs (srt zs)) ∧ w.grownBy w' v.ownBlock := by
  rcases ho.2 with ⟨rfl, h0⟩ | ⟨g, cap, cur, rfl, hbase, hb, h1, h2, h3, h4⟩
  · obtain rfl := List.eq_nil_of_length_eq_zero h0
    refine (Tryd.slices_Sort_int_none none 0 w).mono ?_
    rintro e w' ⟨he, rfl⟩
    exact ⟨he, by rw [srt_nil]; exact ho, World.grownBy.refl _ _⟩
  · refine (Tryd.slices_Sort_int g 0 cap zs w (holds_of_blockI hb (by rw [Nat.mul_one] at h4; exact h4)) (Array.getElem?_eq_some_iff.1 hb).1 (by omega)).mono ?_
    rintro e w' ⟨he, n, os, rfl⟩
    exact ⟨he, ownsRow_sortedI (srt_len zs) hbase hb h1 h2 h3, grownBy_sortedI _⟩
set_option maxRecDepth 100000 in
set_option maxHeartbeats 4000000 in
theorem inState_nn (v : Value) (l : List Cab) (s : Int) (w : World) (hr : Rs w v l.length (cabs l)) (hn : l.length ≤ 12) :
    Calls Tryd.prog 72 #[v, .int .i64 s] w fun e w' => ∃ g, e = .returned g ∧ g ≠ .slice none 0 0 ∧ w'.ownsRow w.heap.size 34 5 g (stOf l s).length (cabs (stOf l s)) ∧ Below w.heap.size w w' := by
  obtain ⟨i0, hi, hz0, hz1, hz2⟩ := info_parts Tryd.infoCab
  have HR := Lib.hid hr
  obtain ⟨ao, a, oa, ca, rfl, hao, hat⟩ := hr.form_Cab
  have HA := Lib.hid hao
  have HL := Lib.hid hat
  clear hr hao hat
  go_enter Tryd.func72, Tryd.ntmps72
  go_wp2
  go_loopw [5, 11] (fun o i wr => ∃ k : Nat, k ≤ l.length ∧ i = .int .i64 k ∧ wr.ownsRow w.heap.size 34 5 o ((l.take k).filter (inSt s)).length (cabs ((l.take k).filter (inSt s))) ∧ Hid (Below w.heap.size w wr) ∧ Hid (o ≠ .slice none 0 0)) (fun _ i _ => l.length - (intOf i).toNat)
  case atStart => exact ⟨0, by omega, rfl, World.ownsRow_made w #[] 0 (Nat.le_refl _) (by decide) rfl, Lib.hid ((Below.refl _ _).alloc (Nat.le_refl _) _), Lib.hid (fun h => by cases h)⟩
  case round =>
    obtain ⟨k, hk, rfl, hown, hbel, hnn⟩ := hrel
    have hbs := hbel.out.size
    have hfl := filt_len' (inSt s) l k
    by_cases hlt : k < l.length
    · obtain ⟨rfl, hla, hlm⟩ := HA.out (by omega)
      obtain ⟨c0, c1, c2, c3, c4⟩ := (HL.out.below hbel.out hla) k hlt
      by_cases hst : (gth l k).g = s
      · have HS := Lib.hid (filt_yes hlt (inSt_yes hst))
        have t1 : ((gth l k).g == s) = true := by simpa using hst
        clear hst
        generalize gth l k = D at *
        have hown2 := (hown.alloc (.cells #[.int .i64 D.i, .int .i64 D.s, .int .i64 D.w, .int .i64 D.g, .int .i64 D.p] 34)).alloc (.cells #[.int .i64 D.i, .int .i64 D.s, .int .i64 D.w, .int .i64 D.g, .int .i64 D.p] 34)
        go_wp2_with (at_builtin; refine wpList_append_own _ rfl _ _ 24 rfl w.heap.size 34 i0 (.agg #[.int .i64 0, .int .i64 0, .int .i64 0, .int .i64 0, .int .i64 0]) 5 40 Tryd.underlying24 hi hz0 hz1 hz2 rfl (by decide) _ _ _ rfl hown2 ⟨wr.heap.size + 1, 0, none⟩ 1 1 [.int .i64 D.i, .int .i64 D.s, .int .i64 D.w, .int .i64 D.g, .int .i64 D.p] rfl rfl (by simpa using cell5_new (wr.alloc _) _ _ _ _ _ _) (by simp [Value.oneCell']) (by unfold maxLen; omega) (by omega) (by simp; omega) ?_; intro v' w3 hown' hgrow hn3)
        have HN3 : Hid (v' ≠ .slice none 0 0) := Lib.hid (fun h => hnn.out (hn3.1 h).1)
        clear hn3
        go_roundw
        case rel => exact ⟨k + 1, by omega, by go_num, by rw [HS.out, cabs_append, cabs_one, List.length_append]; exact hown', Lib.hid (((hbel.out.alloc hbs _).alloc (by simp; omega) _).grown hgrow (by simp; omega) (fun j hj => (hown.lt j hj).1)), HN3⟩
        case measure => simp [intOf]; omega
      · have HS := Lib.hid (filt_no hlt (inSt_no hst))
        have t1 : ((gth l k).g == s) = false := by simpa using hst
        clear hst
        generalize gth l k = D at *
        go_wp2
        go_roundw
        case rel => exact ⟨k + 1, by omega, by go_num, by rw [HS.out]; exact hown.alloc _, Lib.hid (hbel.out.alloc hbs _), hnn⟩
        case measure => simp [intOf]; omega
    · obtain rfl : k = l.length := by omega
      rw [List.take_length] at hown
      go_wp2
      go_ret
      exact ⟨_, rfl, hnn.out, hown, hbel.out⟩
set_option maxRecDepth 100000 in
set_option maxHeartbeats 4000000 in
theorem implFewestCabins_c (v : Value) (l : List Cab) (m : Int) (w : World) (hr : Rs w v l.length (cabs l)) (hn : l.length ≤ 1048576) (hw : (Lit.int .i64 m).wf = true) :
    Calls Tryd.prog 28 #[v, .int .i64 m] w fun e w' => ∃ g, e = .returned (.tuple #[g, .bool (fwOk l m)]) ∧ w'.ownsRow w.heap.size 3 1 g (fwR l m).length (intVs (fwR l m)) ∧ Below w.heap.size w w' := by
  have E0 := Lib.hid (fun W h => implAreCabins_c v l W h hn)
  have E1 := Lib.hid (fun W => within_c m 0 200 W)
  have hd : fwIn l m = (cabL l && inR m 0 200) := rfl
  have HR := Lib.hid hr
  clear hr hw
  cases hk : cabL l with
  | false =>
    rw [hk] at E0 hd
    have HN := Lib.hid (fw_no (l := l) (m := m) (by rw [hd]; rfl))
    clear hk hd E1
    go_enter Tryd.func28, Tryd.ntmps28
    go_wp2_with fail
    refine (E0.out _ HR.out).mono ?_
    rintro e w1 ⟨rfl, b1⟩
    go_wp2
    go_ret2
    exact ⟨_, by rw [HN.out.1]; rfl, by rw [HN.out.2]; exact World.ownsRow_made _ #[] 0 b1.size (by decide) rfl, b1.alloc b1.size _⟩
  | true =>
    cases hm : inR m 0 200 with
    | false =>
      rw [hk] at E0
      rw [hm] at E1
      rw [hk, hm] at hd
      have HN := Lib.hid (fw_no (l := l) (m := m) (by rw [hd]; rfl))
      clear hk hm hd
      go_enter Tryd.func28, Tryd.ntmps28
      go_wp2_with fail
      refine (E0.out _ HR.out).mono ?_
      rintro e w1 ⟨rfl, b1⟩
      go_wp2_with fail
      refine (E1.out _).mono ?_
      rintro e w2 ⟨rfl, rfl⟩
      go_wp2
      go_ret2
      exact ⟨_, by rw [HN.out.1]; rfl, by rw [HN.out.2]; exact World.ownsRow_made _ #[] 0 b1.size (by decide) rfl, b1.alloc b1.size _⟩
    | true =>
      have HC := Lib.hid (cabL_yes hk)
      have h12 := HC.out.len
      obtain ⟨hm0, hm1⟩ := (inR_iff m 0 200).1 hm
      rw [hk] at E0
      rw [hm] at E1
      rw [hk, hm] at hd
      have HD : Hid (fwIn l m = true) := Lib.hid (by rw [hd]; rfl)
      clear hk hm hd
      go_enter Tryd.func28, Tryd.ntmps28
      go_wp2_with fail
      refine (E0.out _ HR.out).mono ?_
      rintro e w1 ⟨rfl, b1⟩
      go_wp2_with fail
      refine (E1.out _).mono ?_
      rintro e w2 ⟨rfl, rfl⟩
      go_wp2_with fail
      refine (inState_nn v l 0 _ (HR.out.below b1 rfl) h12).mono ?_
      rintro e w3 ⟨rv, rfl, hnn, o3, b3⟩
      have hsl := stOf_len l 0
      have hfl : (l.filter (inSt 0)).length ≤ 12 := by have : (l.filter (inSt 0)).length ≤ l.length := hsl; omega
      go_wp2_with fail
      refine (sort_few rv _ (stOf l 0) _ o3 hfl).mono ?_
      rintro e w4 ⟨rfl, d, hp, hs, o4, g4⟩
      have HO4 : Hid (d.toList = rdy l) := Lib.hid (sorted_ord HC.out hp hs)
      have HLN : Hid ((rdy l).length = (stOf l 0).length) := Lib.hid (((ordA_perm false l).filter (inSt 0)).length_eq)
      have HB3 := Lib.hid (b1.trans (b3.mono b1.size))
      have HB4 := Lib.hid (HB3.out.grown g4 HB3.out.size (fun j hj => Nat.le_trans b1.size (o3.lt j hj).1))
      have HSE := Lib.hid (rdy_seats HC.out)
      have o5 : w4.ownsRow w2.heap.size 34 5 rv (rdy l).length (cabs (rdy l)) := by rw [HLN.out, ← HO4.out]; exact o4
      have hrl : (rdy l).length ≤ 12 := by rw [HLN.out]; omega
      have HFY := Lib.hid (fun h => fw_yes (l := l) (m := m) HD.out h)
      have HFN := Lib.hid (fun h => fw_none (l := l) (m := m) h)
      clear hp hs o3 o4 g4 HO4 HLN b3
      generalize rdy l = r at *
      rcases own_form o5 with ⟨_, rfl⟩ | ⟨g, ca, rfl, hBg, hgw, hnc, hcm⟩
      · exact absurd rfl hnn
      · have HRT := Lib.hid (fun t (ht : t ≤ r.length) => rs_take o5 ht)
        have HAT := Lib.hid (own_Cab o5)
        have HSB := Lib.hid (fun t => sum_take HSE.out hrl t)
        clear o5 hnn hBg
        go_wp2
        go_loop [7, 8] (fun tk st => ∃ t : Nat, t ≤ r.length ∧ tk = .int .i64 t ∧ st = .int .i64 (sumS (r.take t)) ∧ Hid (∀ j, j < t → sumS (r.take j) < m)) (fun tk _ => r.length - (intOf tk).toNat)
        case atStart => exact ⟨0, by omega, rfl, rfl, Lib.hid (fun j h => by omega)⟩
        case round =>
          obtain ⟨t, htl, rfl, rfl, hinv⟩ := hrel
          obtain ⟨g1, g2⟩ := HSB.out t
          by_cases hp : sumS (r.take t) < m
          · have t1 : decide (sumS (r.take t) < m) = true := by simpa using hp
            by_cases hlt : t < r.length
            · have HI2 : Hid (∀ j, j < t + 1 → sumS (r.take j) < m) := Lib.hid (fun j h => by
                by_cases e : j = t
                · subst e; exact hp
                · exact hinv.out j (by omega))
              have HX : Hid (sumS (r.take (t + 1)) = sumS (r.take t) + (gth r t).s) := Lib.hid (by rw [take_gth r t hlt, sumS_one])
              obtain ⟨c0, c1, c2, c3, c4⟩ := HAT.out t hlt
              simp only [Nat.zero_add] at c0 c1 c2 c3 c4
              have hs1 := HSE.out _ (gth_mem hlt)
              have t2 : ((t : Int) == (r.length : Int)) = false := by rw [beq_eq_false_iff_ne]; omega
              have t3 : (t == r.length) = false := by rw [beq_eq_false_iff_ne]; omega
              clear hp
              generalize gth r t = D at *
              generalize sumS (r.take t) = S at *
              have e1 : IntKind.i64.wrap (S + D.s) = S + D.s := IntWalk.i64_in _ (by omega)
              go_wp2
              go_round
              case rel => exact ⟨t + 1, by omega, by go_num, by rw [HX.out], HI2⟩
              case measure => simp [intOf]; omega
            · have HN2 := Lib.hid (HFN.out (by rw [show t = r.length by omega, List.take_length] at hp; exact hp))
              have t2 : ((t : Int) == (r.length : Int)) = true := by rw [beq_iff_eq]; omega
              have t3 : (t == r.length) = true := by rw [beq_iff_eq]; omega
              clear hp
              generalize sumS (r.take t) = S at *
              go_wp2
              go_ret2
              exact ⟨_, by rw [HN2.out.1]; rfl, by rw [HN2.out.2]; exact World.ownsRow_made _ #[] 0 HB4.out.size (by decide) rfl, HB4.out.alloc HB4.out.size _⟩
          · have HY := Lib.hid (HFY.out (by have := sumS_take_le HSE.out t; omega))
            have HT : Hid (fewN r m = t) := Lib.hid (fewN_at r m t htl hinv.out (.inr (by omega)))
            have t1 : decide (sumS (r.take t) < m) = false := by simpa using hp
            have hb1 : (0 : Int) ≤ (t : Int) := by omega
            have hb2 : (t : Int) ≤ (ca : Int) := by omega
            have HRS := Lib.hid (HRT.out t htl)
            have hrt : (r.take t).length ≤ 12 := by rw [List.length_take]; omega
            clear hp
            generalize sumS (r.take t) = S at *
            go_wp2_with fail
            refine (numsOf_c _ _ _ HRS.out hrt).mono ?_
            rintro e w5 ⟨h, rfl, o6, b5⟩
            go_wp2_with fail
            refine (sortI_c h _ _ _ o6 (by rw [nums_len]; exact hrt)).mono ?_
            rintro e w6 ⟨rfl, o7, g7⟩
            have HB6 := Lib.hid ((HB4.out.trans (b5.mono HB4.out.size)).grown g7 (HB4.out.trans (b5.mono HB4.out.size)).size (fun j hj => Nat.le_trans HB4.out.size (o6.lt j hj).1))
            clear o6 g7 b5
            go_wp2
            go_ret2
            exact ⟨_, by rw [HY.out.1]; rfl, by rw [HY.out.2, HT.out, srt_len]; exact own_mono o7 HB4.out.size, HB6.out⟩
end Go.Proofs.YtiogjocbiagipabDoor
