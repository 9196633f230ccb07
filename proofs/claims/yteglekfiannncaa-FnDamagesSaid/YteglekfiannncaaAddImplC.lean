/- The walk of impl.AddDamage. Condition: sizes. -/
import Derived.Test.YteglekfiannncaaAddSpecC
import Derived.Test.YteglekfiannncaaInsC
import Derived.WalkSpells
namespace Go.Proofs.Yteglekfiannncaa
open Go.RowKit
set_option linter.unusedVariables false
theorem own_weak {w : World} {B B' : Nat} {e : TypeId} {size n : Nat} {v : Value} {xs : List Value} (h : w.ownsRow B' e size v n xs) (hB : B ≤ B') : w.ownsRow B e size v n xs :=
  ⟨h.1, h.2.imp id (fun ⟨g, cap, cur, hv, hb, r⟩ => ⟨g, cap, cur, hv, Nat.le_trans hB hb, r⟩)⟩
theorem own_set {w : World} {B g ca : Nat} {e : TypeId} {size n : Nat} {xs : List Value} (h : w.ownsRow B e size (.slice (some ⟨g, 0, none⟩) n ca) n xs) (j : Nat) (u : Value) :
    (w.setCell ⟨g, j, none⟩ u).ownsRow B e size (.slice (some ⟨g, 0, none⟩) n ca) n (xs.set j u) := by
  rcases h.2 with ⟨h', _⟩ | ⟨g', ca', cur, h', hb, hg, h1, h2, h3, h4⟩
  · simp at h'
  · simp only [Value.slice.injEq, Option.some.injEq, Addr.mk.injEq, and_true, true_and] at h'
    obtain ⟨rfl, rfl⟩ := h'
    refine ⟨by simp [h.1], .inr ⟨g, ca, cur.setIfInBounds j u, rfl, hb, by simp [World.setCell, Array.getElem?_modify, hg], h1, h2, by simp [h3], ?_⟩⟩
    rw [← h4, Array.toList_setIfInBounds, List.take_set]
theorem own_len {w : World} {B n m : Nat} {e : TypeId} {size : Nat} {v : Value} {xs : List Value} (h : w.ownsRow B e size v n xs) (hm : n = m) : w.ownsRow B e size v m xs := by subst hm; exact h
theorem dmgs_set (l : List Dmg) (d : Dmg) (x : Int) (p : Nat) (hp : p < l.length) (ha : (gth l p).a = d.a) (hs : (gth l p).s = d.s) :
    (dmgs l).set (p * 3 + 2) (.int .i64 x) = dmgs (l.take p ++ ([⟨d.a, d.s, x⟩] ++ l.drop (p + 1))) := by
  have hal : (dmgs (l.take p)).length = p * 3 := dmgs_take_len l p (by omega)
  have hl : dmgs l = dmgs (l.take p) ++ ([.int .i64 (gth l p).a, .int .i64 (gth l p).s, .int .i64 (gth l p).w] ++ dmgs (l.drop (p + 1))) := by
    rw [← dmgs_one, ← dmgs_append, ← dmgs_append, List.singleton_append, ← drop_gth l p hp, List.take_append_drop]
  rw [hl, dmgs_append, dmgs_append, dmgs_one, List.set_append_right _ _ (by omega), hal, Nat.add_sub_cancel_left, ha, hs]
  rfl
theorem ad_do {k : RK} {l : List Dmg} {d : Dmg} (hg : good k l = true) (hd : isD k d = true) : adOk k l d = good k (addL l d) := by
  have h := (isD_iff k d).1 hd
  unfold adOk adIn
  simp [hg]
  intro _
  omega
set_option maxRecDepth 100000 in
set_option maxHeartbeats 4000000 in
theorem implAddDamage_c (k : RK) (v : Value) (l : List Dmg) (d : Dmg) (w : World) (B : Nat) (hwf : d.wf) (ho : w.ownsRow B 55 3 v l.length (dmgs l)) (hn : l.length ≤ 1048576) :
    Calls Try.prog 44 #[.agg #[.int .i64 k.i, .int .i64 k.s, .int .i64 k.w, .int .i64 k.g, .int .i64 k.p], v, .agg #[.int .i64 d.a, .int .i64 d.s, .int .i64 d.w]] w fun e w' => ∃ g, e = .returned (.tuple #[g, .bool (adOk k l d)]) ∧ w'.ownsRow w.heap.size 55 3 g (adR k l d).length (dmgs (adR k l d)) ∧ Below w.heap.size w w' := by
  obtain ⟨i0, hi, hz0, hz1, hz2⟩ := info_parts Try.infoDmg
  have HO := Lib.hid ho
  have HWF := Lib.hid hwf
  clear ho hwf
  go_enter Try.func44, Try.ntmps44
  go_wp2_with fail
  have HT : Hid (Below w.heap.size w ((w.alloc (.cells #[.int .i64 k.i, .int .i64 k.s, .int .i64 k.w, .int .i64 k.g, .int .i64 k.p] 47)).alloc (.cells #[.int .i64 d.a, .int .i64 d.s, .int .i64 d.w] 55))) := Lib.hid (((Below.refl _ _).alloc (Nat.le_refl _) _).alloc (by simp) _)
  have HBK : Hid (∀ W, Below (w.heap.size + 2) ((w.alloc (.cells #[.int .i64 k.i, .int .i64 k.s, .int .i64 k.w, .int .i64 k.g, .int .i64 k.p] 47)).alloc (.cells #[.int .i64 d.a, .int .i64 d.s, .int .i64 d.w] 55)) W → W.cell? ⟨w.heap.size, 0, none⟩ = some (.int .i64 k.i) ∧ W.cell? ⟨w.heap.size, 1, none⟩ = some (.int .i64 k.s) ∧ W.cell? ⟨w.heap.size, 2, none⟩ = some (.int .i64 k.w) ∧ W.cell? ⟨w.heap.size, 3, none⟩ = some (.int .i64 k.g) ∧ W.cell? ⟨w.heap.size, 4, none⟩ = some (.int .i64 k.p)) := Lib.hid (fun W h => box_RK w k _ _ rfl W (((Below.refl _ _).alloc (by simp) _).trans (h.mono (by simp))))
  have HBD : Hid (∀ W, Below (w.heap.size + 2) ((w.alloc (.cells #[.int .i64 k.i, .int .i64 k.s, .int .i64 k.w, .int .i64 k.g, .int .i64 k.p] 47)).alloc (.cells #[.int .i64 d.a, .int .i64 d.s, .int .i64 d.w] 55)) W → W.cell? ⟨w.heap.size + 1, 0, none⟩ = some (.int .i64 d.a) ∧ W.cell? ⟨w.heap.size + 1, 1, none⟩ = some (.int .i64 d.s) ∧ W.cell? ⟨w.heap.size + 1, 2, none⟩ = some (.int .i64 d.w)) := Lib.hid (fun W h => box_Dmg (w.alloc (.cells #[.int .i64 k.i, .int .i64 k.s, .int .i64 k.w, .int .i64 k.g, .int .i64 k.p] 47)) d _ _ (by simp) W h)
  have hs0 : ((w.alloc (.cells #[.int .i64 k.i, .int .i64 k.s, .int .i64 k.w, .int .i64 k.g, .int .i64 k.p] 47)).alloc (.cells #[.int .i64 d.a, .int .i64 d.s, .int .i64 d.w] 55)).heap.size = w.heap.size + 2 := by simp
  generalize ((w.alloc (.cells #[.int .i64 k.i, .int .i64 k.s, .int .i64 k.w, .int .i64 k.g, .int .i64 k.p] 47)).alloc (.cells #[.int .i64 d.a, .int .i64 d.s, .int .i64 d.w] 55)) = W0 at *
  refine (implAreDamages_c k _ l _ (Rs.of_own (owns_below HO.out HT.out)) hn).mono ?_
  rintro e w1 ⟨rfl, b1⟩
  have HB1 : Hid (Below (w.heap.size + 2) W0 w1) := Lib.hid (by rw [← hs0]; exact b1)
  have HT1 : Hid (Below w.heap.size w w1) := Lib.hid (HT.out.trans (b1.mono (by omega)))
  clear b1
  cases hg : good k l with
  | false =>
    have HN := Lib.hid (ad_not1 (k := k) (l := l) (d := d) (.inl hg))
    have HR0 := Lib.hid (ad_no HN.out)
    go_wp2
    go_ret2
    refine ⟨_, ret_v HN.out.symm, ?_, HT1.out.alloc HT1.out.size _⟩
    rw [HR0.out]
    exact World.ownsRow_made w1 #[] 0 HT1.out.size (by decide) rfl
  | true =>
    have HGd := Lib.hid (good_yes hg)
    have HGB := Lib.hid hg
    obtain ⟨x0, x1, x2, x3, x4⟩ := HBK.out _ HB1.out
    obtain ⟨d0, d1, d2⟩ := HBD.out _ HB1.out
    have HS := Lib.hid (isK_strands HGd.out.kind)
    have hl15 := HGd.out.len
    clear hg
    go_wp2_with fail
    refine (isDamage_c k d (k.s - 1) HS.out w1).mono ?_
    rintro e w2 ⟨he, b2⟩
    obtain ⟨bD, hbD⟩ : ∃ b, b = isD k d := ⟨_, rfl⟩
    replace he : e = .returned (.bool bD) := by rw [hbD]; exact he
    subst he
    have HB2 : Hid (Below (w.heap.size + 2) W0 w2) := Lib.hid (HB1.out.trans (b2.mono (by have := HB1.out.size; omega)))
    have HT2 : Hid (Below w.heap.size w w2) := Lib.hid (HT1.out.trans (b2.mono HT1.out.size))
    clear b2 x0 x1 x2 x3 x4 d0 d1 d2
    have HbD := Lib.hid hbD
    clear hbD
    cases bD with
    | false =>
      have HN := Lib.hid (ad_not2 HWF.out HGB.out HbD.out.symm)
      have HR0 := Lib.hid (ad_no HN.out)
      go_wp2
      go_ret2
      refine ⟨_, ret_v HN.out.symm, ?_, HT2.out.alloc HT2.out.size _⟩
      rw [HR0.out]
      exact World.ownsRow_made w2 #[] 0 HT2.out.size (by decide) rfl
    | true =>
      have HDO := Lib.hid (ad_do HGB.out HbD.out.symm)
      obtain ⟨d0, d1, d2⟩ := HBD.out _ HB2.out
      go_wp2_with fail
      refine (clone_c v l w2 B (owns_below HO.out HT2.out) hl15).mono ?_
      rintro e w3 ⟨g3, rfl, hown3, b3⟩
      have HB3 : Hid (Below (w.heap.size + 2) W0 w3) := Lib.hid (HB2.out.trans (b3.mono (by have := HB2.out.size; omega)))
      have HT3 : Hid (Below w.heap.size w w3) := Lib.hid (HT2.out.trans (b3.mono HT2.out.size))
      have HO3 := Lib.hid hown3
      have hs23 := b3.size
      clear hown3 d0 d1 d2 b3
      obtain ⟨d0, d1, d2⟩ := HBD.out _ HB3.out
      go_wp2_with fail
      refine (binSearch_c k g3 l d w3 (Rs.of_own HO3.out) HGd.out).mono ?_
      rintro e w4 ⟨rfl, b4⟩
      have HB4 : Hid (Below (w.heap.size + 2) W0 w4) := Lib.hid (HB3.out.trans (b4.mono (by have := HB3.out.size; omega)))
      have HT4 : Hid (Below w.heap.size w w4) := Lib.hid (HT3.out.trans (b4.mono HT3.out.size))
      have HO4 := Lib.hid (owns_below HO3.out b4)
      clear d0 d1 d2
      have hs2 := HB2.out.size
      have hs34 : w3.heap.size ≤ w4.heap.size := b4.size
      obtain ⟨d0, d1, d2⟩ := HBD.out _ HB4.out
      obtain ⟨x0, x1, x2, x3, x4⟩ := HBK.out _ HB4.out
      have HPl := Lib.hid (posn_le l d)
      obtain ⟨bf, hbf⟩ : ∃ b, b = fnd l d := ⟨_, rfl⟩
      rw [← hbf]
      have Hbf := Lib.hid hbf
      clear hbf b4
      cases bf with
      | true =>
        have HFl := Lib.hid (fnd_lt Hbf.out.symm)
        have HSI := Lib.hid (smW_in HGd.out HbD.out.symm Hbf.out.symm)
        rcases own_form HO4.out with ⟨h0, rfl⟩ | ⟨gb, cb, rfl, hBb, hgb, hnb, hcb⟩
        · have := HFl.out.1; omega
        · have hpl := HFl.out.1
          obtain ⟨e0, e1, e2⟩ := dmgs_at l (posn l d) hpl
          have q2 : w4.cell? ⟨gb, posn l d * 3 + 2, none⟩ = some (.int .i64 (gth l (posn l d)).w) := by
            have h := HO4.out.cells (g := gb) rfl _ _ e2
            rw [gs_addr] at h
            simpa using h
          have qf : w4.frozen? ⟨gb, posn l d * 3 + 2, none⟩ = false := by
            rcases HO4.out.2 with ⟨h', _⟩ | ⟨g', ca', cur, h', _, hg, _⟩
            · simp at h'
            · simp only [Value.slice.injEq, Option.some.injEq, Addr.mk.injEq, and_true, true_and] at h'
              obtain ⟨rfl, rfl⟩ := h'
              simp [World.frozen?, hg]
          have HA : Hid ((dmgs l).set (posn l d * 3 + 2) (.int .i64 (smW l d)) = dmgs (addL l d) ∧ l.length = (addL l d).length) := Lib.hid ⟨by rw [addL_yes Hbf.out.symm]; exact dmgs_set l d _ _ hpl HFl.out.2.1 HFl.out.2.2, by rw [addL_yes Hbf.out.symm]; simp; omega⟩
          have hsw : IntKind.i64.wrap ((gth l (posn l d)).w + d.w) = smW l d := by unfold smW; rw [Int.add_comm]
          have HOS := Lib.hid (own_set HO4.out (posn l d * 3 + 2) (.int .i64 (smW l d)))
          have HBS := Lib.hid (HB4.out.setCell (p := ⟨gb, posn l d * 3 + 2, none⟩) (by show w.heap.size + 2 ≤ gb; omega) (.int .i64 (smW l d)))
          have HTS := Lib.hid (HT4.out.setCell (p := ⟨gb, posn l d * 3 + 2, none⟩) (by show w.heap.size ≤ gb; omega) (.int .i64 (smW l d)))
          clear e0 e1 e2
          generalize smW l d = SW at *
          generalize (gth l (posn l d)).w = EW at *
          have hp0 : (0 : Int) ≤ (posn l d : Int) := by omega
          have hp1 : (posn l d : Int) < (l.length : Int) := by omega
          go_wp2_with fail
          go_still_tail 10, (by kernel_rfl)
          change wpList _ _ _ _ _ w4.drew
          go_wp2_with fail
          have HOZ := Lib.hid (own_len (by have h := owns_below HOS.out ((Below.refl _ _).drew); rw [HA.out.1] at h; exact h) HA.out.2)
          have HTZ := Lib.hid HTS.out.drew
          refine (implAreDamages_c k _ (addL l d) _ (Rs.of_own HOZ.out) (by have := addL_len l d; omega)).mono ?_
          rintro e w7 ⟨rfl, b7⟩
          have HT7 : Hid (Below w.heap.size w w7) := Lib.hid (HTZ.out.trans (b7.mono HTZ.out.size))
          have HO7 := Lib.hid (owns_below HOZ.out b7)
          clear b7
          cases hgA : good k (addL l d) with
          | false =>
            have HN := Lib.hid (HDO.out.trans hgA)
            have HR0 := Lib.hid (ad_no HN.out)
            go_wp2
            go_ret2
            refine ⟨_, ret_v HN.out.symm, ?_, HT7.out.alloc HT7.out.size _⟩
            rw [HR0.out]
            exact World.ownsRow_made w7 #[] 0 HT7.out.size (by decide) rfl
          | true =>
            have HN := Lib.hid (HDO.out.trans hgA)
            have HR0 := Lib.hid (ad_yes HN.out)
            go_wp2
            go_ret2
            refine ⟨_, ret_v HN.out.symm, ?_, HT7.out⟩
            rw [HR0.out]
            exact own_weak HO7.out (by omega)
      | false =>
        have HA := Lib.hid (addL_no Hbf.out.symm)
        go_wp2_with fail
        have hsz4 := HB4.out.size
        refine (insert_c g3 l (posn l d) _ d _ w2.heap.size (owns_below HO4.out ((Below.refl _ _).alloc (Nat.le_refl _) _)) (by simp; omega) hl15 HPl.out (heap_alloc_new w4 _) (fun h => by have := (HO4.out.lt _ h).2; omega)).mono ?_
        rintro e w5 ⟨g5, rfl, hown5, b5⟩
        have HB5 : Hid (Below (w.heap.size + 2) W0 w5) := Lib.hid ((HB4.out.alloc (by omega) _).trans (b5.mono (by omega)))
        have HT5 : Hid (Below w.heap.size w w5) := Lib.hid ((HT4.out.alloc HT4.out.size _).trans (b5.mono (by omega)))
        have HO5 : Hid (w5.ownsRow w2.heap.size 55 3 g5 (addL l d).length (dmgs (addL l d))) := Lib.hid (by rw [HA.out]; exact hown5)
        clear b5 hown5 d0 d1 d2 x0 x1 x2 x3 x4
        obtain ⟨x0, x1, x2, x3, x4⟩ := HBK.out _ HB5.out
        go_wp2_with fail
        refine (implAreDamages_c k _ (addL l d) _ (Rs.of_own HO5.out) (by have := addL_len l d; omega)).mono ?_
        rintro e w7 ⟨rfl, b7⟩
        have HT7 : Hid (Below w.heap.size w w7) := Lib.hid (HT5.out.trans (b7.mono HT5.out.size))
        have HO7 := Lib.hid (owns_below HO5.out b7)
        clear b7
        cases hgA : good k (addL l d) with
        | false =>
          have HN := Lib.hid (HDO.out.trans hgA)
          have HR0 := Lib.hid (ad_no HN.out)
          go_wp2
          go_ret2
          refine ⟨_, ret_v HN.out.symm, ?_, HT7.out.alloc HT7.out.size _⟩
          rw [HR0.out]
          exact World.ownsRow_made w7 #[] 0 HT7.out.size (by decide) rfl
        | true =>
          have HN := Lib.hid (HDO.out.trans hgA)
          have HR0 := Lib.hid (ad_yes HN.out)
          go_wp2
          go_ret2
          refine ⟨_, ret_v HN.out.symm, ?_, HT7.out⟩
          rw [HR0.out]
          exact own_weak HO7.out (by omega)
end Go.Proofs.Yteglekfiannncaa
