/- impl.UseTicket. Condition: sizes; the table of rules is as laid. -/
import Derived.Test.YtpknodbkjjcdjaaDoorTksC
import Derived.Test.YtpknodbkjjcdjaaDoorTikQ
namespace Go.Proofs.YtpknodbkjjcdjaaDoor
open Go.RowKit
set_option linter.unusedVariables false
theorem ret_v {v : Value} {p q : Bool} (g : p = q) : Ending.returned (.tuple #[v, .bool p]) = .returned (.tuple #[v, .bool q]) := by rw [g]
theorem us_cr {l : List Tik} {n d : Int} {u : Bool} (h : tikL l = true) (hi : idxT l n < l.length) : usOk l n d u = crV (gth l (idxT l n)) d u := by
  unfold usOk crV rdOk
  rw [h, (tikL_yes h).one hi]
  simp [hi]
theorem own_setT {w : World} {B g ca : Nat} {e : TypeId} {size n : Nat} {xs : List Value} (h : w.ownsRow B e size (.slice (some ⟨g, 0, none⟩) n ca) n xs) (j : Nat) (u : Value) :
    (w.setCell ⟨g, j, none⟩ u).ownsRow B e size (.slice (some ⟨g, 0, none⟩) n ca) n (xs.set j u) := by
  rcases h.2 with ⟨h', _⟩ | ⟨g', ca', cur, h', hb, hg, h1, h2, h3, h4⟩
  · simp at h'
  · simp only [Value.slice.injEq, Option.some.injEq, Addr.mk.injEq, and_true, true_and] at h'
    obtain ⟨rfl, rfl⟩ := h'
    refine ⟨by simp [h.1], .inr ⟨g, ca, cur.setIfInBounds j u, rfl, hb, by simp [World.setCell, Array.getElem?_modify, hg], h1, h2, by simp [h3], ?_⟩⟩
    rw [← h4, Array.toList_setIfInBounds, List.take_set]
theorem below_set {B : Nat} {a w : World} (h : Below B a w) {b : Nat} (hb : B ≤ b) (i : Nat) (v : Value) : Below B a (w.setCell ⟨b, i, none⟩ v) := h.setCell (p := ⟨b, i, none⟩) hb v
theorem own_lenT {w : World} {B n m : Nat} {e : TypeId} {size : Nat} {v : Value} {xs : List Value} (h : w.ownsRow B e size v n xs) (hm : n = m) : w.ownsRow B e size v m xs := by subst hm; exact h
set_option maxRecDepth 100000 in
set_option maxHeartbeats 4000000 in
theorem implUseTicket_c (v : Value) (l : List Tik) (n d : Int) (u : Bool) (w : World) (hr : Rs w v l.length (tiks l)) (hn : l.length ≤ 1048576) (hT : RulP w) :
    Calls Tryd.prog 17 #[v, .int .i64 n, .int .i64 d, .bool u] w fun e w' => ∃ g, e = .returned (.tuple #[g, .bool (usOk l n d u)]) ∧ w'.ownsRow w.heap.size 31 5 g (usR l n d u).length (tiks (usR l n d u)) ∧ Below w.heap.size w w' := by
  have hmf : ∀ (fn : Fn) (first cap : Array Value) (w : World), (Instr.makeFunc fn first cap).run Tryd.prog w = .ok (.func fn first cap) w := fun _ _ _ _ => rfl
  have E0 := Lib.hid (fun W h h2 => implAreTickets_c v l W h hn h2)
  have HR := Lib.hid hr
  have HTT := Lib.hid hT
  clear hr hT
  cases hk : tikL l with
  | false =>
    rw [hk] at E0
    have HN := Lib.hid (us_list (n := n) (d := d) (u := u) hk)
    clear hk
    go_enter Tryd.func17, Tryd.ntmps17
    go_wp2_with fail
    have HB0 : Hid (Below w.heap.size w (w.alloc (.cells #[.int .i64 n] 3))) := Lib.hid ((Below.refl _ _).alloc (Nat.le_refl _) _)
    have HP0 : Hid ((w.alloc (.cells #[.int .i64 n] 3)).cell? ⟨w.heap.size, 0, none⟩ = some (.int .i64 n)) := Lib.hid (by rw [World.cell?_alloc_at _ _ _ _ rfl]; rfl)
    have hs0 : (w.alloc (.cells #[.int .i64 n] 3)).heap.size = w.heap.size + 1 := by simp
    generalize w.alloc (.cells #[.int .i64 n] 3) = W0 at *
    refine (E0.out _ (HR.out.below HB0.out rfl) (HTT.out.below HB0.out)).mono ?_
    rintro e w1 ⟨rfl, b1⟩
    have HT1 := Lib.hid (HB0.out.trans (b1.mono (by omega)))
    clear b1
    go_wp2
    go_ret2
    exact ⟨_, ret_v HN.out.symm, by rw [us_no HN.out]; exact World.ownsRow_made _ #[] 0 HT1.out.size (by decide) rfl, HT1.out.alloc HT1.out.size _⟩
  | true =>
    have HC := Lib.hid (tikL_yes hk)
    have h12 := HC.out.len
    rw [hk] at E0
    have HIN := Lib.hid hk
    clear hk
    go_enter Tryd.func17, Tryd.ntmps17
    go_wp2_with fail
    have HB0 : Hid (Below w.heap.size w (w.alloc (.cells #[.int .i64 n] 3))) := Lib.hid ((Below.refl _ _).alloc (Nat.le_refl _) _)
    have HP0 : Hid ((w.alloc (.cells #[.int .i64 n] 3)).cell? ⟨w.heap.size, 0, none⟩ = some (.int .i64 n)) := Lib.hid (by rw [World.cell?_alloc_at _ _ _ _ rfl]; rfl)
    have hs0 : (w.alloc (.cells #[.int .i64 n] 3)).heap.size = w.heap.size + 1 := by simp
    generalize w.alloc (.cells #[.int .i64 n] 3) = W0 at *
    refine (E0.out _ (HR.out.below HB0.out rfl) (HTT.out.below HB0.out)).mono ?_
    rintro e w1 ⟨rfl, b1⟩
    have HT1 := Lib.hid (HB0.out.trans (b1.mono (by omega)))
    have HP1 := Lib.hid ((b1.cell (p := ⟨w.heap.size, 0, none⟩) (by show w.heap.size < _; omega)).trans HP0.out)
    have hsz1 := b1.size
    go_wp2_with fail
    refine (idxF_c v l n w.heap.size _ (HR.out.below HT1.out rfl) h12 HP1.out (by omega)).mono ?_
    rintro e w3 ⟨rfl, b3⟩
    have HT3 := Lib.hid (HT1.out.trans (b3.mono HT1.out.size))
    clear b1 b3
    by_cases hix : idxT l n < l.length
    · have hv : idxW l n = (idxT l n : Int) := by unfold idxW; rw [if_pos hix]
      rw [hv]
      clear hv
      obtain ⟨ao, a, oa, ca, rfl, hao, hat⟩ := HR.out.form_Tik
      obtain ⟨rfl, hla, hlm⟩ := hao (by omega)
      have HL := Lib.hid hat
      have hla3 : a < w3.heap.size := by have := HT3.out.size; omega
      obtain ⟨c0, c1, c2, c3, c4⟩ := (HL.out.below HT3.out hla) (idxT l n) hix
      have hok := (isT_iff _).1 (HC.out.one hix)
      have hbt := tE_bd (gth l (idxT l n)).s
      have HUS := Lib.hid (us_cr (n := n) (d := d) (u := u) HIN.out hix)
      have HYS := Lib.hid (fun h => us_yes (l := l) (n := n) (d := d) (u := u) h)
      have HS3 := Lib.hid (tiks_set3 l (idxT l n) hix ((gth l (idxT l n)).g + 1))
      have HS4 := Lib.hid (tiks_set4 l (idxT l n) hix ((gth l (idxT l n)).p + 1))
      have HLN : Hid (∀ x : Tik, l.length = (l.set (idxT l n) x).length) := Lib.hid (fun x => by simp)
      have HCL : Hid (∀ (W : World) (gg : Nat), TikAt W gg 0 l → W.cell? ⟨gg, idxT l n * 5 + 3, none⟩ = some (.int .i64 (gth l (idxT l n)).g) ∧ W.cell? ⟨gg, idxT l n * 5 + 4, none⟩ = some (.int .i64 (gth l (idxT l n)).p)) := Lib.hid (fun W gg h => by
        have := h (idxT l n) hix
        simp only [Nat.zero_add] at this
        exact ⟨this.2.2.2.1, this.2.2.2.2⟩)
      have HCR := Lib.hid (fun W h => implCanRide_c (gth l (idxT l n)) d u W h)
      generalize crV (gth l (idxT l n)) d u = CB at *
      generalize rdOk (gth l (idxT l n)) d = RB at *
      generalize gth l (idxT l n) = D at *
      generalize idxT l n = k at *
      have k1 : (0 : Int) ≤ (k : Int) := by omega
      have k2 : ¬ (k : Int) < 0 := by omega
      have k3 : (k : Int) < (l.length : Int) := by omega
      clear hat hao
      go_wp2_with fail
      refine (HCR.out _ (HTT.out.below HT3.out)).mono ?_
      rintro e w5 ⟨rfl, b5⟩
      have HT5 := Lib.hid (HT3.out.trans (b5.mono HT3.out.size))
      have hz5 := b5.size
      clear c0 c1 c2 c3 c4 b5
      cases CB with
      | false =>
        have HN := Lib.hid HUS.out
        go_wp2
        go_ret2
        exact ⟨_, ret_v HN.out.symm, by rw [us_no HN.out]; exact World.ownsRow_made _ #[] 0 HT5.out.size (by decide) rfl, HT5.out.alloc HT5.out.size _⟩
      | true =>
        have HY := Lib.hid (HYS.out HUS.out)
        go_wp2_with fail
        refine (cloneT_c _ l w5 (HR.out.below HT5.out rfl) (by omega)).mono ?_
        rintro e w4 ⟨mv, rfl, o4, b4⟩
        have HT4 := Lib.hid (HT5.out.trans (b4.mono HT5.out.size))
        rcases own_form o4 with ⟨h0, rfl⟩ | ⟨g, cg, rfl, hBg, hgw, hnc, hcm⟩
        · omega
        · obtain ⟨q3, q4⟩ := HCL.out w4 g (own_Tik o4)
          have m3 := o4.frozenAt (k * 5 + 3)
          have m4 := o4.frozenAt (k * 5 + 4)
          have hBg2 : w.heap.size ≤ g := by have := HT5.out.size; omega
          have hwsz : w.heap.size ≤ w5.heap.size := HT5.out.size
          have HO3 := Lib.hid (own_setT o4 (k * 5 + 3) (.int .i64 (D.g + 1)))
          have HO4 := Lib.hid (own_setT o4 (k * 5 + 4) (.int .i64 (D.p + 1)))
          rw [HS3.out] at HO3
          rw [HS4.out] at HO4
          have HB3 := Lib.hid (below_set HT4.out hBg2 (k * 5 + 3) (.int .i64 (D.g + 1)))
          have HB4 := Lib.hid (below_set HT4.out hBg2 (k * 5 + 4) (.int .i64 (D.p + 1)))
          have e1 : IntKind.i64.wrap (D.g + 1) = D.g + 1 := IntWalk.i64_in _ (by omega)
          have e2 : IntKind.i64.wrap (D.p + 1) = D.p + 1 := IntWalk.i64_in _ (by omega)
          clear o4 b4
          cases u with
          | true =>
            go_wp2
            go_ret2
            refine ⟨_, ret_v HUS.out.symm, ?_, HB3.out⟩
            rw [HY.out]
            exact own_lenT (own_mono HO3.out hwsz) (HLN.out _)
          | false =>
            go_wp2
            go_ret2
            refine ⟨_, ret_v HUS.out.symm, ?_, HB4.out⟩
            rw [HY.out]
            exact own_lenT (own_mono HO4.out hwsz) (HLN.out _)
    · have hv : idxW l n = -1 := by unfold idxW; rw [if_neg hix]
      rw [hv]
      have HN := Lib.hid (us_none (d := d) (u := u) (Nat.le_antisymm (idxT_le l n) (Nat.le_of_not_lt hix)))
      clear hv hix
      go_wp2
      go_ret2
      exact ⟨_, ret_v HN.out.symm, by rw [us_no HN.out]; exact World.ownsRow_made _ #[] 0 HT3.out.size (by decide) rfl, HT3.out.alloc HT3.out.size _⟩
end Go.Proofs.YtpknodbkjjcdjaaDoor
