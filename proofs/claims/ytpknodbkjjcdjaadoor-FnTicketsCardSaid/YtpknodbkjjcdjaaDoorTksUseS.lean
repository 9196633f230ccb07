/- spec.UseTicket. Condition: sizes. -/
import Derived.Test.YtpknodbkjjcdjaaDoorTksUse
namespace Go.Proofs.YtpknodbkjjcdjaaDoor
open Go.RowKit
set_option linter.unusedVariables false
theorem grown_setT (w : World) (a : Addr) (v : Value) : w.grownBy (w.setCell a v) (some a.block) :=
  ⟨rfl, rfl, rfl, by simp [World.setCell], fun k hk hne => by simp only [World.setCell, Array.getElem?_modify]; rw [if_neg (fun e => hne (by rw [e]))]⟩
theorem blk_setT {w : World} {P i : Nat} {cs : Array Value} {t : TypeId} {v : Value} (h : w.heap[P]? = some (.cells cs t (0, 0))) :
    (w.setCell ⟨P, i, none⟩ v).heap[P]? = some (.cells (cs.setIfInBounds i v) t (0, 0)) := by
  simp [World.setCell, Array.getElem?_modify, h]
theorem tiks_set5 (l : List Tik) (i : Nat) (hi : i < l.length) (y : Tik) : ((((((tiks l).set (i * 5) (.int .i64 y.i)).set (i * 5 + 1) (.int .i64 y.s)).set (i * 5 + 2) (.int .i64 y.w)).set (i * 5 + 3) (.int .i64 y.g)).set (i * 5 + 4) (.int .i64 y.p)) = tiks (l.set i y) := by
  have hal : (tiks (l.take i)).length = i * 5 := tiks_take_len l i (by omega)
  have h0 := tiks_split l i hi (gth l i)
  have e : l.set i (gth l i) = l := by rw [gth_get hi]; exact List.set_getElem_self hi
  rw [e] at h0
  rw [tiks_split l i hi, h0, List.set_append_right _ _ (by omega), hal, List.set_append_right _ _ (by omega), hal, List.set_append_right _ _ (by omega), hal, List.set_append_right _ _ (by omega), hal, List.set_append_right _ _ (by omega), hal]
  simp only [Nat.sub_self, Nat.add_sub_cancel_left]
  rfl
theorem us_done {l : List Tik} {n d : Int} {u : Bool} (h : ∀ j, j < l.length → (gth l j).i = n → canT (gth l j) d u = false) : usOk l n d u = false := by
  by_cases hi : idxT l n < l.length
  · exact us_can (h _ hi (idxT_at hi))
  · exact us_none (Nat.le_antisymm (idxT_le l n) (Nat.le_of_not_lt hi))
set_option maxRecDepth 100000 in
set_option maxHeartbeats 4000000 in
theorem specUseTicket_c (v : Value) (l : List Tik) (n d : Int) (u : Bool) (w : World) (hr : Rs w v l.length (tiks l)) (hn : l.length ≤ 1048576) :
    Calls Tryd.prog 18 #[v, .int .i64 n, .int .i64 d, .bool u] w fun e w' => ∃ g, e = .returned (.tuple #[g, .bool (usOk l n d u)]) ∧ w'.ownsRow w.heap.size 31 5 g (usR l n d u).length (tiks (usR l n d u)) ∧ Below w.heap.size w w' := by
  obtain ⟨i0, hi, hz0, hz1, hz2⟩ := info_parts Tryd.infoTik
  have E0 := Lib.hid (fun W h => l11Good_c v l W h (by omega))
  have E1 := Lib.hid (fun W => l11Day_c d W)
  have HR := Lib.hid hr
  clear hr
  cases hk : tikL l with
  | false =>
    rw [hk] at E0
    have HN := Lib.hid (us_list (n := n) (d := d) (u := u) hk)
    clear hk E1
    go_enter Tryd.func18, Tryd.ntmps18
    go_wp2_with fail
    refine (E0.out _ HR.out).mono ?_
    rintro e w1 ⟨rfl, b1⟩
    have HT1 := Lib.hid b1
    clear b1
    go_wp2
    go_ret2
    exact ⟨_, ret_v HN.out.symm, by rw [us_no HN.out]; exact World.ownsRow_made _ #[] 0 HT1.out.size (by decide) rfl, HT1.out.alloc HT1.out.size _⟩
  | true =>
    cases hm : inR d 0 999 with
    | false =>
      rw [hk] at E0
      rw [hm] at E1
      have HN := Lib.hid (us_day (l := l) (n := n) (u := u) hm)
      clear hk hm
      go_enter Tryd.func18, Tryd.ntmps18
      go_wp2_with fail
      refine (E0.out _ HR.out).mono ?_
      rintro e w1 ⟨rfl, b1⟩
      go_wp2_with fail
      refine (E1.out _).mono ?_
      rintro e w2 ⟨rfl, rfl⟩
      have HT1 := Lib.hid b1
      clear b1
      go_wp2
      go_ret2
      exact ⟨_, ret_v HN.out.symm, by rw [us_no HN.out]; exact World.ownsRow_made _ #[] 0 HT1.out.size (by decide) rfl, HT1.out.alloc HT1.out.size _⟩
    | true =>
      have HC := Lib.hid (tikL_yes hk)
      have h12 := HC.out.len
      have HIN := Lib.hid hk
      have HDY := Lib.hid hm
      rw [hk] at E0
      rw [hm] at E1
      obtain ⟨ao, a, oa, ca, rfl, hao, hat⟩ := HR.out.form_Tik
      have HRC : Hid (∀ W, Below w.heap.size w W → 0 < l.length → ∃ ad, ao = some ad ∧ ∀ j u, (tiks l)[j]? = some u → W.cell? (ad.add j) = some u) := Lib.hid (fun W hW h0 => by
        obtain ⟨b, off, cap, hv, hb, _, _, hx⟩ := HR.out.pos (by omega)
        cases hv
        exact ⟨_, rfl, fun j u hu => by rw [gs_addr]; exact (hW.cell (p := ⟨b, off + j, none⟩) hb).trans (hx j u hu)⟩)
      have H1 := Lib.hid (tiks_one_cell l)
      have hld := tiks_len l
      clear hk hm hao hat
      go_enter Tryd.func18, Tryd.ntmps18
      go_wp2_with fail
      refine (E0.out _ HR.out).mono ?_
      rintro e w1 ⟨rfl, b1⟩
      go_wp2_with fail
      refine (E1.out _).mono ?_
      rintro e w2 ⟨rfl, rfl⟩
      have HT1 := Lib.hid b1
      clear b1
      have hsz1 := HT1.out.size
      go_wp2_with (at_builtin; refine wpList_append_any _ rfl _ _ 24 rfl w.heap.size 31 i0 (.agg #[.int .i64 0, .int .i64 0, .int .i64 0, .int .i64 0, .int .i64 0]) 5 40 Tryd.underlying24 hi hz0 hz1 hz2 rfl (by omega) (.slice (some ⟨w2.heap.size, 0, none⟩) 0 0) 0 [] rfl (World.ownsRow_made w2 #[] 0 hsz1 (by decide) rfl) ao l.length ca (tiks l) rfl hld (fun h => HRC.out _ (HT1.out.alloc hsz1 _) h) H1.out (by unfold maxLen; omega) (by omega) (by simp; omega) ?_; intro v3 w3 hown3 hgrow3 hat3)
      have hown3 : w3.ownsRow w.heap.size 31 5 v3 l.length (tiks l) := by rw [show ([] : List Value) ++ tiks l = tiks l from rfl, Nat.zero_add] at hown3; exact hown3
      have HT3 : Hid (Below w.heap.size w w3) := Lib.hid ((HT1.out.alloc hsz1 _).grown hgrow3 (by simp; omega) (fun k hk => by simp [Value.ownBlock] at hk; omega))
      have hnn3 : v3 ≠ .slice none 0 0 := fun e => by subst e; rcases hat3 with h | h <;> simp [Value.ownBlock] at h
      clear hgrow3 hat3
      rcases own_form hown3 with ⟨_, rfl⟩ | ⟨g, cg, rfl, hBg, hgw, hnc, hcm⟩
      · exact absurd rfl hnn3
      · have HO3 := Lib.hid hown3
        clear hown3 hnn3
        go_loopw [11] (fun i wr => ∃ (k : Nat), k ≤ l.length ∧ i = .int .i64 k ∧ wr.ownsRow w.heap.size 31 5 (.slice (some ⟨g, 0, none⟩) l.length cg) l.length (tiks l) ∧ Hid (Below w.heap.size w wr) ∧ Hid (∀ j, j < k → (gth l j).i = n → canT (gth l j) d u = false)) (fun i _ => l.length - (intOf i).toNat)
        case atStart => exact ⟨0, by omega, rfl, HO3.out, HT3, Lib.hid (fun j h => by omega)⟩
        case round =>
          obtain ⟨k, hk, rfl, hown, hbel, hno⟩ := hrel
          have hbs := hbel.out.size
          by_cases hlt : k < l.length
          · obtain ⟨c0, c1, c2, c3, c4⟩ := own_Tik hown k hlt
            simp only [Nat.zero_add] at c0 c1 c2 c3 c4
            have hgr := (hown.lt g rfl).2
            have HO := Lib.hid hown
            have i1 : (k : Int) < (l.length : Int) := by omega
            have HNX : Hid (((gth l k).i = n → canT (gth l k) d u = false) → ∀ j, j < k + 1 → (gth l j).i = n → canT (gth l j) d u = false) := Lib.hid (fun h j hj => by
              by_cases e : j = k
              · subst e; exact h
              · exact hno.out j (by omega))
            by_cases hst : (gth l k).i = n
            · have hix := idxT_one HC.out hlt hst
              have t1 : ((gth l k).i != n) = false := by simpa using hst
              have HMA : Hid (canT (gth l k) d u = true → usOk l n d u = true) := Lib.hid (fun h4 => us_all HIN.out HDY.out (by rw [hix]; exact hlt) (by rw [hix]; exact h4))
              have HMY := Lib.hid (fun h => us_yes (l := l) (n := n) (d := d) (u := u) h)
              rw [hix] at HMY
              have hone := HC.out.one hlt
              have hok := (isT_iff _).1 hone
              have hbt := tE_bd (gth l k).s
              have HCAN := Lib.hid (fun W => l11Can_c (gth l k) d u W hone)
              have HS5 := Lib.hid (tiks_set5 l k hlt)
              have HLS : Hid (∀ y : Tik, (l.set k y).length = l.length) := Lib.hid (fun y => by simp)
              clear hst hix hown hone
              generalize canT (gth l k) d u = CB at *
              generalize gth l k = D at *
              go_wp2_with fail
              have HB1 := Lib.hid (hbel.out.alloc hbs (.cells #[.int .i64 D.i, .int .i64 D.s, .int .i64 D.w, .int .i64 D.g, .int .i64 D.p] 31))
              have hO1 := HO.out.alloc (.cells #[.int .i64 D.i, .int .i64 D.s, .int .i64 D.w, .int .i64 D.g, .int .i64 D.p] 31)
              obtain ⟨P, hP⟩ : ∃ P, P = wr.heap.size := ⟨_, rfl⟩
              have hbP : (wr.alloc (.cells #[.int .i64 D.i, .int .i64 D.s, .int .i64 D.w, .int .i64 D.g, .int .i64 D.p] 31)).heap[P]? = some (.cells #[.int .i64 D.i, .int .i64 D.s, .int .i64 D.w, .int .i64 D.g, .int .i64 D.p] 31 (0, 0)) := by rw [hP]; exact heap_alloc_new _ _
              have hPg : P ≠ g := by omega
              have hwP : w.heap.size ≤ P := by omega
              have hPl : P < (wr.alloc (.cells #[.int .i64 D.i, .int .i64 D.s, .int .i64 D.w, .int .i64 D.g, .int .i64 D.p] 31)).heap.size := by rw [hP]; simp
              rw [← hP]
              generalize wr.alloc (.cells #[.int .i64 D.i, .int .i64 D.s, .int .i64 D.w, .int .i64 D.g, .int .i64 D.p] 31) = W1 at *
              clear hP c0 c1 c2 c3 c4
              refine (HCAN.out W1).mono ?_
              rintro e w4 ⟨rfl, b4⟩
              have hb4 := (b4.block P hPl).trans hbP
              have HO4 := Lib.hid (own_below hO1 b4)
              have HB4 := Lib.hid (HB1.out.trans (b4.mono HB1.out.size))
              clear b4 hbP hO1
              cases CB with
              | false =>
                have HN := Lib.hid (HNX.out (fun _ => rfl))
                clear hb4
                go_wp2
                go_roundw
                case rel => exact ⟨k + 1, by omega, by go_num, HO4.out, HB4, HN⟩
                case measure => simp [intOf]; omega
              | true =>
                have HP4 := Lib.hid hb4
                have p0 := cell_of_row _ P 0 _ _ _ hb4
                have p1 := cell_of_row _ P 1 _ _ _ hb4
                have p2 := cell_of_row _ P 2 _ _ _ hb4
                have p3 := cell_of_row _ P 3 _ _ _ hb4
                have p4 := cell_of_row _ P 4 _ _ _ hb4
                have m3 := frozen_of_row _ P 3 _ _ hb4
                have m4 := frozen_of_row _ P 4 _ _ hb4
                have e1 : IntKind.i64.wrap (D.p + 1) = D.p + 1 := IntWalk.i64_in _ (by omega)
                have e2 : IntKind.i64.wrap (D.g + 1) = D.g + 1 := IntWalk.i64_in _ (by omega)
                have HMA := Lib.hid (HMA.out (by simp))
                clear hb4
                cases u with
                | true =>
                  have HMC : Hid (usT D true = ⟨D.i, D.s, D.w, D.g + 1, D.p⟩) := Lib.hid (by unfold usT; simp)
                  have HK : Hid (((w4).setCell ⟨P, 3, none⟩ (.int .i64 (D.g + 1))).ownsRow w.heap.size 31 5 (.slice (some ⟨g, 0, none⟩) l.length cg) l.length (tiks l)) := Lib.hid (HO4.out.kept (grown_setT _ ⟨P, 3, none⟩ _) (.inr (by simp [Value.ownBlock]; omega)))
                  have HBW : Hid (Below w.heap.size w ((w4).setCell ⟨P, 3, none⟩ (.int .i64 (D.g + 1)))) := Lib.hid (below_set HB4.out hwP _ _)
                  obtain ⟨x0, x1, x2, x3, x4⟩ : ((w4).setCell ⟨P, 3, none⟩ (.int .i64 (D.g + 1))).cell? ⟨P, 0, none⟩ = some (.int .i64 (D.i)) ∧ ((w4).setCell ⟨P, 3, none⟩ (.int .i64 (D.g + 1))).cell? ⟨P, 1, none⟩ = some (.int .i64 (D.s)) ∧ ((w4).setCell ⟨P, 3, none⟩ (.int .i64 (D.g + 1))).cell? ⟨P, 2, none⟩ = some (.int .i64 (D.w)) ∧ ((w4).setCell ⟨P, 3, none⟩ (.int .i64 (D.g + 1))).cell? ⟨P, 3, none⟩ = some (.int .i64 (D.g + 1)) ∧ ((w4).setCell ⟨P, 3, none⟩ (.int .i64 (D.g + 1))).cell? ⟨P, 4, none⟩ = some (.int .i64 (D.p)) := by
                    have hb2 := blk_setT (i := 3) (v := .int .i64 (D.g + 1)) HP4.out
                    exact ⟨cell_of_row _ P 0 _ _ _ hb2, cell_of_row _ P 1 _ _ _ hb2, cell_of_row _ P 2 _ _ _ hb2, cell_of_row _ P 3 _ _ _ hb2, cell_of_row _ P 4 _ _ _ hb2⟩
                  have hcl : (tiks l).length = l.length * 5 := tiks_len l
                  have y0 := (HK.out.cellAt (k * 5) (by omega)).trans (List.getElem?_eq_getElem (by omega))
                  have n0 := HK.out.frozenAt (k * 5)
                  have y1 := (HK.out.cellAt (k * 5 + 1) (by omega)).trans (List.getElem?_eq_getElem (by omega))
                  have n1 := HK.out.frozenAt (k * 5 + 1)
                  have y2 := (HK.out.cellAt (k * 5 + 2) (by omega)).trans (List.getElem?_eq_getElem (by omega))
                  have n2 := HK.out.frozenAt (k * 5 + 2)
                  have y3 := (HK.out.cellAt (k * 5 + 3) (by omega)).trans (List.getElem?_eq_getElem (by omega))
                  have n3 := HK.out.frozenAt (k * 5 + 3)
                  have y4 := (HK.out.cellAt (k * 5 + 4) (by omega)).trans (List.getElem?_eq_getElem (by omega))
                  have n4 := HK.out.frozenAt (k * 5 + 4)
                  have HST := Lib.hid (((((HK.out.stored (k * 5) (.int .i64 (D.i))).1.stored (k * 5 + 1) (.int .i64 (D.s))).1.stored (k * 5 + 2) (.int .i64 (D.w))).1.stored (k * 5 + 3) (.int .i64 (D.g + 1))).1.stored (k * 5 + 4) (.int .i64 (D.p))).1
                  have HSE : Hid (((((((tiks l)).set (k * 5) (.int .i64 (D.i))).set (k * 5 + 1) (.int .i64 (D.s))).set (k * 5 + 2) (.int .i64 (D.w))).set (k * 5 + 3) (.int .i64 (D.g + 1))).set (k * 5 + 4) (.int .i64 (D.p)) = tiks (l.set k (usT D true))) := Lib.hid (by rw [HMC.out]; exact HS5.out ⟨D.i, D.s, D.w, D.g + 1, D.p⟩)
                  rw [HSE.out] at HST
                  have HBS := Lib.hid (below_set (below_set (below_set (below_set (below_set (HBW.out) hBg (k * 5) (.int .i64 (D.i))) hBg (k * 5 + 1) (.int .i64 (D.s))) hBg (k * 5 + 2) (.int .i64 (D.w))) hBg (k * 5 + 3) (.int .i64 (D.g + 1))) hBg (k * 5 + 4) (.int .i64 (D.p)))
                  have HY := Lib.hid HMA.out
                  go_wp2
                  go_ret2
                  refine ⟨_, ret_v HY.out.symm, ?_, HBS.out⟩
                  rw [HMY.out HY.out, HLS.out]
                  simpa using HST.out
                | false =>
                  have HMC : Hid (usT D false = ⟨D.i, D.s, D.w, D.g, D.p + 1⟩) := Lib.hid (by unfold usT; simp)
                  have HK : Hid (((w4).setCell ⟨P, 4, none⟩ (.int .i64 (D.p + 1))).ownsRow w.heap.size 31 5 (.slice (some ⟨g, 0, none⟩) l.length cg) l.length (tiks l)) := Lib.hid (HO4.out.kept (grown_setT _ ⟨P, 4, none⟩ _) (.inr (by simp [Value.ownBlock]; omega)))
                  have HBW : Hid (Below w.heap.size w ((w4).setCell ⟨P, 4, none⟩ (.int .i64 (D.p + 1)))) := Lib.hid (below_set HB4.out hwP _ _)
                  obtain ⟨x0, x1, x2, x3, x4⟩ : ((w4).setCell ⟨P, 4, none⟩ (.int .i64 (D.p + 1))).cell? ⟨P, 0, none⟩ = some (.int .i64 (D.i)) ∧ ((w4).setCell ⟨P, 4, none⟩ (.int .i64 (D.p + 1))).cell? ⟨P, 1, none⟩ = some (.int .i64 (D.s)) ∧ ((w4).setCell ⟨P, 4, none⟩ (.int .i64 (D.p + 1))).cell? ⟨P, 2, none⟩ = some (.int .i64 (D.w)) ∧ ((w4).setCell ⟨P, 4, none⟩ (.int .i64 (D.p + 1))).cell? ⟨P, 3, none⟩ = some (.int .i64 (D.g)) ∧ ((w4).setCell ⟨P, 4, none⟩ (.int .i64 (D.p + 1))).cell? ⟨P, 4, none⟩ = some (.int .i64 (D.p + 1)) := by
                    have hb2 := blk_setT (i := 4) (v := .int .i64 (D.p + 1)) HP4.out
                    exact ⟨cell_of_row _ P 0 _ _ _ hb2, cell_of_row _ P 1 _ _ _ hb2, cell_of_row _ P 2 _ _ _ hb2, cell_of_row _ P 3 _ _ _ hb2, cell_of_row _ P 4 _ _ _ hb2⟩
                  have hcl : (tiks l).length = l.length * 5 := tiks_len l
                  have y0 := (HK.out.cellAt (k * 5) (by omega)).trans (List.getElem?_eq_getElem (by omega))
                  have n0 := HK.out.frozenAt (k * 5)
                  have y1 := (HK.out.cellAt (k * 5 + 1) (by omega)).trans (List.getElem?_eq_getElem (by omega))
                  have n1 := HK.out.frozenAt (k * 5 + 1)
                  have y2 := (HK.out.cellAt (k * 5 + 2) (by omega)).trans (List.getElem?_eq_getElem (by omega))
                  have n2 := HK.out.frozenAt (k * 5 + 2)
                  have y3 := (HK.out.cellAt (k * 5 + 3) (by omega)).trans (List.getElem?_eq_getElem (by omega))
                  have n3 := HK.out.frozenAt (k * 5 + 3)
                  have y4 := (HK.out.cellAt (k * 5 + 4) (by omega)).trans (List.getElem?_eq_getElem (by omega))
                  have n4 := HK.out.frozenAt (k * 5 + 4)
                  have HST := Lib.hid (((((HK.out.stored (k * 5) (.int .i64 (D.i))).1.stored (k * 5 + 1) (.int .i64 (D.s))).1.stored (k * 5 + 2) (.int .i64 (D.w))).1.stored (k * 5 + 3) (.int .i64 (D.g))).1.stored (k * 5 + 4) (.int .i64 (D.p + 1))).1
                  have HSE : Hid (((((((tiks l)).set (k * 5) (.int .i64 (D.i))).set (k * 5 + 1) (.int .i64 (D.s))).set (k * 5 + 2) (.int .i64 (D.w))).set (k * 5 + 3) (.int .i64 (D.g))).set (k * 5 + 4) (.int .i64 (D.p + 1)) = tiks (l.set k (usT D false))) := Lib.hid (by rw [HMC.out]; exact HS5.out ⟨D.i, D.s, D.w, D.g, D.p + 1⟩)
                  rw [HSE.out] at HST
                  have HBS := Lib.hid (below_set (below_set (below_set (below_set (below_set (HBW.out) hBg (k * 5) (.int .i64 (D.i))) hBg (k * 5 + 1) (.int .i64 (D.s))) hBg (k * 5 + 2) (.int .i64 (D.w))) hBg (k * 5 + 3) (.int .i64 (D.g))) hBg (k * 5 + 4) (.int .i64 (D.p + 1)))
                  have HY := Lib.hid HMA.out
                  go_wp2
                  go_ret2
                  refine ⟨_, ret_v HY.out.symm, ?_, HBS.out⟩
                  rw [HMY.out HY.out, HLS.out]
                  simpa using HST.out
            · have HN := Lib.hid (HNX.out (fun h => absurd h hst))
              have t1 : ((gth l k).i != n) = true := by simpa using hst
              clear hst hown
              have hO1 := HO.out.alloc (.cells #[.int .i64 (gth l k).i, .int .i64 (gth l k).s, .int .i64 (gth l k).w, .int .i64 (gth l k).g, .int .i64 (gth l k).p] 31)
              have HB1 := Lib.hid (hbel.out.alloc hbs (.cells #[.int .i64 (gth l k).i, .int .i64 (gth l k).s, .int .i64 (gth l k).w, .int .i64 (gth l k).g, .int .i64 (gth l k).p] 31))
              generalize gth l k = D at *
              go_wp2
              go_roundw
              case rel => exact ⟨k + 1, by omega, by go_num, hO1, HB1, HN⟩
              case measure => simp [intOf]; omega
          · obtain rfl : k = l.length := by omega
            have HN := Lib.hid (us_done hno.out)
            have HT1 := hbel
            go_wp2
            go_ret2
            exact ⟨_, ret_v HN.out.symm, by rw [us_no HN.out]; exact World.ownsRow_made _ #[] 0 HT1.out.size (by decide) rfl, HT1.out.alloc HT1.out.size _⟩
end Go.Proofs.YtpknodbkjjcdjaaDoor
