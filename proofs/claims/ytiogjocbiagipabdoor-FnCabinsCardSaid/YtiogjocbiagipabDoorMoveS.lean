/- spec.MoveCabin. Condition: sizes. -/
import Derived.Test.YtiogjocbiagipabDoorMoveI
namespace Go.Proofs.YtiogjocbiagipabDoor
open Go.RowKit
set_option linter.unusedVariables false
set_option maxHeartbeats 1000000 in
theorem l5May_c (f t : Int) (w : World) : Calls Tryd.prog 46 #[.int .i64 f, .int .i64 t] w fun e w' => e = .returned (.bool (may f t)) ∧ w = w' := by
  by_cases hf0 : f = 0
  · by_cases ht0 : t = 0
    · have HR : Hid (false = may f t) := Lib.hid (by subst hf0; subst ht0; rfl)
      have z0 : (f == 0) = true := by simpa using hf0
      have z1 : (t != 0) = false := by simpa using ht0
      clear hf0 ht0
      go_enter Tryd.func46, Tryd.ntmps46
      go_wp2
      go_ret
      exact ⟨ret_b HR.out, rfl⟩
    · have HR : Hid (true = may f t) := Lib.hid (by subst hf0; simp [may, ht0])
      have z0 : (f == 0) = true := by simpa using hf0
      have z1 : (t != 0) = true := by simpa using ht0
      clear hf0 ht0
      go_enter Tryd.func46, Tryd.ntmps46
      go_wp2
      go_ret
      exact ⟨ret_b HR.out, rfl⟩
  · have z0 : (f == 0) = false := by simpa using hf0
    by_cases hf1 : f = 1
    · have z1 : (f == 1) = true := by simpa using hf1
      by_cases ht0 : t = 0
      · have HR : Hid (true = may f t) := Lib.hid (by subst hf1; subst ht0; rfl)
        have y0 : (t == 0) = true := by simpa using ht0
        clear hf0 hf1 ht0
        go_enter Tryd.func46, Tryd.ntmps46
        go_wp2
        go_ret
        exact ⟨ret_b HR.out, rfl⟩
      · by_cases ht3 : t = 3
        · have HR : Hid (true = may f t) := Lib.hid (by subst hf1; subst ht3; rfl)
          have y0 : (t == 0) = false := by simpa using ht0
          have y3 : (t == 3) = true := by simpa using ht3
          clear hf0 hf1 ht0 ht3
          go_enter Tryd.func46, Tryd.ntmps46
          go_wp2
          go_ret
          exact ⟨ret_b HR.out, rfl⟩
        · have HR : Hid (false = may f t) := Lib.hid (by subst hf1; simp [may, ht0, ht3])
          have y0 : (t == 0) = false := by simpa using ht0
          have y3 : (t == 3) = false := by simpa using ht3
          clear hf0 hf1 ht0 ht3
          go_enter Tryd.func46, Tryd.ntmps46
          go_wp2
          go_ret
          exact ⟨ret_b HR.out, rfl⟩
    · have z1 : (f == 1) = false := by simpa using hf1
      by_cases hf2 : f = 2
      · have z2 : (f == 2) = true := by simpa using hf2
        by_cases ht0 : t = 0
        · have HR : Hid (true = may f t) := Lib.hid (by subst hf2; subst ht0; rfl)
          have y0 : (t == 0) = true := by simpa using ht0
          clear hf0 hf1 hf2 ht0
          go_enter Tryd.func46, Tryd.ntmps46
          go_wp2
          go_ret
          exact ⟨ret_b HR.out, rfl⟩
        · by_cases ht3 : t = 3
          · have HR : Hid (true = may f t) := Lib.hid (by subst hf2; subst ht3; rfl)
            have y0 : (t == 0) = false := by simpa using ht0
            have y3 : (t == 3) = true := by simpa using ht3
            clear hf0 hf1 hf2 ht0 ht3
            go_enter Tryd.func46, Tryd.ntmps46
            go_wp2
            go_ret
            exact ⟨ret_b HR.out, rfl⟩
          · have HR : Hid (false = may f t) := Lib.hid (by subst hf2; simp [may, ht0, ht3])
            have y0 : (t == 0) = false := by simpa using ht0
            have y3 : (t == 3) = false := by simpa using ht3
            clear hf0 hf1 hf2 ht0 ht3
            go_enter Tryd.func46, Tryd.ntmps46
            go_wp2
            go_ret
            exact ⟨ret_b HR.out, rfl⟩
      · have z2 : (f == 2) = false := by simpa using hf2
        have HR : Hid ((t == 2) = may f t) := Lib.hid (by simp [may, hf0, hf1, hf2]; rfl)
        clear hf0 hf1 hf2
        go_enter Tryd.func46, Tryd.ntmps46
        go_wp2
        go_ret
        exact ⟨ret_b HR.out, rfl⟩
theorem cabs_set5 (l : List Cab) (i : Nat) (hi : i < l.length) (y : Cab) : ((((((cabs l).set (i * 5) (.int .i64 y.i)).set (i * 5 + 1) (.int .i64 y.s)).set (i * 5 + 2) (.int .i64 y.w)).set (i * 5 + 3) (.int .i64 y.g)).set (i * 5 + 4) (.int .i64 y.p)) = cabs (l.set i y) := by
  have hal : (cabs (l.take i)).length = i * 5 := cabs_take_len l i (by omega)
  have h0 := cabs_split l i hi (gth l i)
  have e : l.set i (gth l i) = l := by rw [gth_get hi]; exact List.set_getElem_self hi
  rw [e] at h0
  rw [cabs_split l i hi, h0, List.set_append_right _ _ (by omega), hal, List.set_append_right _ _ (by omega), hal, List.set_append_right _ _ (by omega), hal, List.set_append_right _ _ (by omega), hal, List.set_append_right _ _ (by omega), hal]
  simp only [Nat.sub_self, Nat.add_sub_cancel_left]
  rfl
/-- What is known of the loop's list at the head of round k. -/
def MvAt (l m : List Cab) (n t : Int) (k : Nat) : Prop :=
  m.length = l.length ∧ (∀ j, k ≤ j → j < l.length → gth m j = gth l j) ∧ (((∀ j, j < k → (gth l j).i ≠ n) ∧ m = l) ∨ (idxN l n < k ∧ mvOk l n t = false))
theorem MvAt.skip {l m : List Cab} {n t : Int} {k : Nat} (h : MvAt l m n t k) (hk : k < l.length) (hne : (gth l k).i ≠ n) : MvAt l m n t (k + 1) := by
  refine ⟨h.1, fun j hj => h.2.1 j (by omega), ?_⟩
  rcases h.2.2 with ⟨h1, h2⟩ | ⟨h1, h2⟩
  · exact .inl ⟨fun j hj => by by_cases e : j = k; subst e; exact hne; exact h1 j (by omega), h2⟩
  · exact .inr ⟨by omega, h2⟩
theorem MvAt.here {l m : List Cab} {n t : Int} {k : Nat} (h : MvAt l m n t k) (hl : Cabs l) (hk : k < l.length) (he : (gth l k).i = n) : idxN l n = k ∧ m = l := by
  rcases h.2.2 with ⟨h1, h2⟩ | ⟨h1, h2⟩
  · exact ⟨idxN_is hk h1 he, h2⟩
  · have h3 := idxN_at (l := l) (n := n) (by omega)
    have h4 := hl.lt k _ h1 hk
    omega
theorem MvAt.gone {l m : List Cab} {n t : Int} {k : Nat} (hm : m.length = l.length) (hi : idxN l n = k) (ho : mvOk l n t = false) (hj : ∀ j, k + 1 ≤ j → j < l.length → gth m j = gth l j) : MvAt l m n t (k + 1) :=
  ⟨hm, hj, .inr ⟨by omega, ho⟩⟩
theorem MvAt.done {l m : List Cab} {n t : Int} (h : MvAt l m n t l.length) : mvOk l n t = false := by
  rcases h.2.2 with ⟨h1, _⟩ | ⟨_, h2⟩
  · exact mv_none (idxN_none h1)
  · exact h2
set_option maxRecDepth 100000 in
set_option maxHeartbeats 4000000 in
theorem specMoveCabin_c (v : Value) (l : List Cab) (n t : Int) (w : World) (hr : Rs w v l.length (cabs l)) (hn : l.length ≤ 1048576) (hwn : (Lit.int .i64 n).wf = true) (hwt : (Lit.int .i64 t).wf = true) :
    Calls Tryd.prog 7 #[v, .int .i64 n, .int .i64 t] w fun e w' => ∃ g, e = .returned (.tuple #[g, .bool (mvOk l n t)]) ∧ w'.ownsRow w.heap.size 34 5 g (mvR l n t).length (cabs (mvR l n t)) ∧ Below w.heap.size w w' := by
  obtain ⟨i0, hi, hz0, hz1, hz2⟩ := info_parts Tryd.infoCab
  have E0 := Lib.hid (fun W h => l5Good_c v l W h hn)
  have E1 := Lib.hid (fun W => l5State_c t W)
  have hd : mvIn l t = (cabL l && inR t 0 3) := rfl
  have HR := Lib.hid hr
  clear hr hwn hwt
  cases hk : cabL l with
  | false =>
    rw [hk] at E0 hd
    have HN := Lib.hid (mv_in (n := n) (by rw [hd]; rfl : mvIn l t = false))
    clear hk hd E1
    go_enter Tryd.func7, Tryd.ntmps7
    go_wp2_with fail
    refine (E0.out _ HR.out).mono ?_
    rintro e w1 ⟨rfl, b1⟩
    have HT1 := Lib.hid b1
    clear b1
    go_wp2
    go_ret2
    exact ⟨_, ret_v HN.out.symm, by rw [mv_no HN.out]; exact World.ownsRow_made _ #[] 0 HT1.out.size (by decide) rfl, HT1.out.alloc HT1.out.size _⟩
  | true =>
    cases hm : inR t 0 3 with
    | false =>
      rw [hk] at E0
      rw [hm] at E1
      rw [hk, hm] at hd
      have HN := Lib.hid (mv_in (n := n) (by rw [hd]; rfl : mvIn l t = false))
      clear hk hm hd
      go_enter Tryd.func7, Tryd.ntmps7
      go_wp2_with fail
      refine (E0.out _ HR.out).mono ?_
      rintro e w1 ⟨rfl, b1⟩
      go_wp2_with fail
      refine (E1.out _).mono ?_
      rintro e w2 ⟨rfl, rfl⟩
      have HT1 := Lib.hid b1
      clear b1
      go_wp2
      go_ret2
      exact ⟨_, ret_v HN.out.symm, by rw [mv_no HN.out]; exact World.ownsRow_made _ #[] 0 HT1.out.size (by decide) rfl, HT1.out.alloc HT1.out.size _⟩
    | true =>
      have HC := Lib.hid (cabL_yes hk)
      have h12 := HC.out.len
      have ht := (inR_iff t 0 3).1 hm
      rw [hk] at E0
      rw [hm] at E1
      rw [hk, hm] at hd
      have HIN : Hid (mvIn l t = true) := Lib.hid (by rw [hd]; rfl)
      obtain ⟨ao, a, oa, ca, rfl, hao, hat⟩ := HR.out.form_Cab
      have HRC : Hid (∀ W, Below w.heap.size w W → 0 < l.length → ∃ ad, ao = some ad ∧ ∀ j u, (cabs l)[j]? = some u → W.cell? (ad.add j) = some u) := Lib.hid (fun W hW h0 => by
        obtain ⟨b, off, cap, hv, hb, _, _, hx⟩ := HR.out.pos (by omega)
        cases hv
        exact ⟨_, rfl, fun j u hu => by rw [gs_addr]; exact (hW.cell (p := ⟨b, off + j, none⟩) hb).trans (hx j u hu)⟩)
      have H1 := Lib.hid (cabs_one_cell l)
      have hld := cabs_len l
      clear hk hm hd hao hat
      go_enter Tryd.func7, Tryd.ntmps7
      go_wp2_with fail
      refine (E0.out _ HR.out).mono ?_
      rintro e w1 ⟨rfl, b1⟩
      go_wp2_with fail
      refine (E1.out _).mono ?_
      rintro e w2 ⟨rfl, rfl⟩
      have HT1 := Lib.hid b1
      clear b1
      have hsz1 := HT1.out.size
      go_wp2_with (at_builtin; refine wpList_append_any _ rfl _ _ 24 rfl w.heap.size 34 i0 (.agg #[.int .i64 0, .int .i64 0, .int .i64 0, .int .i64 0, .int .i64 0]) 5 40 Tryd.underlying24 hi hz0 hz1 hz2 rfl (by omega) (.slice (some ⟨w2.heap.size, 0, none⟩) 0 0) 0 [] rfl (World.ownsRow_made w2 #[] 0 hsz1 (by decide) rfl) ao l.length ca (cabs l) rfl hld (fun h => HRC.out _ (HT1.out.alloc hsz1 _) h) H1.out (by unfold maxLen; omega) (by omega) (by simp; omega) ?_; intro v3 w3 hown3 hgrow3 hat3)
      have hown3 : w3.ownsRow w.heap.size 34 5 v3 l.length (cabs l) := by rw [show ([] : List Value) ++ cabs l = cabs l from rfl, Nat.zero_add] at hown3; exact hown3
      have HT3 : Hid (Below w.heap.size w w3) := Lib.hid ((HT1.out.alloc hsz1 _).grown hgrow3 (by simp; omega) (fun k hk => by simp [Value.ownBlock] at hk; omega))
      have hnn3 : v3 ≠ .slice none 0 0 := fun e => by subst e; rcases hat3 with h | h <;> simp [Value.ownBlock] at h
      clear hgrow3 hat3
      rcases own_form hown3 with ⟨_, rfl⟩ | ⟨g, cg, rfl, hBg, hgw, hnc, hcm⟩
      · exact absurd rfl hnn3
      · have HO3 := Lib.hid hown3
        clear hown3 hnn3
        go_loopw [9] (fun i wr => ∃ (k : Nat) (m : List Cab), k ≤ l.length ∧ i = .int .i64 k ∧ wr.ownsRow w.heap.size 34 5 (.slice (some ⟨g, 0, none⟩) l.length cg) l.length (cabs m) ∧ Hid (Below w.heap.size w wr) ∧ Hid (MvAt l m n t k)) (fun i _ => l.length - (intOf i).toNat)
        case atStart => exact ⟨0, l, by omega, rfl, HO3.out, HT3, Lib.hid ⟨rfl, fun _ _ _ => rfl, .inl ⟨fun j h => by omega, rfl⟩⟩⟩
        case round =>
          obtain ⟨k, m, hk, rfl, hown, hbel, hmv⟩ := hrel
          have hbs := hbel.out.size
          have hml := hmv.out.1
          by_cases hlt : k < l.length
          · have hgk := hmv.out.2.1 k (Nat.le_refl _) hlt
            obtain ⟨c0, c1, c2, c3, c4⟩ := own_Cab (by rw [hml]; exact hown : wr.ownsRow w.heap.size 34 5 (.slice (some ⟨g, 0, none⟩) m.length cg) m.length (cabs m)) k (by omega)
            simp only [Nat.zero_add] at c0 c1 c2 c3 c4
            rw [hgk] at c0 c1 c2 c3 c4
            have hgr := (hown.lt g rfl).2
            have HO := Lib.hid hown
            have i1 : (k : Int) < (l.length : Int) := by omega
            by_cases hst : (gth l k).i = n
            · obtain ⟨hix, rfl⟩ := hmv.out.here HC.out hlt hst
              have t1 : ((gth m k).i != n) = false := by simpa using hst
              have HMV := Lib.hid (fun h => mv_may (l := m) (n := n) (t := t) h)
              have HMT := Lib.hid (fun h => mv_trip (l := m) (n := n) (t := t) h)
              have HMA := Lib.hid (fun h3 h4 => mv_all (l := m) (n := n) (t := t) HIN.out (by rw [hix]; exact hlt) h3 h4)
              have HMY := Lib.hid (fun h => mv_yes (l := m) (n := n) (t := t) h)
              rw [hix] at HMV HMT HMA HMY
              have HCV := Lib.hid (cabL_mv HC.out hlt (t := t) ht)
              have hok := (isC_iff _).1 (HC.out.ok k hlt).1
              have hpb := hok.2.2.2.2
              have HS5 := Lib.hid (cabs_set5 m k hlt)
              have HGO := Lib.hid (fun y (ho : mvOk m n t = false) => MvAt.gone (l := m) (m := m.set k y) (n := n) (t := t) (by simp) hix ho (fun j h1 h2 => gth_set_other (by omega)))
              have HG0 := Lib.hid (fun (ho : mvOk m n t = false) => MvAt.gone (l := m) (m := m) (n := n) (t := t) rfl hix ho (fun j h1 h2 => rfl))
              have HLS : Hid (∀ y : Cab, (m.set k y).length = m.length) := Lib.hid (fun y => by simp)
              clear hst hok hgk hmv hix hown
              generalize gth m k = D at *
              go_wp2_with fail
              have HB1 := Lib.hid (hbel.out.alloc hbs (.cells #[.int .i64 D.i, .int .i64 D.s, .int .i64 D.w, .int .i64 D.g, .int .i64 D.p] 34))
              have hO1 := HO.out.alloc (.cells #[.int .i64 D.i, .int .i64 D.s, .int .i64 D.w, .int .i64 D.g, .int .i64 D.p] 34)
              obtain ⟨P, hP⟩ : ∃ P, P = wr.heap.size := ⟨_, rfl⟩
              have hbP : (wr.alloc (.cells #[.int .i64 D.i, .int .i64 D.s, .int .i64 D.w, .int .i64 D.g, .int .i64 D.p] 34)).heap[P]? = some (.cells #[.int .i64 D.i, .int .i64 D.s, .int .i64 D.w, .int .i64 D.g, .int .i64 D.p] 34 (0, 0)) := by rw [hP]; exact heap_alloc_new _ _
              have hPg : P ≠ g := by omega
              have hwP : w.heap.size ≤ P := by omega
              rw [← hP]
              generalize wr.alloc (.cells #[.int .i64 D.i, .int .i64 D.s, .int .i64 D.w, .int .i64 D.g, .int .i64 D.p] 34) = W1 at *
              clear hP c0 c1 c2 c3 c4
              refine (l5May_c D.g t W1).mono ?_
              rintro e w4 ⟨rfl, rfl⟩
              cases hmay : may D.g t with
              | false =>
                have HN := Lib.hid (HMV.out hmay)
                clear hmay hbP
                go_wp2
                go_roundw
                case rel => exact ⟨k + 1, m, by omega, by go_num, hO1, HB1, Lib.hid (HG0.out HN.out)⟩
                case measure => simp [intOf]; omega
              | true =>
                have HMM := Lib.hid hmay
                have HP := Lib.hid hbP
                have HO1 := Lib.hid hO1
                have p0 := cell_of_row _ P 0 _ _ _ hbP
                have p1 := cell_of_row _ P 1 _ _ _ hbP
                have p2 := cell_of_row _ P 2 _ _ _ hbP
                have p3 := cell_of_row _ P 3 _ _ _ hbP
                have p4 := cell_of_row _ P 4 _ _ _ hbP
                have m3 := frozen_of_row _ P 3 _ _ hbP
                have m4 := frozen_of_row _ P 4 _ _ hbP
                have e1 : IntKind.i64.wrap (D.p + 1) = D.p + 1 := IntWalk.i64_in _ (by omega)
                clear hmay hbP hO1
                by_cases hf1 : D.g = 1
                · have a1 : (D.g == 1) = true := by simpa using hf1
                  by_cases hs0 : t = 0
                  · have a3 : (t == 0) = true := by simpa using hs0
                    have HMC : Hid (mvC D t = ⟨D.i, D.s, D.w, t, D.p + 1⟩) := Lib.hid (by unfold mvC; rw [if_pos ⟨hf1, hs0⟩])
                    have HK : Hid ((((W1).setCell ⟨P, 4, none⟩ (.int .i64 (D.p + 1))).setCell ⟨P, 3, none⟩ (.int .i64 t)).ownsRow w.heap.size 34 5 (.slice (some ⟨g, 0, none⟩) m.length cg) m.length (cabs m)) := Lib.hid ((HO1.out.kept (grown_setC _ ⟨P, 4, none⟩ _) (.inr (by simp [Value.ownBlock]; omega))).kept (grown_setC _ ⟨P, 3, none⟩ _) (.inr (by simp [Value.ownBlock]; omega)))
                    have HBW : Hid (Below w.heap.size w (((W1).setCell ⟨P, 4, none⟩ (.int .i64 (D.p + 1))).setCell ⟨P, 3, none⟩ (.int .i64 t))) := Lib.hid (below_set (below_set HB1.out hwP _ _) hwP _ _)
                    obtain ⟨x0, x1, x2, x3, x4⟩ : (((W1).setCell ⟨P, 4, none⟩ (.int .i64 (D.p + 1))).setCell ⟨P, 3, none⟩ (.int .i64 t)).cell? ⟨P, 0, none⟩ = some (.int .i64 D.i) ∧ (((W1).setCell ⟨P, 4, none⟩ (.int .i64 (D.p + 1))).setCell ⟨P, 3, none⟩ (.int .i64 t)).cell? ⟨P, 1, none⟩ = some (.int .i64 D.s) ∧ (((W1).setCell ⟨P, 4, none⟩ (.int .i64 (D.p + 1))).setCell ⟨P, 3, none⟩ (.int .i64 t)).cell? ⟨P, 2, none⟩ = some (.int .i64 D.w) ∧ (((W1).setCell ⟨P, 4, none⟩ (.int .i64 (D.p + 1))).setCell ⟨P, 3, none⟩ (.int .i64 t)).cell? ⟨P, 3, none⟩ = some (.int .i64 t) ∧ (((W1).setCell ⟨P, 4, none⟩ (.int .i64 (D.p + 1))).setCell ⟨P, 3, none⟩ (.int .i64 t)).cell? ⟨P, 4, none⟩ = some (.int .i64 (D.p + 1)) := by
                      have hb := HP.out
                      have hb2 := blk_set5 (i := 3) (v := .int .i64 t) (blk_set5 (i := 4) (v := .int .i64 (D.p + 1)) hb)
                      exact ⟨cell_of_row _ P 0 _ _ _ hb2, cell_of_row _ P 1 _ _ _ hb2, cell_of_row _ P 2 _ _ _ hb2, cell_of_row _ P 3 _ _ _ hb2, cell_of_row _ P 4 _ _ _ hb2⟩
                    have hcl : (cabs m).length = m.length * 5 := cabs_len m
                    have y0 := (HK.out.cellAt (k * 5) (by omega)).trans (List.getElem?_eq_getElem (by omega))
                    have n0 := HK.out.frozenAt (k * 5)
                    have y1 := (HK.out.cellAt (k * 5 + 1) (by omega)).trans (List.getElem?_eq_getElem (by omega))
                    have n1 := HK.out.frozenAt (k * 5 + 1)
                    have y2 := (HK.out.cellAt (k * 5 + 2) (by omega)).trans (List.getElem?_eq_getElem (by omega))
                    have n2 := HK.out.frozenAt (k * 5 + 2)
                    have y3 := (HK.out.cellAt (k * 5 + 3) (by omega)).trans (List.getElem?_eq_getElem (by omega))
                    have n3 := HK.out.frozenAt (k * 5 + 3)
                    have y4 := (HK.out.cellAt (k * 5 + 4) (by omega)).trans (List.getElem?_eq_getElem (by omega))
                    have n4 := HK.out.frozenAt (k * 5 + 4)
                    have HST := Lib.hid (((((HK.out.stored (k * 5) (.int .i64 (D.i))).1.stored (k * 5 + 1) (.int .i64 (D.s))).1.stored (k * 5 + 2) (.int .i64 (D.w))).1.stored (k * 5 + 3) (.int .i64 (t))).1.stored (k * 5 + 4) (.int .i64 (D.p + 1))).1
                    have HSE : Hid ((((((cabs m).set (k * 5) (.int .i64 D.i)).set (k * 5 + 1) (.int .i64 D.s)).set (k * 5 + 2) (.int .i64 D.w)).set (k * 5 + 3) (.int .i64 t)).set (k * 5 + 4) (.int .i64 (D.p + 1)) = cabs (m.set k (mvC D t))) := Lib.hid (by rw [HMC.out]; exact HS5.out ⟨D.i, D.s, D.w, t, D.p + 1⟩)
                    rw [HSE.out] at HST
                    have HBS := Lib.hid (below_set (below_set (below_set (below_set (below_set HBW.out hBg (k * 5) (.int .i64 D.i)) hBg (k * 5 + 1) (.int .i64 D.s)) hBg (k * 5 + 2) (.int .i64 D.w)) hBg (k * 5 + 3) (.int .i64 t)) hBg (k * 5 + 4) (.int .i64 (D.p + 1)))
                    clear hf1 hs0
                    go_wp2_with fail
                    have HOX : Hid (((((((((W1).setCell ⟨P, 4, none⟩ (.int .i64 (D.p + 1))).setCell ⟨P, 3, none⟩ (.int .i64 t)).setCell ⟨g, k * 5, none⟩ (.int .i64 (D.i))).setCell ⟨g, k * 5 + 1, none⟩ (.int .i64 (D.s))).setCell ⟨g, k * 5 + 2, none⟩ (.int .i64 (D.w))).setCell ⟨g, k * 5 + 3, none⟩ (.int .i64 (t))).setCell ⟨g, k * 5 + 4, none⟩ (.int .i64 (D.p + 1))).ownsRow w.heap.size 34 5 (.slice (some ⟨g, 0, none⟩) m.length cg) m.length (cabs (m.set k (mvC D t)))) := Lib.hid (by simpa using HST.out)
                    have HBX : Hid (Below w.heap.size w ((((((((W1).setCell ⟨P, 4, none⟩ (.int .i64 (D.p + 1))).setCell ⟨P, 3, none⟩ (.int .i64 t)).setCell ⟨g, k * 5, none⟩ (.int .i64 (D.i))).setCell ⟨g, k * 5 + 1, none⟩ (.int .i64 (D.s))).setCell ⟨g, k * 5 + 2, none⟩ (.int .i64 (D.w))).setCell ⟨g, k * 5 + 3, none⟩ (.int .i64 (t))).setCell ⟨g, k * 5 + 4, none⟩ (.int .i64 (D.p + 1)))) := HBS
                    generalize (((((((W1).setCell ⟨P, 4, none⟩ (.int .i64 (D.p + 1))).setCell ⟨P, 3, none⟩ (.int .i64 t)).setCell ⟨g, k * 5, none⟩ (.int .i64 (D.i))).setCell ⟨g, k * 5 + 1, none⟩ (.int .i64 (D.s))).setCell ⟨g, k * 5 + 2, none⟩ (.int .i64 (D.w))).setCell ⟨g, k * 5 + 3, none⟩ (.int .i64 (t))).setCell ⟨g, k * 5 + 4, none⟩ (.int .i64 (D.p + 1)) = W7 at *
                    refine (l5Good_c _ (m.set k (mvC D t)) _ (Rs.of_own (by have h := HOX.out; rw [← HLS.out (mvC D t)] at h ⊢; exact h)) (by rw [HLS.out]; omega)).mono ?_
                    rintro e w8 ⟨rfl, b8⟩
                    have HT8 := Lib.hid (HBX.out.trans (b8.mono HBX.out.size))
                    have HO8 := Lib.hid (owns_below HOX.out b8)
                    clear b8 x0 x1 x2 x3 x4 y0 y1 y2 y3 y4 n0 n1 n2 n3 n4 p0 p1 p2 p3 p4 m3 m4
                    cases hq : cabL (m.set k (mvC D t)) with
                    | false =>
                      have HN := Lib.hid (HMT.out (by have h := HCV.out; rw [hq] at h; simpa using h.symm))
                      clear hq
                      go_wp2
                      go_roundw
                      case rel => exact ⟨k + 1, m.set k (mvC D t), by omega, by go_num, HO8.out, HT8, Lib.hid (HGO.out _ HN.out)⟩
                      case measure => simp [intOf]; omega
                    | true =>
                      have HY := Lib.hid (HMA.out HMM.out (by have h := HCV.out; rw [hq] at h; simpa using h.symm))
                      clear hq
                      go_wp2
                      go_ret2
                      refine ⟨_, ret_v HY.out.symm, ?_, HT8.out⟩
                      rw [HMY.out HY.out, HLS.out]
                      exact HO8.out
                  · have a3 : (t == 0) = false := by simpa using hs0
                    have HMC : Hid (mvC D t = ⟨D.i, D.s, D.w, t, D.p⟩) := Lib.hid (by unfold mvC; rw [if_neg (fun h => hs0 h.2)])
                    have HK : Hid (((W1).setCell ⟨P, 3, none⟩ (.int .i64 t)).ownsRow w.heap.size 34 5 (.slice (some ⟨g, 0, none⟩) m.length cg) m.length (cabs m)) := Lib.hid (HO1.out.kept (grown_setC _ ⟨P, 3, none⟩ _) (.inr (by simp [Value.ownBlock]; omega)))
                    have HBW : Hid (Below w.heap.size w ((W1).setCell ⟨P, 3, none⟩ (.int .i64 t))) := Lib.hid (below_set HB1.out hwP _ _)
                    obtain ⟨x0, x1, x2, x3, x4⟩ : ((W1).setCell ⟨P, 3, none⟩ (.int .i64 t)).cell? ⟨P, 0, none⟩ = some (.int .i64 D.i) ∧ ((W1).setCell ⟨P, 3, none⟩ (.int .i64 t)).cell? ⟨P, 1, none⟩ = some (.int .i64 D.s) ∧ ((W1).setCell ⟨P, 3, none⟩ (.int .i64 t)).cell? ⟨P, 2, none⟩ = some (.int .i64 D.w) ∧ ((W1).setCell ⟨P, 3, none⟩ (.int .i64 t)).cell? ⟨P, 3, none⟩ = some (.int .i64 t) ∧ ((W1).setCell ⟨P, 3, none⟩ (.int .i64 t)).cell? ⟨P, 4, none⟩ = some (.int .i64 (D.p)) := by
                      have hb := HP.out
                      have hb2 := blk_set5 (i := 3) (v := .int .i64 t) hb
                      exact ⟨cell_of_row _ P 0 _ _ _ hb2, cell_of_row _ P 1 _ _ _ hb2, cell_of_row _ P 2 _ _ _ hb2, cell_of_row _ P 3 _ _ _ hb2, cell_of_row _ P 4 _ _ _ hb2⟩
                    have hcl : (cabs m).length = m.length * 5 := cabs_len m
                    have y0 := (HK.out.cellAt (k * 5) (by omega)).trans (List.getElem?_eq_getElem (by omega))
                    have n0 := HK.out.frozenAt (k * 5)
                    have y1 := (HK.out.cellAt (k * 5 + 1) (by omega)).trans (List.getElem?_eq_getElem (by omega))
                    have n1 := HK.out.frozenAt (k * 5 + 1)
                    have y2 := (HK.out.cellAt (k * 5 + 2) (by omega)).trans (List.getElem?_eq_getElem (by omega))
                    have n2 := HK.out.frozenAt (k * 5 + 2)
                    have y3 := (HK.out.cellAt (k * 5 + 3) (by omega)).trans (List.getElem?_eq_getElem (by omega))
                    have n3 := HK.out.frozenAt (k * 5 + 3)
                    have y4 := (HK.out.cellAt (k * 5 + 4) (by omega)).trans (List.getElem?_eq_getElem (by omega))
                    have n4 := HK.out.frozenAt (k * 5 + 4)
                    have HST := Lib.hid (((((HK.out.stored (k * 5) (.int .i64 (D.i))).1.stored (k * 5 + 1) (.int .i64 (D.s))).1.stored (k * 5 + 2) (.int .i64 (D.w))).1.stored (k * 5 + 3) (.int .i64 (t))).1.stored (k * 5 + 4) (.int .i64 (D.p))).1
                    have HSE : Hid ((((((cabs m).set (k * 5) (.int .i64 D.i)).set (k * 5 + 1) (.int .i64 D.s)).set (k * 5 + 2) (.int .i64 D.w)).set (k * 5 + 3) (.int .i64 t)).set (k * 5 + 4) (.int .i64 (D.p)) = cabs (m.set k (mvC D t))) := Lib.hid (by rw [HMC.out]; exact HS5.out ⟨D.i, D.s, D.w, t, D.p⟩)
                    rw [HSE.out] at HST
                    have HBS := Lib.hid (below_set (below_set (below_set (below_set (below_set HBW.out hBg (k * 5) (.int .i64 D.i)) hBg (k * 5 + 1) (.int .i64 D.s)) hBg (k * 5 + 2) (.int .i64 D.w)) hBg (k * 5 + 3) (.int .i64 t)) hBg (k * 5 + 4) (.int .i64 (D.p)))
                    clear hf1 hs0
                    go_wp2_with fail
                    have HOX : Hid ((((((((W1).setCell ⟨P, 3, none⟩ (.int .i64 t)).setCell ⟨g, k * 5, none⟩ (.int .i64 (D.i))).setCell ⟨g, k * 5 + 1, none⟩ (.int .i64 (D.s))).setCell ⟨g, k * 5 + 2, none⟩ (.int .i64 (D.w))).setCell ⟨g, k * 5 + 3, none⟩ (.int .i64 (t))).setCell ⟨g, k * 5 + 4, none⟩ (.int .i64 (D.p))).ownsRow w.heap.size 34 5 (.slice (some ⟨g, 0, none⟩) m.length cg) m.length (cabs (m.set k (mvC D t)))) := Lib.hid (by simpa using HST.out)
                    have HBX : Hid (Below w.heap.size w (((((((W1).setCell ⟨P, 3, none⟩ (.int .i64 t)).setCell ⟨g, k * 5, none⟩ (.int .i64 (D.i))).setCell ⟨g, k * 5 + 1, none⟩ (.int .i64 (D.s))).setCell ⟨g, k * 5 + 2, none⟩ (.int .i64 (D.w))).setCell ⟨g, k * 5 + 3, none⟩ (.int .i64 (t))).setCell ⟨g, k * 5 + 4, none⟩ (.int .i64 (D.p)))) := HBS
                    generalize ((((((W1).setCell ⟨P, 3, none⟩ (.int .i64 t)).setCell ⟨g, k * 5, none⟩ (.int .i64 (D.i))).setCell ⟨g, k * 5 + 1, none⟩ (.int .i64 (D.s))).setCell ⟨g, k * 5 + 2, none⟩ (.int .i64 (D.w))).setCell ⟨g, k * 5 + 3, none⟩ (.int .i64 (t))).setCell ⟨g, k * 5 + 4, none⟩ (.int .i64 (D.p)) = W7 at *
                    refine (l5Good_c _ (m.set k (mvC D t)) _ (Rs.of_own (by have h := HOX.out; rw [← HLS.out (mvC D t)] at h ⊢; exact h)) (by rw [HLS.out]; omega)).mono ?_
                    rintro e w8 ⟨rfl, b8⟩
                    have HT8 := Lib.hid (HBX.out.trans (b8.mono HBX.out.size))
                    have HO8 := Lib.hid (owns_below HOX.out b8)
                    clear b8 x0 x1 x2 x3 x4 y0 y1 y2 y3 y4 n0 n1 n2 n3 n4 p0 p1 p2 p3 p4 m3 m4
                    cases hq : cabL (m.set k (mvC D t)) with
                    | false =>
                      have HN := Lib.hid (HMT.out (by have h := HCV.out; rw [hq] at h; simpa using h.symm))
                      clear hq
                      go_wp2
                      go_roundw
                      case rel => exact ⟨k + 1, m.set k (mvC D t), by omega, by go_num, HO8.out, HT8, Lib.hid (HGO.out _ HN.out)⟩
                      case measure => simp [intOf]; omega
                    | true =>
                      have HY := Lib.hid (HMA.out HMM.out (by have h := HCV.out; rw [hq] at h; simpa using h.symm))
                      clear hq
                      go_wp2
                      go_ret2
                      refine ⟨_, ret_v HY.out.symm, ?_, HT8.out⟩
                      rw [HMY.out HY.out, HLS.out]
                      exact HO8.out
                · have a1 : (D.g == 1) = false := by simpa using hf1
                  have HMC : Hid (mvC D t = ⟨D.i, D.s, D.w, t, D.p⟩) := Lib.hid (by unfold mvC; rw [if_neg (fun h => hf1 h.1)])
                  have HK : Hid (((W1).setCell ⟨P, 3, none⟩ (.int .i64 t)).ownsRow w.heap.size 34 5 (.slice (some ⟨g, 0, none⟩) m.length cg) m.length (cabs m)) := Lib.hid (HO1.out.kept (grown_setC _ ⟨P, 3, none⟩ _) (.inr (by simp [Value.ownBlock]; omega)))
                  have HBW : Hid (Below w.heap.size w ((W1).setCell ⟨P, 3, none⟩ (.int .i64 t))) := Lib.hid (below_set HB1.out hwP _ _)
                  obtain ⟨x0, x1, x2, x3, x4⟩ : ((W1).setCell ⟨P, 3, none⟩ (.int .i64 t)).cell? ⟨P, 0, none⟩ = some (.int .i64 D.i) ∧ ((W1).setCell ⟨P, 3, none⟩ (.int .i64 t)).cell? ⟨P, 1, none⟩ = some (.int .i64 D.s) ∧ ((W1).setCell ⟨P, 3, none⟩ (.int .i64 t)).cell? ⟨P, 2, none⟩ = some (.int .i64 D.w) ∧ ((W1).setCell ⟨P, 3, none⟩ (.int .i64 t)).cell? ⟨P, 3, none⟩ = some (.int .i64 t) ∧ ((W1).setCell ⟨P, 3, none⟩ (.int .i64 t)).cell? ⟨P, 4, none⟩ = some (.int .i64 (D.p)) := by
                    have hb := HP.out
                    have hb2 := blk_set5 (i := 3) (v := .int .i64 t) hb
                    exact ⟨cell_of_row _ P 0 _ _ _ hb2, cell_of_row _ P 1 _ _ _ hb2, cell_of_row _ P 2 _ _ _ hb2, cell_of_row _ P 3 _ _ _ hb2, cell_of_row _ P 4 _ _ _ hb2⟩
                  have hcl : (cabs m).length = m.length * 5 := cabs_len m
                  have y0 := (HK.out.cellAt (k * 5) (by omega)).trans (List.getElem?_eq_getElem (by omega))
                  have n0 := HK.out.frozenAt (k * 5)
                  have y1 := (HK.out.cellAt (k * 5 + 1) (by omega)).trans (List.getElem?_eq_getElem (by omega))
                  have n1 := HK.out.frozenAt (k * 5 + 1)
                  have y2 := (HK.out.cellAt (k * 5 + 2) (by omega)).trans (List.getElem?_eq_getElem (by omega))
                  have n2 := HK.out.frozenAt (k * 5 + 2)
                  have y3 := (HK.out.cellAt (k * 5 + 3) (by omega)).trans (List.getElem?_eq_getElem (by omega))
                  have n3 := HK.out.frozenAt (k * 5 + 3)
                  have y4 := (HK.out.cellAt (k * 5 + 4) (by omega)).trans (List.getElem?_eq_getElem (by omega))
                  have n4 := HK.out.frozenAt (k * 5 + 4)
                  have HST := Lib.hid (((((HK.out.stored (k * 5) (.int .i64 (D.i))).1.stored (k * 5 + 1) (.int .i64 (D.s))).1.stored (k * 5 + 2) (.int .i64 (D.w))).1.stored (k * 5 + 3) (.int .i64 (t))).1.stored (k * 5 + 4) (.int .i64 (D.p))).1
                  have HSE : Hid ((((((cabs m).set (k * 5) (.int .i64 D.i)).set (k * 5 + 1) (.int .i64 D.s)).set (k * 5 + 2) (.int .i64 D.w)).set (k * 5 + 3) (.int .i64 t)).set (k * 5 + 4) (.int .i64 (D.p)) = cabs (m.set k (mvC D t))) := Lib.hid (by rw [HMC.out]; exact HS5.out ⟨D.i, D.s, D.w, t, D.p⟩)
                  rw [HSE.out] at HST
                  have HBS := Lib.hid (below_set (below_set (below_set (below_set (below_set HBW.out hBg (k * 5) (.int .i64 D.i)) hBg (k * 5 + 1) (.int .i64 D.s)) hBg (k * 5 + 2) (.int .i64 D.w)) hBg (k * 5 + 3) (.int .i64 t)) hBg (k * 5 + 4) (.int .i64 (D.p)))
                  clear hf1
                  go_wp2_with fail
                  have HOX : Hid ((((((((W1).setCell ⟨P, 3, none⟩ (.int .i64 t)).setCell ⟨g, k * 5, none⟩ (.int .i64 (D.i))).setCell ⟨g, k * 5 + 1, none⟩ (.int .i64 (D.s))).setCell ⟨g, k * 5 + 2, none⟩ (.int .i64 (D.w))).setCell ⟨g, k * 5 + 3, none⟩ (.int .i64 (t))).setCell ⟨g, k * 5 + 4, none⟩ (.int .i64 (D.p))).ownsRow w.heap.size 34 5 (.slice (some ⟨g, 0, none⟩) m.length cg) m.length (cabs (m.set k (mvC D t)))) := Lib.hid (by simpa using HST.out)
                  have HBX : Hid (Below w.heap.size w (((((((W1).setCell ⟨P, 3, none⟩ (.int .i64 t)).setCell ⟨g, k * 5, none⟩ (.int .i64 (D.i))).setCell ⟨g, k * 5 + 1, none⟩ (.int .i64 (D.s))).setCell ⟨g, k * 5 + 2, none⟩ (.int .i64 (D.w))).setCell ⟨g, k * 5 + 3, none⟩ (.int .i64 (t))).setCell ⟨g, k * 5 + 4, none⟩ (.int .i64 (D.p)))) := HBS
                  generalize ((((((W1).setCell ⟨P, 3, none⟩ (.int .i64 t)).setCell ⟨g, k * 5, none⟩ (.int .i64 (D.i))).setCell ⟨g, k * 5 + 1, none⟩ (.int .i64 (D.s))).setCell ⟨g, k * 5 + 2, none⟩ (.int .i64 (D.w))).setCell ⟨g, k * 5 + 3, none⟩ (.int .i64 (t))).setCell ⟨g, k * 5 + 4, none⟩ (.int .i64 (D.p)) = W7 at *
                  refine (l5Good_c _ (m.set k (mvC D t)) _ (Rs.of_own (by have h := HOX.out; rw [← HLS.out (mvC D t)] at h ⊢; exact h)) (by rw [HLS.out]; omega)).mono ?_
                  rintro e w8 ⟨rfl, b8⟩
                  have HT8 := Lib.hid (HBX.out.trans (b8.mono HBX.out.size))
                  have HO8 := Lib.hid (owns_below HOX.out b8)
                  clear b8 x0 x1 x2 x3 x4 y0 y1 y2 y3 y4 n0 n1 n2 n3 n4 p0 p1 p2 p3 p4 m3 m4
                  cases hq : cabL (m.set k (mvC D t)) with
                  | false =>
                    have HN := Lib.hid (HMT.out (by have h := HCV.out; rw [hq] at h; simpa using h.symm))
                    clear hq
                    go_wp2
                    go_roundw
                    case rel => exact ⟨k + 1, m.set k (mvC D t), by omega, by go_num, HO8.out, HT8, Lib.hid (HGO.out _ HN.out)⟩
                    case measure => simp [intOf]; omega
                  | true =>
                    have HY := Lib.hid (HMA.out HMM.out (by have h := HCV.out; rw [hq] at h; simpa using h.symm))
                    clear hq
                    go_wp2
                    go_ret2
                    refine ⟨_, ret_v HY.out.symm, ?_, HT8.out⟩
                    rw [HMY.out HY.out, HLS.out]
                    exact HO8.out
            · have HS := Lib.hid (hmv.out.skip hlt hst)
              have t1 : ((gth l k).i != n) = true := by simpa using hst
              clear hst hown
              have hO1 := HO.out.alloc (.cells #[.int .i64 (gth l k).i, .int .i64 (gth l k).s, .int .i64 (gth l k).w, .int .i64 (gth l k).g, .int .i64 (gth l k).p] 34)
              have HB1 := Lib.hid (hbel.out.alloc hbs (.cells #[.int .i64 (gth l k).i, .int .i64 (gth l k).s, .int .i64 (gth l k).w, .int .i64 (gth l k).g, .int .i64 (gth l k).p] 34))
              generalize gth l k = D at *
              go_wp2
              go_roundw
              case rel => exact ⟨k + 1, m, by omega, by go_num, hO1, HB1, HS⟩
              case measure => simp [intOf]; omega
          · obtain rfl : k = l.length := by omega
            have HN := Lib.hid hmv.out.done
            have HT1 := hbel
            clear hmv
            go_wp2
            go_ret2
            exact ⟨_, ret_v HN.out.symm, by rw [mv_no HN.out]; exact World.ownsRow_made _ #[] 0 HT1.out.size (by decide) rfl, HT1.out.alloc HT1.out.size _⟩
end Go.Proofs.YtiogjocbiagipabDoor
