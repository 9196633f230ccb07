/- WornCabins: the program's and the specification's answer as one function. Condition: sizes. -/
import Derived.Test.YtiogjocbiagipabDoorSortC
import Derived.Test.YtiogjocbiagipabDoorOrdT
import Derived.Test.YtiogjocbiagipabDoorCabNextC
namespace Go.Proofs.YtiogjocbiagipabDoor
open Go.RowKit Go.Sort
set_option linter.unusedVariables false
/-- Not broken, and so many trips. -/
def wq (t : Int) (c : Cab) : Bool := decide (¬ c.g = 3) && decide (t ≤ c.p)
theorem wq_yes {t : Int} {c : Cab} (h : ¬ c.g = 3) (g : t ≤ c.p) : wq t c = true := by simp [wq, h, g]
theorem wq_no1 {t : Int} {c : Cab} (h : c.g = 3) : wq t c = false := by simp [wq, h]
theorem wq_no2 {t : Int} {c : Cab} (g : ¬ t ≤ c.p) : wq t c = false := by simp [wq]; intro _; omega
noncomputable def wnOk (l : List Cab) (t : Int) : Bool := cabL l && inR t 1 99999
noncomputable def wnR (l : List Cab) (t : Int) : List Int := if wnOk l t then nums ((ordA true l).filter (wq t)) else []
theorem wn_no {l : List Cab} {t : Int} (h : wnOk l t = false) : wnR l t = [] := by simp [wnR, h]
theorem wn_yes {l : List Cab} {t : Int} (h : wnOk l t = true) : wnR l t = nums ((ordA true l).filter (wq t)) := by simp [wnR, h]
theorem wn_flen (l : List Cab) (t : Int) : ((ordA true l).filter (wq t)).length ≤ l.length := by
  have := List.length_filter_le (wq t) (ordA true l)
  rw [ordA_len] at this; exact this
theorem wnR_len (l : List Cab) (t : Int) : (wnR l t).length ≤ 12 := by
  cases h : wnOk l t with
  | false => rw [wn_no h]; simp
  | true =>
    rw [wn_yes h, nums_len]
    have := wn_flen l t
    simp only [wnOk, Bool.and_eq_true] at h
    have := (cabL_yes h.1).len
    omega
set_option maxRecDepth 100000 in
set_option maxHeartbeats 4000000 in
theorem implWornCabins_c (v : Value) (l : List Cab) (t : Int) (w : World) (hr : Rs w v l.length (cabs l)) (hn : l.length ≤ 1048576) (hw : (Lit.int .i64 t).wf = true) :
    Calls Tryd.prog 36 #[v, .int .i64 t] w fun e w' => ∃ g, e = .returned (.tuple #[g, .bool (wnOk l t)]) ∧ w'.ownsRow w.heap.size 3 1 g (wnR l t).length (intVs (wnR l t)) ∧ Below w.heap.size w w' := by
  obtain ⟨i0, hi, hz0, hz1, hz2⟩ := info_parts Tryd.infoCab
  have E0 := Lib.hid (fun W h => implAreCabins_c v l W h hn)
  have E1 := Lib.hid (fun W => within_c t 1 99999 W)
  have hd : wnOk l t = (cabL l && inR t 1 99999) := rfl
  have HR := Lib.hid hr
  obtain ⟨ao, a, oa, ca, rfl, hao, hat⟩ := hr.form_Cab
  have HA := Lib.hid hao
  have HL := Lib.hid hat
  clear hr hw hao hat
  cases hk : cabL l with
  | false =>
    rw [hk] at E0 hd
    have HN := Lib.hid (wn_no (l := l) (t := t) (by rw [hd]; rfl))
    have HD := Lib.hid hd
    clear hk hd E1
    go_enter Tryd.func36, Tryd.ntmps36
    go_wp2_with fail
    refine (E0.out _ HR.out).mono ?_
    rintro e w1 ⟨rfl, b1⟩
    go_wp2
    go_ret2
    exact ⟨_, by rw [HD.out]; rfl, by rw [HN.out]; exact World.ownsRow_made _ #[] 0 b1.size (by decide) rfl, b1.alloc b1.size _⟩
  | true =>
    cases hm : inR t 1 99999 with
    | false =>
      rw [hk] at E0
      rw [hm] at E1
      rw [hk, hm] at hd
      have HN := Lib.hid (wn_no (l := l) (t := t) (by rw [hd]; rfl))
      have HD := Lib.hid hd
      clear hk hm hd
      go_enter Tryd.func36, Tryd.ntmps36
      go_wp2_with fail
      refine (E0.out _ HR.out).mono ?_
      rintro e w1 ⟨rfl, b1⟩
      go_wp2_with fail
      refine (E1.out _).mono ?_
      rintro e w2 ⟨rfl, rfl⟩
      go_wp2
      go_ret2
      exact ⟨_, by rw [HD.out]; rfl, by rw [HN.out]; exact World.ownsRow_made _ #[] 0 b1.size (by decide) rfl, b1.alloc b1.size _⟩
    | true =>
      have HC := Lib.hid (cabL_yes hk)
      have h12 := HC.out.len
      rw [hk] at E0
      rw [hm] at E1
      rw [hk, hm] at hd
      have HN := Lib.hid (wn_yes (l := l) (t := t) (by rw [hd]; rfl))
      have HD := Lib.hid hd
      clear hk hm hd
      go_enter Tryd.func36, Tryd.ntmps36
      go_wp2_with fail
      refine (E0.out _ HR.out).mono ?_
      rintro e w1 ⟨rfl, b1⟩
      go_wp2_with fail
      refine (E1.out _).mono ?_
      rintro e w2 ⟨rfl, rfl⟩
      go_wp2
      have HB1 := Lib.hid b1
      clear b1
      go_loopw [6, 21] (fun o i wr => ∃ k : Nat, k ≤ l.length ∧ i = .int .i64 k ∧ wr.ownsRow w.heap.size 34 5 o ((l.take k).filter (wq t)).length (cabs ((l.take k).filter (wq t))) ∧ Hid (Below w.heap.size w wr)) (fun _ i _ => l.length - (intOf i).toNat)
      case atStart => exact ⟨0, by omega, rfl, World.ownsRow_made _ #[] 0 HB1.out.size (by decide) rfl, Lib.hid (HB1.out.alloc HB1.out.size _)⟩
      case round =>
        obtain ⟨k, hk, rfl, hown, hbel⟩ := hrel
        have hbs := hbel.out.size
        have hfl := filt_len' (wq t) l k
        by_cases hlt : k < l.length
        · obtain ⟨rfl, hla, hlm⟩ := HA.out (by omega)
          obtain ⟨c0, c1, c2, c3, c4⟩ := (HL.out.below hbel.out hla) k hlt
          by_cases h3 : (gth l k).g = 3
          · have HS := Lib.hid (filt_no hlt (wq_no1 (t := t) h3))
            have t1 : ((gth l k).g == 3) = true := by simpa using h3
            have t2 : ((gth l k).g != 3) = false := by simpa using h3
            clear h3
            generalize gth l k = D at *
            go_wp2
            go_roundw
            case rel => exact ⟨k + 1, by omega, by go_num, by rw [HS.out]; exact hown.alloc _, Lib.hid (hbel.out.alloc hbs _)⟩
            case measure => simp [intOf]; omega
          · have t1 : ((gth l k).g == 3) = false := by simpa using h3
            have t2 : ((gth l k).g != 3) = true := by simpa using h3
            by_cases hp : t ≤ (gth l k).p
            · have HS := Lib.hid (filt_yes hlt (wq_yes h3 hp))
              have t3 : decide (t ≤ (gth l k).p) = true := by simpa using hp
              clear h3 hp
              generalize gth l k = D at *
              have hown2 := (hown.alloc (.cells #[.int .i64 D.i, .int .i64 D.s, .int .i64 D.w, .int .i64 D.g, .int .i64 D.p] 34)).alloc (.cells #[.int .i64 D.i, .int .i64 D.s, .int .i64 D.w, .int .i64 D.g, .int .i64 D.p] 34)
              go_wp2_with (at_builtin; refine wpList_append_own _ rfl _ _ 24 rfl w.heap.size 34 i0 (.agg #[.int .i64 0, .int .i64 0, .int .i64 0, .int .i64 0, .int .i64 0]) 5 40 Tryd.underlying24 hi hz0 hz1 hz2 rfl (by decide) _ _ _ rfl hown2 ⟨wr.heap.size + 1, 0, none⟩ 1 1 [.int .i64 D.i, .int .i64 D.s, .int .i64 D.w, .int .i64 D.g, .int .i64 D.p] rfl rfl (by simpa using cell5_new (wr.alloc _) _ _ _ _ _ _) (by simp [Value.oneCell']) (by unfold maxLen; omega) (by omega) (by simp; omega) ?_; intro v' w3 hown' hgrow _)
              go_roundw
              case rel => exact ⟨k + 1, by omega, by go_num, by rw [HS.out, cabs_append, cabs_one, List.length_append]; exact hown', Lib.hid (((hbel.out.alloc hbs _).alloc (by simp; omega) _).grown hgrow (by simp; omega) (fun j hj => (hown.lt j hj).1))⟩
              case measure => simp [intOf]; omega
            · have HS := Lib.hid (filt_no hlt (wq_no2 (t := t) hp))
              have t3 : decide (t ≤ (gth l k).p) = false := by simpa using hp
              clear h3 hp
              generalize gth l k = D at *
              go_wp2
              go_roundw
              case rel => exact ⟨k + 1, by omega, by go_num, by rw [HS.out]; exact hown.alloc _, Lib.hid (hbel.out.alloc hbs _)⟩
              case measure => simp [intOf]; omega
        · obtain rfl : k = l.length := by omega
          rw [List.take_length] at hown hfl
          go_wp2_with fail
          refine (sort_worn _ _ _ _ hown (by omega)).mono ?_
          rintro e w3 ⟨rfl, d, hp, hs, o3, g3⟩
          have HO3 := Lib.hid (sorted_ord HC.out hp hs)
          have HLN : Hid (((ordA true l).filter (wq t)).length = (l.filter (wq t)).length) := Lib.hid (((ordA_perm true l).filter (wq t)).length_eq)
          have HB3 := Lib.hid (hbel.out.grown g3 hbs (fun j hj => (hown.lt j hj).1))
          have O3 : Hid (Rs w3 _ ((ordA true l).filter (wq t)).length (cabs ((ordA true l).filter (wq t)))) := Lib.hid (Rs.of_own (by rw [← HO3.out] at HLN ⊢; rw [HLN.out]; exact o3))
          have hl4 : ((ordA true l).filter (wq t)).length ≤ 12 := by have := wn_flen l t; omega
          clear hp hs o3 g3 hown HO3 HLN
          go_wp2_with fail
          refine (numsOf_c _ _ _ O3.out hl4).mono ?_
          rintro e w4 ⟨h, rfl, o4, b4⟩
          go_wp2
          go_ret2
          exact ⟨_, by rw [HD.out]; rfl, by rw [HN.out]; exact own_mono o4 HB3.out.size, HB3.out.trans (b4.mono HB3.out.size)⟩
set_option maxRecDepth 100000 in
set_option maxHeartbeats 4000000 in
theorem specWornCabins_c (v : Value) (l : List Cab) (t : Int) (w : World) (hr : Rs w v l.length (cabs l)) (hn : l.length ≤ 1048576) (hw : (Lit.int .i64 t).wf = true) :
    Calls Tryd.prog 37 #[v, .int .i64 t] w fun e w' => ∃ g, e = .returned (.tuple #[g, .bool (wnOk l t)]) ∧ w'.ownsRow w.heap.size 3 1 g (wnR l t).length (intVs (wnR l t)) ∧ Below w.heap.size w w' := by
  obtain ⟨i0, hi, hz0, hz1, hz2⟩ := info_parts Tryd.infoInt5
  have E0 := Lib.hid (fun W h => l5Good_c v l W h hn)
  have E1 := Lib.hid (fun W => l1In_c t 1 99999 W)
  have hd : wnOk l t = (cabL l && inR t 1 99999) := rfl
  have HR := Lib.hid (Rs.below hr ((Below.refl _ _).alloc (Nat.le_refl _) (.cells #[] 3)) rfl)
  have HO := Lib.hid (World.ownsRow_made w #[] 0 (base := w.heap.size) (e := 3) (size := 1) (Nat.le_refl _) (by decide) rfl)
  have HT := Lib.hid ((Below.refl w.heap.size w).alloc (Nat.le_refl _) (.cells #[] 3))
  clear hr hw
  cases hk : cabL l with
  | false =>
    rw [hk] at E0 hd
    have HN := Lib.hid (wn_no (l := l) (t := t) (by rw [hd]; rfl))
    have HD := Lib.hid hd
    clear hk hd E1
    go_enter Tryd.func37, Tryd.ntmps37
    go_wp2_with fail
    refine (E0.out _ HR.out).mono ?_
    rintro e w1 ⟨rfl, b1⟩
    go_wp2
    go_ret2
    exact ⟨_, by rw [HD.out]; rfl, by rw [HN.out]; exact own_below HO.out b1, HT.out.trans (b1.mono HT.out.size)⟩
  | true =>
    cases hm : inR t 1 99999 with
    | false =>
      rw [hk] at E0
      rw [hm] at E1
      rw [hk, hm] at hd
      have HN := Lib.hid (wn_no (l := l) (t := t) (by rw [hd]; rfl))
      have HD := Lib.hid hd
      clear hk hm hd
      go_enter Tryd.func37, Tryd.ntmps37
      go_wp2_with fail
      refine (E0.out _ HR.out).mono ?_
      rintro e w1 ⟨rfl, b1⟩
      go_wp2_with fail
      refine (E1.out _).mono ?_
      rintro e w2 ⟨rfl, rfl⟩
      go_wp2
      go_ret2
      exact ⟨_, by rw [HD.out]; rfl, by rw [HN.out]; exact own_below HO.out b1, HT.out.trans (b1.mono HT.out.size)⟩
    | true =>
      have HC := Lib.hid (cabL_yes hk)
      have h12 := HC.out.len
      rw [hk] at E0
      rw [hm] at E1
      rw [hk, hm] at hd
      have HN := Lib.hid (wn_yes (l := l) (t := t) (by rw [hd]; rfl))
      have HD := Lib.hid hd
      clear hk hm hd
      go_enter Tryd.func37, Tryd.ntmps37
      go_wp2_with fail
      refine (E0.out _ HR.out).mono ?_
      rintro e w1 ⟨rfl, b1⟩
      go_wp2_with fail
      refine (E1.out _).mono ?_
      rintro e w2 ⟨rfl, rfl⟩
      go_wp2_with fail
      refine (l5Order_t v l _ (HR.out.below b1 rfl) h12).mono ?_
      rintro e w3 ⟨og, rfl, o3, b3⟩
      have HB3 := Lib.hid (HT.out.trans ((b1.trans (b3.mono b1.size)).mono HT.out.size))
      have HO3 := Lib.hid (own_below (own_below HO.out b1) b3)
      have hol := ordA_len true l
      have hwf := wn_flen l t
      have hsz2 : w.heap.size + 1 ≤ w2.heap.size := by have := b1.size; simpa using this
      have hs3 := b3.size
      generalize ordA true l = q at *
      rw [← hol] at o3
      obtain ⟨ao, a, oa, ca, rfl, hao, hat⟩ := own_at5 o3
      have HA := Lib.hid hao
      have HL := Lib.hid hat
      have HNE : Hid (0 < q.length → some w.heap.size ≠ some a) := Lib.hid (fun h e => by have := (hao h).2.1; cases e; omega)
      clear hao hat o3 b3 b1
      go_wp2
      go_loopw [6, 8] (fun o i wr => ∃ k : Nat, k ≤ q.length ∧ i = .int .i64 k ∧ wr.ownsRow w.heap.size 3 1 o (nums ((q.take k).filter (wq t))).length (intVs (nums ((q.take k).filter (wq t)))) ∧ Hid (Below w.heap.size w wr) ∧ Hid (CabAt wr a oa q) ∧ Hid (w3.heap.size ≤ wr.heap.size) ∧ Hid (0 < q.length → o.ownBlock ≠ some a)) (fun _ i _ => q.length - (intOf i).toNat)
      case atStart => exact ⟨0, by omega, rfl, HO3.out, HB3, HL, Lib.hid (Nat.le_refl _), HNE⟩
      case round =>
        obtain ⟨k, hk, rfl, hown, hbel, hcat, hsz, hne⟩ := hrel
        have hbs := hbel.out.size
        have hfl : (nums ((q.take k).filter (wq t))).length ≤ 12 := by rw [nums_len]; have := filt_len' (wq t) q k; omega
        by_cases hlt : k < q.length
        · obtain ⟨rfl, haB, hla, hlm⟩ := HA.out (by omega)
          have hne1 := hne.out (by omega)
          obtain ⟨c0, c1, c2, c3, c4⟩ := hcat.out k hlt
          have hszr := hsz.out
          by_cases h3 : (gth q k).g = 3
          · have HS := Lib.hid (filt_no hlt (wq_no1 (t := t) h3))
            have t1 : ((gth q k).g == 3) = true := by simpa using h3
            have t2 : ((gth q k).g != 3) = false := by simpa using h3
            clear h3
            generalize gth q k = D at *
            go_wp2
            go_roundw
            case rel => exact ⟨k + 1, by omega, by go_num, by rw [HS.out]; exact hown, hbel, hcat, hsz, hne⟩
            case measure => simp [intOf]; omega
          · have t1 : ((gth q k).g == 3) = false := by simpa using h3
            have t2 : ((gth q k).g != 3) = true := by simpa using h3
            by_cases hp : t ≤ (gth q k).p
            · have HS := Lib.hid (filt_yes hlt (wq_yes h3 hp))
              have t3 : decide (t ≤ (gth q k).p) = true := by simpa using hp
              clear h3 hp
              generalize gth q k = D at *
              go_wp2_with (at_builtin; refine wpList_append_any _ rfl _ _ 46 rfl w.heap.size 3 i0 (.int .i64 0) 1 8 Tryd.underlying46 hi hz0 hz1 hz2 rfl (by decide) _ _ _ rfl (hown.alloc _) (some ⟨wr.heap.size, 0, none⟩) 1 1 [.int .i64 D.i] rfl rfl (fun _ => ⟨_, rfl, cell_one_new _ _ _⟩) (by simp [Value.oneCell']) (by unfold maxLen; omega) (by omega) (by simp; omega) ?_; intro v' w5 hown' hgrow hat5)
              have HC5 : Hid (CabAt w5 a oa q) := Lib.hid ((hcat.out.kept (World.grownBy_alloc _ _ none) (by simp)).kept hgrow (fun e => hne1 e.symm))
              have HS5 : Hid (w3.heap.size ≤ w5.heap.size) := Lib.hid (by have := hgrow.size; simp at this; omega)
              have HN5 : Hid (0 < q.length → v'.ownBlock ≠ some a) := Lib.hid (fun _ e => by rcases hat5 with h | h <;> rw [h] at e; exact hne1 e; simp at e; omega)
              clear hat5
              go_roundw
              case rel => exact ⟨k + 1, by omega, by go_num, by rw [HS.out, nums_one]; simpa [intVs] using hown', Lib.hid ((hbel.out.alloc hbs _).grown hgrow (by simp; omega) (fun j hj => (hown.lt j hj).1)), HC5, HS5, HN5⟩
              case measure => simp [intOf]; omega
            · have HS := Lib.hid (filt_no hlt (wq_no2 (t := t) hp))
              have t3 : decide (t ≤ (gth q k).p) = false := by simpa using hp
              clear h3 hp
              generalize gth q k = D at *
              go_wp2
              go_roundw
              case rel => exact ⟨k + 1, by omega, by go_num, by rw [HS.out]; exact hown, hbel, hcat, hsz, hne⟩
              case measure => simp [intOf]; omega
        · obtain rfl : k = q.length := by omega
          rw [List.take_length] at hown
          go_wp2
          go_ret2
          exact ⟨_, by rw [HD.out]; rfl, by rw [HN.out]; exact hown, hbel.out⟩
end Go.Proofs.YtiogjocbiagipabDoor
