/- CabinsIn: the program's and the specification's answer as one function. Condition: sizes. -/
import Derived.Test.YtiogjocbiagipabDoorCabMath
import Derived.Test.YtiogjocbiagipabDoorCabLoadC
import Derived.Test.YtiogjocbiagipabDoorIntS
import Derived.Deep.AppendLies
namespace Go.Proofs.YtiogjocbiagipabDoor
open Go.RowKit
set_option linter.unusedVariables false
theorem inSt_yes {s : Int} {c : Cab} (h : c.g = s) : inSt s c = true := by simp [inSt, h]
theorem inSt_no {s : Int} {c : Cab} (h : ¬ c.g = s) : inSt s c = false := by simp [inSt, h]
theorem Tryd.infoInt5 : (Tryd.prog.info? 3).map (fun i => (i.zero, i.size, i.bytes)) = some (some (.int .i64 0), 1, 8) := by kernel_rfl
noncomputable def ciOk (l : List Cab) (s : Int) : Bool := cabL l && inR s 0 3
noncomputable def ciR (l : List Cab) (s : Int) : List Int := if ciOk l s then nums (stOf l s) else []
theorem ci_no {l : List Cab} {s : Int} (h : ciOk l s = false) : ciR l s = [] := by simp [ciR, h]
theorem ci_yes {l : List Cab} {s : Int} (h : ciOk l s = true) : ciR l s = nums (stOf l s) := by simp [ciR, h]
theorem ciR_len (l : List Cab) (s : Int) : (ciR l s).length ≤ 12 := by
  cases h : ciOk l s with
  | false => rw [ci_no h]; simp
  | true =>
    rw [ci_yes h, nums_len]
    have := stOf_len l s
    simp only [ciOk, Bool.and_eq_true] at h
    have := (cabL_yes h.1).len
    omega
theorem cell5_new (w : World) (a b c d e : Value) (t : TypeId) : ∀ j u, [a, b, c, d, e][j]? = some u → (w.alloc (.cells #[a, b, c, d, e] t)).cell? ((⟨w.heap.size, 0, none⟩ : Addr).add j) = some u :=
  fun j u h => by
    have := World.news_of_block (w := w.alloc (.cells #[a, b, c, d, e] t)) (cs := #[a, b, c, d, e]) (t := t) (fr := (0, 0)) (heap_alloc_new w _) j u h
    exact this
set_option maxRecDepth 100000 in
set_option maxHeartbeats 4000000 in
theorem inState_c (v : Value) (l : List Cab) (s : Int) (w : World) (hr : Rs w v l.length (cabs l)) (hn : l.length ≤ 12) :
    Calls Tryd.prog 72 #[v, .int .i64 s] w fun e w' => ∃ g, e = .returned g ∧ w'.ownsRow w.heap.size 34 5 g (stOf l s).length (cabs (stOf l s)) ∧ Below w.heap.size w w' := by
  obtain ⟨i0, hi, hz0, hz1, hz2⟩ := info_parts Tryd.infoCab
  have HR := Lib.hid hr
  obtain ⟨ao, a, oa, ca, rfl, hao, hat⟩ := hr.form_Cab
  have HA := Lib.hid hao
  have HL := Lib.hid hat
  clear hr hao hat
  go_enter Tryd.func72, Tryd.ntmps72
  go_wp2
  go_loopw [5, 11] (fun o i wr => ∃ k : Nat, k ≤ l.length ∧ i = .int .i64 k ∧ wr.ownsRow w.heap.size 34 5 o ((l.take k).filter (inSt s)).length (cabs ((l.take k).filter (inSt s))) ∧ Hid (Below w.heap.size w wr)) (fun _ i _ => l.length - (intOf i).toNat)
  case atStart => exact ⟨0, by omega, rfl, World.ownsRow_made w #[] 0 (Nat.le_refl _) (by decide) rfl, Lib.hid ((Below.refl _ _).alloc (Nat.le_refl _) _)⟩
  case round =>
    obtain ⟨k, hk, rfl, hown, hbel⟩ := hrel
    have hbs := hbel.out.size
    have hfl := filt_len' (inSt s) l k
    by_cases hlt : k < l.length
    · obtain ⟨rfl, hla, hlm⟩ := HA.out (by omega)
      obtain ⟨c0, c1, c2, c3, c4⟩ := (HL.out.below hbel.out hla) k hlt
      by_cases hst : (gth l k).g = s
      · have HS := Lib.hid (filt_yes hlt (inSt_yes hst))
        have t1 : ((gth l k).g == s) = true := by simpa using hst
        clear hst
        generalize gth l k = D at *
        have hown2 := (hown.alloc (.cells #[.int .i64 D.i, .int .i64 D.s, .int .i64 D.w, .int .i64 D.g, .int .i64 D.p] 34)).alloc (.cells #[.int .i64 D.i, .int .i64 D.s, .int .i64 D.w, .int .i64 D.g, .int .i64 D.p] 34)
        go_wp2_with (at_builtin; refine wpList_append_own _ rfl _ _ 24 rfl w.heap.size 34 i0 (.agg #[.int .i64 0, .int .i64 0, .int .i64 0, .int .i64 0, .int .i64 0]) 5 40 Tryd.underlying24 hi hz0 hz1 hz2 rfl (by decide) _ _ _ rfl hown2 ⟨wr.heap.size + 1, 0, none⟩ 1 1 [.int .i64 D.i, .int .i64 D.s, .int .i64 D.w, .int .i64 D.g, .int .i64 D.p] rfl rfl (by simpa using cell5_new (wr.alloc _) _ _ _ _ _ _) (by simp [Value.oneCell']) (by unfold maxLen; omega) (by omega) (by simp; omega) ?_; intro v' w3 hown' hgrow _)
        go_roundw
        case rel => exact ⟨k + 1, by omega, by go_num, by rw [HS.out, cabs_append, cabs_one, List.length_append]; exact hown', Lib.hid (((hbel.out.alloc hbs _).alloc (by simp; omega) _).grown hgrow (by simp; omega) (fun j hj => (hown.lt j hj).1))⟩
        case measure => simp [intOf]; omega
      · have HS := Lib.hid (filt_no hlt (inSt_no hst))
        have t1 : ((gth l k).g == s) = false := by simpa using hst
        clear hst
        generalize gth l k = D at *
        go_wp2
        go_roundw
        case rel => exact ⟨k + 1, by omega, by go_num, by rw [HS.out]; exact hown.alloc _, Lib.hid (hbel.out.alloc hbs _)⟩
        case measure => simp [intOf]; omega
    · obtain rfl : k = l.length := by omega
      rw [List.take_length] at hown
      go_wp2
      go_ret
      exact ⟨_, rfl, hown, hbel.out⟩
set_option maxRecDepth 100000 in
set_option maxHeartbeats 4000000 in
theorem numsOf_c (v : Value) (l : List Cab) (w : World) (hr : Rs w v l.length (cabs l)) (hn : l.length ≤ 12) :
    Calls Tryd.prog 71 #[v] w fun e w' => ∃ g, e = .returned g ∧ w'.ownsRow w.heap.size 3 1 g (nums l).length (intVs (nums l)) ∧ Below w.heap.size w w' := by
  obtain ⟨i0, hi, hz0, hz1, hz2⟩ := info_parts Tryd.infoInt5
  have HR := Lib.hid hr
  obtain ⟨ao, a, oa, ca, rfl, hao, hat⟩ := hr.form_Cab
  have HA := Lib.hid hao
  have HL := Lib.hid hat
  clear hr hao hat
  go_enter Tryd.func71, Tryd.ntmps71
  go_wp2
  go_loopw [3, 9] (fun o i wr => ∃ k : Nat, k ≤ l.length ∧ i = .int .i64 k ∧ wr.ownsRow w.heap.size 3 1 o (nums (l.take k)).length (intVs (nums (l.take k))) ∧ Hid (Below w.heap.size w wr)) (fun _ i _ => l.length - (intOf i).toNat)
  case atStart => exact ⟨0, by omega, rfl, World.ownsRow_made w #[] 0 (Nat.le_refl _) (by decide) rfl, Lib.hid ((Below.refl _ _).alloc (Nat.le_refl _) _)⟩
  case round =>
    obtain ⟨k, hk, rfl, hown, hbel⟩ := hrel
    have hbs := hbel.out.size
    have hfl : (nums (l.take k)).length ≤ 12 := by rw [nums_len, List.length_take]; omega
    by_cases hlt : k < l.length
    · obtain ⟨rfl, hla, hlm⟩ := HA.out (by omega)
      obtain ⟨c0, c1, c2, c3, c4⟩ := (HL.out.below hbel.out hla) k hlt
      have HS := Lib.hid (nums_take hlt)
      generalize gth l k = D at *
      have hown2 := (hown.alloc (.cells #[.int .i64 D.i, .int .i64 D.s, .int .i64 D.w, .int .i64 D.g, .int .i64 D.p] 34))
      go_wp2_with (at_builtin; refine wpList_append_own _ rfl _ _ 46 rfl w.heap.size 3 i0 (.int .i64 0) 1 8 Tryd.underlying46 hi hz0 hz1 hz2 rfl (by decide) _ _ _ rfl (hown2.alloc _) ⟨wr.heap.size + 1, 0, none⟩ 1 1 [.int .i64 D.i] rfl rfl (by simpa using cell_one_new (wr.alloc _) _ _) (by simp [Value.oneCell']) (by unfold maxLen; omega) (by omega) (by simp; omega) ?_; intro v' w3 hown' hgrow _)
      go_roundw
      case rel => exact ⟨k + 1, by omega, by go_num, by rw [HS.out]; simpa [intVs] using hown', Lib.hid (((hbel.out.alloc hbs _).alloc (by simp; omega) _).grown hgrow (by simp; omega) (fun j hj => (hown.lt j hj).1))⟩
      case measure => simp [intOf]; omega
    · obtain rfl : k = l.length := by omega
      rw [List.take_length] at hown
      go_wp2
      go_ret
      exact ⟨_, rfl, hown, hbel.out⟩
set_option maxRecDepth 100000 in
set_option maxHeartbeats 4000000 in
theorem implCabinsIn_c (v : Value) (l : List Cab) (s : Int) (w : World) (hr : Rs w v l.length (cabs l)) (hn : l.length ≤ 1048576) (hw : (Lit.int .i64 s).wf = true) :
    Calls Tryd.prog 24 #[v, .int .i64 s] w fun e w' => ∃ g, e = .returned (.tuple #[g, .bool (ciOk l s)]) ∧ w'.ownsRow w.heap.size 3 1 g (ciR l s).length (intVs (ciR l s)) ∧ Below w.heap.size w w' := by
  have E0 := Lib.hid (fun W h => implAreCabins_c v l W h hn)
  have E1 := Lib.hid (fun W => isCabinState_c s W)
  have hd : ciOk l s = (cabL l && inR s 0 3) := rfl
  have HR := Lib.hid hr
  clear hr hw
  cases hk : cabL l with
  | false =>
    rw [hk] at E0 hd
    have HN := Lib.hid (ci_no (l := l) (s := s) (by rw [hd]; rfl))
    have HD := Lib.hid hd
    clear hk hd E1
    go_enter Tryd.func24, Tryd.ntmps24
    go_wp2_with fail
    refine (E0.out _ HR.out).mono ?_
    rintro e w1 ⟨rfl, b1⟩
    go_wp2
    go_ret2
    exact ⟨_, by rw [HD.out]; rfl, by rw [HN.out]; exact World.ownsRow_made _ #[] 0 b1.size (by decide) rfl, b1.alloc b1.size _⟩
  | true =>
    cases hm : inR s 0 3 with
    | false =>
      rw [hk] at E0
      rw [hm] at E1
      rw [hk, hm] at hd
      have HN := Lib.hid (ci_no (l := l) (s := s) (by rw [hd]; rfl))
      have HD := Lib.hid hd
      clear hk hm hd
      go_enter Tryd.func24, Tryd.ntmps24
      go_wp2_with fail
      refine (E0.out _ HR.out).mono ?_
      rintro e w1 ⟨rfl, b1⟩
      go_wp2_with fail
      refine (E1.out _).mono ?_
      rintro e w2 ⟨rfl, rfl⟩
      go_wp2
      go_ret2
      exact ⟨_, by rw [HD.out]; rfl, by rw [HN.out]; exact World.ownsRow_made _ #[] 0 b1.size (by decide) rfl, b1.alloc b1.size _⟩
    | true =>
      have h12 := (cabL_yes hk).len
      rw [hk] at E0
      rw [hm] at E1
      rw [hk, hm] at hd
      have HN := Lib.hid (ci_yes (l := l) (s := s) (by rw [hd]; rfl))
      have HD := Lib.hid hd
      have hsl := stOf_len l s
      clear hk hm hd
      go_enter Tryd.func24, Tryd.ntmps24
      go_wp2_with fail
      refine (E0.out _ HR.out).mono ?_
      rintro e w1 ⟨rfl, b1⟩
      go_wp2_with fail
      refine (E1.out _).mono ?_
      rintro e w2 ⟨rfl, rfl⟩
      go_wp2_with fail
      refine (inState_c v l s _ (HR.out.below b1 rfl) h12).mono ?_
      rintro e w3 ⟨g, rfl, o3, b3⟩
      go_wp2_with fail
      refine (numsOf_c g (stOf l s) _ (Rs.of_own o3) (by omega)).mono ?_
      rintro e w4 ⟨h, rfl, o4, b4⟩
      go_wp2
      go_ret2
      exact ⟨_, by rw [HD.out]; rfl, by rw [HN.out]; exact own_mono o4 (Nat.le_trans b1.size b3.size), b1.trans ((b3.trans (b4.mono b3.size)).mono b1.size)⟩
set_option maxRecDepth 100000 in
set_option maxHeartbeats 4000000 in
theorem specCabinsIn_c (v : Value) (l : List Cab) (s : Int) (w : World) (hr : Rs w v l.length (cabs l)) (hn : l.length ≤ 1048576) (hw : (Lit.int .i64 s).wf = true) :
    Calls Tryd.prog 25 #[v, .int .i64 s] w fun e w' => ∃ g, e = .returned (.tuple #[g, .bool (ciOk l s)]) ∧ w'.ownsRow w.heap.size 3 1 g (ciR l s).length (intVs (ciR l s)) ∧ Below w.heap.size w w' := by
  obtain ⟨i0, hi, hz0, hz1, hz2⟩ := info_parts Tryd.infoInt5
  have E0 := Lib.hid (fun W h => l5Good_c v l W h hn)
  have E1 := Lib.hid (fun W => l5State_c s W)
  have hd : ciOk l s = (cabL l && inR s 0 3) := rfl
  have HR := Lib.hid (Rs.below hr ((Below.refl _ _).alloc (Nat.le_refl _) (.cells #[] 3)) rfl)
  have HO := Lib.hid (World.ownsRow_made w #[] 0 (base := w.heap.size) (e := 3) (size := 1) (Nat.le_refl _) (by decide) rfl)
  have HT := Lib.hid ((Below.refl w.heap.size w).alloc (Nat.le_refl _) (.cells #[] 3))
  obtain ⟨ao, a, oa, ca, rfl, hao, hat⟩ := hr.form_Cab
  have HA := Lib.hid hao
  have HL := Lib.hid hat
  clear hr hw hao hat
  cases hk : cabL l with
  | false =>
    rw [hk] at E0 hd
    have HN := Lib.hid (ci_no (l := l) (s := s) (by rw [hd]; rfl))
    have HD := Lib.hid hd
    clear hk hd E1
    go_enter Tryd.func25, Tryd.ntmps25
    go_wp2_with fail
    refine (E0.out _ HR.out).mono ?_
    rintro e w1 ⟨rfl, b1⟩
    go_wp2
    go_ret2
    exact ⟨_, by rw [HD.out]; rfl, by rw [HN.out]; exact own_below HO.out b1, HT.out.trans (b1.mono HT.out.size)⟩
  | true =>
    cases hm : inR s 0 3 with
    | false =>
      rw [hk] at E0
      rw [hm] at E1
      rw [hk, hm] at hd
      have HN := Lib.hid (ci_no (l := l) (s := s) (by rw [hd]; rfl))
      have HD := Lib.hid hd
      clear hk hm hd
      go_enter Tryd.func25, Tryd.ntmps25
      go_wp2_with fail
      refine (E0.out _ HR.out).mono ?_
      rintro e w1 ⟨rfl, b1⟩
      go_wp2_with fail
      refine (E1.out _).mono ?_
      rintro e w2 ⟨rfl, rfl⟩
      go_wp2
      go_ret2
      exact ⟨_, by rw [HD.out]; rfl, by rw [HN.out]; exact own_below HO.out b1, HT.out.trans (b1.mono HT.out.size)⟩
    | true =>
      have h12 := (cabL_yes hk).len
      rw [hk] at E0
      rw [hm] at E1
      rw [hk, hm] at hd
      have HN := Lib.hid (ci_yes (l := l) (s := s) (by rw [hd]; rfl))
      have HD := Lib.hid hd
      clear hk hm hd
      go_enter Tryd.func25, Tryd.ntmps25
      go_wp2_with fail
      refine (E0.out _ HR.out).mono ?_
      rintro e w1 ⟨rfl, b1⟩
      go_wp2_with fail
      refine (E1.out _).mono ?_
      rintro e w2 ⟨rfl, rfl⟩
      go_wp2
      go_loopw [6, 7] (fun o i wr => ∃ k : Nat, k ≤ l.length ∧ i = .int .i64 k ∧ wr.ownsRow w.heap.size 3 1 o (nums ((l.take k).filter (inSt s))).length (intVs (nums ((l.take k).filter (inSt s)))) ∧ Hid (Below w.heap.size w wr)) (fun _ i _ => l.length - (intOf i).toNat)
      case atStart => exact ⟨0, by omega, rfl, own_below HO.out b1, Lib.hid (HT.out.trans (b1.mono HT.out.size))⟩
      case round =>
        obtain ⟨k, hkl, rfl, hown, hbel⟩ := hrel
        have hbs := hbel.out.size
        have hfl : (nums ((l.take k).filter (inSt s))).length ≤ 12 := by rw [nums_len]; have := filt_len' (inSt s) l k; omega
        by_cases hlt : k < l.length
        · obtain ⟨rfl, hla, hlm⟩ := HA.out (by omega)
          obtain ⟨c0, c1, c2, c3, c4⟩ := (HL.out.below hbel.out hla) k hlt
          by_cases hst : (gth l k).g = s
          · have HS := Lib.hid (filt_yes hlt (inSt_yes hst))
            have t1 : ((gth l k).g == s) = true := by simpa using hst
            clear hst
            generalize gth l k = D at *
            go_wp2_with (at_builtin; refine wpList_append_own _ rfl _ _ 46 rfl w.heap.size 3 i0 (.int .i64 0) 1 8 Tryd.underlying46 hi hz0 hz1 hz2 rfl (by decide) _ _ _ rfl (hown.alloc _) ⟨wr.heap.size, 0, none⟩ 1 1 [.int .i64 D.i] rfl rfl (cell_one_new _ _ _) (by simp [Value.oneCell']) (by unfold maxLen; omega) (by omega) (by simp; omega) ?_; intro v' w3 hown' hgrow _)
            go_roundw
            case rel => exact ⟨k + 1, by omega, by go_num, by rw [HS.out, nums_one]; simpa [intVs] using hown', Lib.hid ((hbel.out.alloc hbs _).grown hgrow (by simp; omega) (fun j hj => (hown.lt j hj).1))⟩
            case measure => simp [intOf]; omega
          · have HS := Lib.hid (filt_no hlt (inSt_no hst))
            have t1 : ((gth l k).g == s) = false := by simpa using hst
            clear hst
            generalize gth l k = D at *
            go_wp2
            go_roundw
            case rel => exact ⟨k + 1, by omega, by go_num, by rw [HS.out]; exact hown, hbel⟩
            case measure => simp [intOf]; omega
        · obtain rfl : k = l.length := by omega
          rw [List.take_length] at hown
          go_wp2
          go_ret2
          exact ⟨_, by rw [HD.out]; rfl, by rw [HN.out]; exact hown, hbel.out⟩
end Go.Proofs.YtiogjocbiagipabDoor
