/- A grip by its cabin, a list with one grip changed. Condition: sizes. -/
import Derived.Test.YtiogjocbiagipaaGrpMath
import Derived.Lib.SliceRun
import Derived.Deep.DeepCutAuto
namespace Go.Proofs.Ytiogjocbiagipaa
open Go.RowKit
set_option linter.unusedVariables false
set_option linter.unusedVariables false
set_option maxHeartbeats 1000000 in
theorem cloG_c (x : Grp) (n : Int) (P : Nat) (w : World) (hP : w.cell? ⟨P, 0, none⟩ = some (.int .i64 n)) (hl : P < w.heap.size) :
    Calls Try.prog 88 #[.agg #[.int .i64 x.i, .int .i64 x.s, .int .i64 x.w, .int .i64 x.g, .int .i64 x.p], .pointer (some ⟨P, 0, none⟩)] w fun e w' => e = .returned (.bool (x.i == n)) ∧ Below w.heap.size w w' := by
  have hne : P ≠ w.heap.size := by omega
  go_enter Try.func88, Try.ntmps88
  go_wp2
  go_ret
  exact ⟨rfl, (Below.refl _ _).alloc (Nat.le_refl _) _⟩
set_option maxRecDepth 100000 in
set_option maxHeartbeats 2000000 in
theorem idxF_c (v : Value) (l : List Grp) (n : Int) (P : Nat) (w : World) (hr : Rs w v l.length (grps l)) (hn : l.length ≤ 12) (hP : w.cell? ⟨P, 0, none⟩ = some (.int .i64 n)) (hl : P < w.heap.size) :
    Calls Try.prog 87 #[v, .func (.func 88) #[] #[.pointer (some ⟨P, 0, none⟩)]] w fun e w' => e = .returned (.int .i64 (idxV l n)) ∧ Below w.heap.size w w' := by
  obtain ⟨ao, a, oa, ca, rfl, hao, hat⟩ := hr.form_Grp
  have HA := Lib.hid hao
  have HL := Lib.hid hat
  have HP := Lib.hid hP
  clear hr hao hat hP
  go_enter Try.func87, Try.ntmps87
  go_wp2
  go_loopw [8] (fun i wr => ∃ k : Nat, k ≤ l.length ∧ i = .int .i64 k ∧ Hid (Below w.heap.size w wr) ∧ Hid (∀ j, j < k → (gth l j).i ≠ n)) (fun i _ => l.length - (intOf i).toNat)
  case atStart => exact ⟨0, by omega, rfl, Lib.hid (Below.refl _ _), Lib.hid (fun j h => by omega)⟩
  case round =>
    obtain ⟨k, hk, rfl, hbel, hno⟩ := hrel
    by_cases hlt : k < l.length
    · obtain ⟨rfl, hla, hlm⟩ := HA.out (by omega)
      obtain ⟨c0, c1, c2, c3, c4⟩ := (HL.out.below hbel.out hla) k hlt
      have HPW : Hid (wr.cell? ⟨P, 0, none⟩ = some (.int .i64 n)) := Lib.hid ((hbel.out.cell (p := ⟨P, 0, none⟩) hl).trans HP.out)
      have hlw : P < wr.heap.size := by have := hbel.out.size; omega
      have HIS := Lib.hid (fun h : (gth l k).i = n => idxN_is hlt hno.out h)
      have HNO : Hid (¬ (gth l k).i = n → ∀ j, j < k + 1 → (gth l j).i ≠ n) := Lib.hid (fun h j hj => by
        by_cases e : j = k
        · subst e; exact h
        · exact hno.out j (by omega))
      generalize gth l k = D at *
      go_wp2_with fail
      refine (cloG_c D n P _ HPW.out hlw).mono ?_
      rintro e w1 ⟨rfl, b1⟩
      have HB := Lib.hid (hbel.out.trans (b1.mono hbel.out.size))
      clear b1 c0 c1 c2 c3 c4
      by_cases hst : D.i = n
      · have HX : Hid ((k : Int) = idxV l n) := Lib.hid (by unfold idxV; rw [HIS.out hst, if_pos hlt])
        have t1 : (D.i == n) = true := by simpa using hst
        clear hst
        go_wp2
        go_ret
        exact ⟨ret_ix HX.out, HB.out⟩
      · have HN2 := Lib.hid (HNO.out hst)
        have t1 : (D.i == n) = false := by simpa using hst
        clear hst
        go_wp2
        go_roundw
        case rel => exact ⟨k + 1, by omega, by go_num, HB, HN2⟩
        case measure => simp [intOf]; omega
    · obtain rfl : k = l.length := by omega
      have HX : Hid (-1 = idxV l n) := Lib.hid (by unfold idxV; rw [idxN_none hno.out, if_neg (by omega)])
      go_wp2
      go_ret
      exact ⟨ret_ix HX.out, hbel.out⟩
set_option maxRecDepth 100000 in
set_option maxHeartbeats 2000000 in
theorem cloneM_c (v : Value) (l : List Grp) (w : World) (hr : Rs w v l.length (grps l)) (h0 : 0 < l.length) (hn : l.length ≤ 12) :
    Calls Try.prog 89 #[v] w fun e w' => ∃ g, e = .returned g ∧ w'.ownsRow w.heap.size 25 5 g l.length (grps l) ∧ Below w.heap.size w w' := by
  obtain ⟨i0, hi, hz0, hz1, hz2⟩ := info_parts Try.infoGrp
  have hq := fun (W : World) (a : Option Addr) (n c : Nat) => Lib.run_eql_slice_nil (P := Try.prog) W 35 25 a n c 0 0 Try.underlying35
  obtain ⟨b, off, ca, rfl, hb, hc, hm, hx⟩ := hr.pos (by omega)
  have HX := Lib.hid hx
  have H1 := Lib.hid (grps_one_cell l)
  have hld := grps_len l
  clear hr hx
  go_enter Try.func89, Try.ntmps89
  go_wp2_with (at_builtin; refine wpList_append_any _ rfl _ _ 35 rfl w.heap.size 25 i0 (.agg #[.int .i64 0, .int .i64 0, .int .i64 0, .int .i64 0, .int .i64 0]) 5 40 Try.underlying35 hi hz0 hz1 hz2 rfl (by omega) (.slice (some ⟨w.heap.size, 0, none⟩) 0 0) 0 [] rfl (World.ownsRow_made w #[] 0 (Nat.le_refl _) (by decide) rfl) (some ⟨b, off, none⟩) l.length ca (grps l) rfl hld (fun _ => ⟨_, rfl, fun j u hu => by
    have h := HX.out j u hu
    rw [gs_addr, World.cell?_alloc_past _ _ _ hb]; exact h⟩) H1.out (by unfold maxLen; omega) (by omega) (by simp) ?_; intro v' w3 hown' hgrow _)
  go_ret
  refine ⟨_, rfl, ?_, ((Below.refl _ _).alloc (Nat.le_refl _) _).grown hgrow (by simp) (fun k hk => by simp [Value.ownBlock] at hk; omega)⟩
  rw [show ([] : List Value) ++ grps l = grps l from rfl, Nat.zero_add] at hown'
  exact hown'
/-- The place that is told. -/
noncomputable def giV (l : List Grp) (n : Int) : Int := if grpL l then idxV l n else 0
noncomputable def giOk (l : List Grp) (n : Int) : Bool := grpL l && decide (idxN l n < l.length)
theorem idxV_nn (l : List Grp) (n : Int) : decide (0 ≤ idxV l n) = decide (idxN l n < l.length) := by
  unfold idxV
  by_cases h : idxN l n < l.length
  · rw [if_pos h]; simp [h]
  · rw [if_neg h]; simp [h]
theorem ret_pv {a b : Int} {c d : Bool} (h : a = b) (g : c = d) : Ending.returned (.tuple #[.int .i64 a, .bool c]) = .returned (.tuple #[.int .i64 b, .bool d]) := by rw [h, g]
set_option maxRecDepth 100000 in
set_option maxHeartbeats 4000000 in
theorem gripIndex_c (v : Value) (l : List Grp) (n : Int) (w : World) (hr : Rs w v l.length (grps l)) (hn : l.length ≤ 1048576) :
    Calls Try.prog 70 #[v, .int .i64 n] w fun e w' => e = .returned (.tuple #[.int .i64 (giV l n), .bool (giOk l n)]) ∧ Below w.heap.size w w' := by
  have hmf : ∀ (fn : Fn) (first cap : Array Value) (w : World), (Instr.makeFunc fn first cap).run Try.prog w = .ok (.func fn first cap) w := fun _ _ _ _ => rfl
  have E0 := Lib.hid (fun W h => implAreGrips_c v l W h hn)
  have HR := Lib.hid hr
  clear hr
  cases hk : grpL l with
  | false =>
    rw [hk] at E0
    have HV : Hid (giV l n = 0) := Lib.hid (by simp [giV, hk])
    have HO : Hid (giOk l n = false) := Lib.hid (by simp [giOk, hk])
    clear hk
    go_enter Try.func70, Try.ntmps70
    go_wp2_with fail
    have HB0 : Hid (Below w.heap.size w (w.alloc (.cells #[.int .i64 n] 3))) := Lib.hid ((Below.refl _ _).alloc (Nat.le_refl _) _)
    have hs0 : (w.alloc (.cells #[.int .i64 n] 3)).heap.size = w.heap.size + 1 := by simp
    generalize w.alloc (.cells #[.int .i64 n] 3) = W0 at *
    refine (E0.out _ (HR.out.below HB0.out rfl)).mono ?_
    rintro e w1 ⟨rfl, b1⟩
    have HT1 := Lib.hid (HB0.out.trans (b1.mono (by omega)))
    clear b1
    go_wp2
    go_ret2
    exact ⟨ret_pv HV.out.symm HO.out.symm, HT1.out⟩
  | true =>
    have h12 := (grpL_yes hk).len
    rw [hk] at E0
    have HV : Hid (giV l n = idxV l n) := Lib.hid (by simp [giV, hk])
    have HO : Hid (giOk l n = decide (0 ≤ idxV l n)) := Lib.hid (by rw [idxV_nn]; simp [giOk, hk])
    clear hk
    go_enter Try.func70, Try.ntmps70
    go_wp2_with fail
    have HB0 : Hid (Below w.heap.size w (w.alloc (.cells #[.int .i64 n] 3))) := Lib.hid ((Below.refl _ _).alloc (Nat.le_refl _) _)
    have HP0 : Hid ((w.alloc (.cells #[.int .i64 n] 3)).cell? ⟨w.heap.size, 0, none⟩ = some (.int .i64 n)) := Lib.hid (by rw [World.cell?_alloc_at _ _ _ _ rfl]; rfl)
    have hs0 : (w.alloc (.cells #[.int .i64 n] 3)).heap.size = w.heap.size + 1 := by simp
    generalize w.alloc (.cells #[.int .i64 n] 3) = W0 at *
    refine (E0.out _ (HR.out.below HB0.out rfl)).mono ?_
    rintro e w1 ⟨rfl, b1⟩
    have HT1 := Lib.hid (HB0.out.trans (b1.mono (by omega)))
    have HP1 := Lib.hid ((b1.cell (p := ⟨w.heap.size, 0, none⟩) (by show w.heap.size < _; omega)).trans HP0.out)
    have hsz1 := b1.size
    go_wp2_with fail
    refine (idxF_c v l n w.heap.size _ (HR.out.below HT1.out rfl) h12 HP1.out (by omega)).mono ?_
    rintro e w3 ⟨rfl, b3⟩
    have HT3 := Lib.hid (HT1.out.trans (b3.mono HT1.out.size))
    clear b1 b3
    generalize idxV l n = I at *
    go_wp2
    go_ret2
    exact ⟨ret_pv HV.out.symm HO.out.symm, HT3.out⟩
set_option maxRecDepth 100000 in
set_option maxHeartbeats 4000000 in
theorem l7Find_c (v : Value) (l : List Grp) (n : Int) (w : World) (hr : Rs w v l.length (grps l)) (hn : l.length ≤ 1048576) :
    Calls Try.prog 72 #[v, .int .i64 n] w fun e w' => e = .returned (.int .i64 (idxV l n)) ∧ Below w.heap.size w w' := by
  obtain ⟨ao, a, oa, ca, rfl, hao, hat⟩ := hr.form_Grp
  have HA := Lib.hid hao
  have HL := Lib.hid hat
  clear hr hao hat
  go_enter Try.func72, Try.ntmps72
  go_wp2
  go_loopw [5] (fun i wr => ∃ k : Nat, k ≤ l.length ∧ i = .int .i64 k ∧ Hid (Below w.heap.size w wr) ∧ Hid (∀ j, j < k → (gth l j).i ≠ n)) (fun i _ => l.length - (intOf i).toNat)
  case atStart => exact ⟨0, by omega, rfl, Lib.hid (Below.refl _ _), Lib.hid (fun j h => by omega)⟩
  case round =>
    obtain ⟨k, hk, rfl, hbel, hno⟩ := hrel
    by_cases hlt : k < l.length
    · obtain ⟨rfl, hla, hlm⟩ := HA.out (by omega)
      obtain ⟨c0, c1, c2, c3, c4⟩ := (HL.out.below hbel.out hla) k hlt
      have HIS := Lib.hid (fun h : (gth l k).i = n => idxN_is hlt hno.out h)
      have HNO : Hid (¬ (gth l k).i = n → ∀ j, j < k + 1 → (gth l j).i ≠ n) := Lib.hid (fun h j hj => by
        by_cases e : j = k
        · subst e; exact h
        · exact hno.out j (by omega))
      generalize gth l k = D at *
      by_cases hst : D.i = n
      · have HX : Hid ((k : Int) = idxV l n) := Lib.hid (by unfold idxV; rw [HIS.out hst, if_pos hlt])
        have t1 : (D.i == n) = true := by simpa using hst
        clear hst
        go_wp2
        go_ret
        exact ⟨ret_ix HX.out, hbel.out⟩
      · have HN2 := Lib.hid (HNO.out hst)
        have t1 : (D.i == n) = false := by simpa using hst
        clear hst
        go_wp2
        go_roundw
        case rel => exact ⟨k + 1, by omega, by go_num, hbel, HN2⟩
        case measure => simp [intOf]; omega
    · obtain rfl : k = l.length := by omega
      have HX : Hid (-1 = idxV l n) := Lib.hid (by unfold idxV; rw [idxN_none hno.out, if_neg (by omega)])
      go_wp2
      go_ret
      exact ⟨ret_ix HX.out, hbel.out⟩
set_option maxRecDepth 100000 in
set_option maxHeartbeats 4000000 in
theorem withGrip_c (v : Value) (l : List Grp) (k : Nat) (x : Grp) (w : World) (hr : Rs w v l.length (grps l)) (hn : l.length ≤ 12) (hk : k < l.length) :
    Calls Try.prog 71 #[v, .int .i64 k, .agg #[.int .i64 x.i, .int .i64 x.s, .int .i64 x.w, .int .i64 x.g, .int .i64 x.p]] w fun e w' => ∃ g, e = .returned (.tuple #[g, .bool (isG x)]) ∧ w'.ownsRow w.heap.size 25 5 g (if isG x then l.set k x else []).length (grps (if isG x then l.set k x else [])) ∧ Below w.heap.size w w' := by
  have E0 := Lib.hid (fun W => implIsGrip_c x W)
  have HR := Lib.hid hr
  have HK := Lib.hid (box_Grp w x 25 _ rfl)
  have HB0 := Lib.hid ((Below.refl w.heap.size w).alloc (Nat.le_refl _) (.cells #[.int .i64 x.i, .int .i64 x.s, .int .i64 x.w, .int .i64 x.g, .int .i64 x.p] 25))
  have hs0 : (w.alloc (.cells #[.int .i64 x.i, .int .i64 x.s, .int .i64 x.w, .int .i64 x.g, .int .i64 x.p] 25)).heap.size = w.heap.size + 1 := by simp
  clear hr
  cases hg : isG x with
  | false =>
    rw [hg] at E0
    clear hg
    go_enter Try.func71, Try.ntmps71
    go_wp2_with fail
    generalize w.alloc (.cells #[.int .i64 x.i, .int .i64 x.s, .int .i64 x.w, .int .i64 x.g, .int .i64 x.p] 25) = W0 at *
    refine (E0.out _).mono ?_
    rintro e w1 ⟨rfl, b1⟩
    have HT1 := Lib.hid (HB0.out.trans (b1.mono (by omega)))
    clear b1
    go_wp2
    go_ret2
    exact ⟨_, rfl, World.ownsRow_made _ #[] 0 HT1.out.size (by decide) rfl, HT1.out.alloc HT1.out.size _⟩
  | true =>
    rw [hg] at E0
    clear hg
    go_enter Try.func71, Try.ntmps71
    go_wp2_with fail
    generalize w.alloc (.cells #[.int .i64 x.i, .int .i64 x.s, .int .i64 x.w, .int .i64 x.g, .int .i64 x.p] 25) = W0 at *
    refine (E0.out _).mono ?_
    rintro e w1 ⟨rfl, b1⟩
    have HT1 := Lib.hid (HB0.out.trans (b1.mono (by omega)))
    have HB1 := Lib.hid (b1.mono (by omega : w.heap.size + 1 ≤ W0.heap.size))
    clear b1
    go_wp2_with fail
    refine (cloneM_c v l _ (HR.out.below HT1.out rfl) (by omega) hn).mono ?_
    rintro e w2 ⟨gg, rfl, o2, b2⟩
    have HT2 := Lib.hid (HT1.out.trans (b2.mono HT1.out.size))
    have hsz1 := HB1.out.size
    have HO2 := Lib.hid (own_mono o2 (Nat.le_trans (Nat.le_succ _) (by omega : w.heap.size + 1 ≤ w1.heap.size)))
    rcases own_form o2 with ⟨h0, _⟩ | ⟨g, cg, rfl, hBg1, hgw, hnc, hcm⟩
    · omega
    · have hBg : w.heap.size ≤ g := by omega
      obtain ⟨x0, x1, x2, x3, x4⟩ := HK.out _ (HB1.out.trans (b2.mono (by omega)))
      clear o2 b2
      have k1 : (0 : Int) ≤ (k : Int) := by omega
      have k3 : (k : Int) < (l.length : Int) := by omega
      have hcl : (grps l).length = l.length * 5 := grps_len l
      have y0 := (HO2.out.cellAt (k * 5) (by omega)).trans (List.getElem?_eq_getElem (by omega))
      have n0 := HO2.out.frozenAt (k * 5)
      have y1 := (HO2.out.cellAt (k * 5 + 1) (by omega)).trans (List.getElem?_eq_getElem (by omega))
      have n1 := HO2.out.frozenAt (k * 5 + 1)
      have y2 := (HO2.out.cellAt (k * 5 + 2) (by omega)).trans (List.getElem?_eq_getElem (by omega))
      have n2 := HO2.out.frozenAt (k * 5 + 2)
      have y3 := (HO2.out.cellAt (k * 5 + 3) (by omega)).trans (List.getElem?_eq_getElem (by omega))
      have n3 := HO2.out.frozenAt (k * 5 + 3)
      have y4 := (HO2.out.cellAt (k * 5 + 4) (by omega)).trans (List.getElem?_eq_getElem (by omega))
      have n4 := HO2.out.frozenAt (k * 5 + 4)
      have HST := Lib.hid (((((HO2.out.stored (k * 5) (.int .i64 x.i)).1.stored (k * 5 + 1) (.int .i64 x.s)).1.stored (k * 5 + 2) (.int .i64 x.w)).1.stored (k * 5 + 3) (.int .i64 x.g)).1.stored (k * 5 + 4) (.int .i64 x.p)).1
      rw [grps_set5 l k hk x] at HST
      have HBS := Lib.hid (below_set (below_set (below_set (below_set (below_set HT2.out hBg (k * 5) (.int .i64 x.i)) hBg (k * 5 + 1) (.int .i64 x.s)) hBg (k * 5 + 2) (.int .i64 x.w)) hBg (k * 5 + 3) (.int .i64 x.g)) hBg (k * 5 + 4) (.int .i64 x.p))
      go_wp2
      go_ret2
      refine ⟨_, rfl, ?_, HBS.out⟩
      exact own_lenM HST.out (by simp)
set_option maxRecDepth 100000 in
set_option maxHeartbeats 4000000 in
theorem l7With_c (v : Value) (l : List Grp) (k : Nat) (x : Grp) (w : World) (hr : Rs w v l.length (grps l)) (hn : l.length ≤ 12) (hk : k < l.length) :
    Calls Try.prog 74 #[v, .int .i64 k, .agg #[.int .i64 x.i, .int .i64 x.s, .int .i64 x.w, .int .i64 x.g, .int .i64 x.p]] w fun e w' => ∃ g, e = .returned (.tuple #[g, .bool (grpL (l.set k x))]) ∧ w'.ownsRow w.heap.size 25 5 g (if grpL (l.set k x) then l.set k x else []).length (grps (if grpL (l.set k x) then l.set k x else [])) ∧ Below w.heap.size w w' := by
  obtain ⟨i0, hi, hz0, hz1, hz2⟩ := info_parts Try.infoGrp
  have E0 := Lib.hid (fun V W h => l7Good_c V (l.set k x) W h (by simp; omega))
  have HLS : Hid ((l.set k x).length = l.length) := Lib.hid (by simp)
  have HR := Lib.hid hr
  have HK := Lib.hid (box_Grp w x 25 _ rfl)
  have HB0 := Lib.hid ((Below.refl w.heap.size w).alloc (Nat.le_refl _) (.cells #[.int .i64 x.i, .int .i64 x.s, .int .i64 x.w, .int .i64 x.g, .int .i64 x.p] 25))
  have hs0 : (w.alloc (.cells #[.int .i64 x.i, .int .i64 x.s, .int .i64 x.w, .int .i64 x.g, .int .i64 x.p] 25)).heap.size = w.heap.size + 1 := by simp
  obtain ⟨ad, off, ca, rfl, hb, hc, hm, hx⟩ := hr.pos (by omega)
  have HX := Lib.hid hx
  have H1 := Lib.hid (grps_one_cell l)
  have hld := grps_len l
  clear hr hx

  cases hq : grpL (l.set k x) with
  | false =>
    rw [hq] at E0
    clear hq
    go_enter Try.func74, Try.ntmps74
    go_upto_region 1 with fail
    generalize hW0 : w.alloc (.cells #[.int .i64 x.i, .int .i64 x.s, .int .i64 x.w, .int .i64 x.g, .int .i64 x.p] 25) = W0 at *
    have HS0 := Lib.hid hs0
    clear hs0
    have hb0 : ad < W0.heap.size := by have := HS0.out; omega
    have hle0 : w.heap.size ≤ W0.heap.size := by have := HS0.out; omega
    have HX0 := Lib.hid (fun j u hu => (HB0.out.cell (p := ⟨ad, off + j, none⟩) hb).trans (HX.out j u hu))
    have hown0 := World.ownsRow_made W0 (base := w.heap.size) (e := 25) (size := 5) #[] 0 (by have := HS0.out; omega) (by decide) rfl
    go_upto_region 2 with (at_builtin; go_loud (refine wpList_append_any _ rfl _ _ 35 rfl w.heap.size 25 i0 (.agg #[.int .i64 0, .int .i64 0, .int .i64 0, .int .i64 0, .int .i64 0]) 5 40 Try.underlying35 hi hz0 hz1 hz2 rfl (by omega) (.slice (some ⟨W0.heap.size, 0, none⟩) 0 0) 0 [] rfl hown0 (some ⟨ad, off, none⟩) l.length ca (grps l) rfl hld (fun _ => ⟨_, rfl, fun j u hu => by
      have h := HX0.out j u hu
      rw [gs_addr, World.cell?_alloc_past _ _ _ hb0]; exact h⟩) H1.out (by unfold maxLen; omega) (by omega) (by simp; omega) ?_; intro v' w3 hown' hgrow hat3))
    have hown3 : w3.ownsRow w.heap.size 25 5 v' l.length (grps l) := by rw [show ([] : List Value) ++ grps l = grps l from rfl, Nat.zero_add] at hown'; exact hown'
    have HO2 := Lib.hid hown3
    have hg3 := hgrow
    rcases own_form hown3 with ⟨h0, _⟩ | ⟨g, cg, rfl, hBg, hgw, hnc, hcm⟩
    · omega
    · have hs0 := HS0.out
      have HT2 : Hid (Below w.heap.size w w3) := Lib.hid ((HB0.out.alloc (by omega) _).grown hgrow (by simp; omega) (fun k hk => by simp [Value.ownBlock] at hk; omega))
      have HXC : Hid (∀ j u, W0.cell? ⟨w.heap.size, j, none⟩ = some u → w3.cell? ⟨w.heap.size, j, none⟩ = some u) := Lib.hid (fun j u h => by
        have h1 : (W0.alloc (.cells #[] 25)).cell? ⟨w.heap.size, j, none⟩ = some u := by rw [World.cell?_alloc_past _ _ _ (by omega)]; exact h
        exact hgrow.cell h1 (by simp [Value.ownBlock]; omega))
      obtain ⟨z0, z1, z2, z3, z4⟩ := HK.out W0 (by rw [← hW0]; exact Below.refl _ _)
      have x0 := HXC.out _ _ z0
      have x1 := HXC.out _ _ z1
      have x2 := HXC.out _ _ z2
      have x3 := HXC.out _ _ z3
      have x4 := HXC.out _ _ z4
      clear z0 z1 z2 z3 z4 hgrow hown3 hown' hg3
      have k1 : (0 : Int) ≤ (k : Int) := by omega
      have k3 : (k : Int) < (l.length : Int) := by omega
      have hcl : (grps l).length = l.length * 5 := grps_len l
      have y0 := (HO2.out.cellAt (k * 5) (by omega)).trans (List.getElem?_eq_getElem (by omega))
      have n0 := HO2.out.frozenAt (k * 5)
      have y1 := (HO2.out.cellAt (k * 5 + 1) (by omega)).trans (List.getElem?_eq_getElem (by omega))
      have n1 := HO2.out.frozenAt (k * 5 + 1)
      have y2 := (HO2.out.cellAt (k * 5 + 2) (by omega)).trans (List.getElem?_eq_getElem (by omega))
      have n2 := HO2.out.frozenAt (k * 5 + 2)
      have y3 := (HO2.out.cellAt (k * 5 + 3) (by omega)).trans (List.getElem?_eq_getElem (by omega))
      have n3 := HO2.out.frozenAt (k * 5 + 3)
      have y4 := (HO2.out.cellAt (k * 5 + 4) (by omega)).trans (List.getElem?_eq_getElem (by omega))
      have n4 := HO2.out.frozenAt (k * 5 + 4)
      have HST := Lib.hid (((((HO2.out.stored (k * 5) (.int .i64 x.i)).1.stored (k * 5 + 1) (.int .i64 x.s)).1.stored (k * 5 + 2) (.int .i64 x.w)).1.stored (k * 5 + 3) (.int .i64 x.g)).1.stored (k * 5 + 4) (.int .i64 x.p)).1
      rw [grps_set5 l k hk x] at HST
      have HBS := Lib.hid (below_set (below_set (below_set (below_set (below_set HT2.out hBg (k * 5) (.int .i64 x.i)) hBg (k * 5 + 1) (.int .i64 x.s)) hBg (k * 5 + 2) (.int .i64 x.w)) hBg (k * 5 + 3) (.int .i64 x.g)) hBg (k * 5 + 4) (.int .i64 x.p))
      go_wp2_with fail
      refine (E0.out _ _ (Rs.of_own (by rw [HLS.out]; exact HST.out))).mono ?_
      rintro e w8 ⟨rfl, b8⟩
      have HT8 := Lib.hid (HBS.out.trans (b8.mono HBS.out.size))
      have HO8 := Lib.hid (owns_below HST.out b8)
      clear b8 x0 x1 x2 x3 x4 y0 y1 y2 y3 y4 n0 n1 n2 n3 n4
      go_wp2
      go_ret2
      exact ⟨_, rfl, World.ownsRow_made _ #[] 0 HT8.out.size (by decide) rfl, HT8.out.alloc HT8.out.size _⟩
  | true =>
    rw [hq] at E0
    clear hq
    go_enter Try.func74, Try.ntmps74
    go_upto_region 1 with fail
    generalize hW0 : w.alloc (.cells #[.int .i64 x.i, .int .i64 x.s, .int .i64 x.w, .int .i64 x.g, .int .i64 x.p] 25) = W0 at *
    have HS0 := Lib.hid hs0
    clear hs0
    have hb0 : ad < W0.heap.size := by have := HS0.out; omega
    have hle0 : w.heap.size ≤ W0.heap.size := by have := HS0.out; omega
    have HX0 := Lib.hid (fun j u hu => (HB0.out.cell (p := ⟨ad, off + j, none⟩) hb).trans (HX.out j u hu))
    have hown0 := World.ownsRow_made W0 (base := w.heap.size) (e := 25) (size := 5) #[] 0 (by have := HS0.out; omega) (by decide) rfl
    go_upto_region 2 with (at_builtin; go_loud (refine wpList_append_any _ rfl _ _ 35 rfl w.heap.size 25 i0 (.agg #[.int .i64 0, .int .i64 0, .int .i64 0, .int .i64 0, .int .i64 0]) 5 40 Try.underlying35 hi hz0 hz1 hz2 rfl (by omega) (.slice (some ⟨W0.heap.size, 0, none⟩) 0 0) 0 [] rfl hown0 (some ⟨ad, off, none⟩) l.length ca (grps l) rfl hld (fun _ => ⟨_, rfl, fun j u hu => by
      have h := HX0.out j u hu
      rw [gs_addr, World.cell?_alloc_past _ _ _ hb0]; exact h⟩) H1.out (by unfold maxLen; omega) (by omega) (by simp; omega) ?_; intro v' w3 hown' hgrow hat3))
    have hown3 : w3.ownsRow w.heap.size 25 5 v' l.length (grps l) := by rw [show ([] : List Value) ++ grps l = grps l from rfl, Nat.zero_add] at hown'; exact hown'
    have HO2 := Lib.hid hown3
    have hg3 := hgrow
    rcases own_form hown3 with ⟨h0, _⟩ | ⟨g, cg, rfl, hBg, hgw, hnc, hcm⟩
    · omega
    · have hs0 := HS0.out
      have HT2 : Hid (Below w.heap.size w w3) := Lib.hid ((HB0.out.alloc (by omega) _).grown hgrow (by simp; omega) (fun k hk => by simp [Value.ownBlock] at hk; omega))
      have HXC : Hid (∀ j u, W0.cell? ⟨w.heap.size, j, none⟩ = some u → w3.cell? ⟨w.heap.size, j, none⟩ = some u) := Lib.hid (fun j u h => by
        have h1 : (W0.alloc (.cells #[] 25)).cell? ⟨w.heap.size, j, none⟩ = some u := by rw [World.cell?_alloc_past _ _ _ (by omega)]; exact h
        exact hgrow.cell h1 (by simp [Value.ownBlock]; omega))
      obtain ⟨z0, z1, z2, z3, z4⟩ := HK.out W0 (by rw [← hW0]; exact Below.refl _ _)
      have x0 := HXC.out _ _ z0
      have x1 := HXC.out _ _ z1
      have x2 := HXC.out _ _ z2
      have x3 := HXC.out _ _ z3
      have x4 := HXC.out _ _ z4
      clear z0 z1 z2 z3 z4 hgrow hown3 hown' hg3
      have k1 : (0 : Int) ≤ (k : Int) := by omega
      have k3 : (k : Int) < (l.length : Int) := by omega
      have hcl : (grps l).length = l.length * 5 := grps_len l
      have y0 := (HO2.out.cellAt (k * 5) (by omega)).trans (List.getElem?_eq_getElem (by omega))
      have n0 := HO2.out.frozenAt (k * 5)
      have y1 := (HO2.out.cellAt (k * 5 + 1) (by omega)).trans (List.getElem?_eq_getElem (by omega))
      have n1 := HO2.out.frozenAt (k * 5 + 1)
      have y2 := (HO2.out.cellAt (k * 5 + 2) (by omega)).trans (List.getElem?_eq_getElem (by omega))
      have n2 := HO2.out.frozenAt (k * 5 + 2)
      have y3 := (HO2.out.cellAt (k * 5 + 3) (by omega)).trans (List.getElem?_eq_getElem (by omega))
      have n3 := HO2.out.frozenAt (k * 5 + 3)
      have y4 := (HO2.out.cellAt (k * 5 + 4) (by omega)).trans (List.getElem?_eq_getElem (by omega))
      have n4 := HO2.out.frozenAt (k * 5 + 4)
      have HST := Lib.hid (((((HO2.out.stored (k * 5) (.int .i64 x.i)).1.stored (k * 5 + 1) (.int .i64 x.s)).1.stored (k * 5 + 2) (.int .i64 x.w)).1.stored (k * 5 + 3) (.int .i64 x.g)).1.stored (k * 5 + 4) (.int .i64 x.p)).1
      rw [grps_set5 l k hk x] at HST
      have HBS := Lib.hid (below_set (below_set (below_set (below_set (below_set HT2.out hBg (k * 5) (.int .i64 x.i)) hBg (k * 5 + 1) (.int .i64 x.s)) hBg (k * 5 + 2) (.int .i64 x.w)) hBg (k * 5 + 3) (.int .i64 x.g)) hBg (k * 5 + 4) (.int .i64 x.p))
      go_wp2_with fail
      refine (E0.out _ _ (Rs.of_own (by rw [HLS.out]; exact HST.out))).mono ?_
      rintro e w8 ⟨rfl, b8⟩
      have HT8 := Lib.hid (HBS.out.trans (b8.mono HBS.out.size))
      have HO8 := Lib.hid (owns_below HST.out b8)
      clear b8 x0 x1 x2 x3 x4 y0 y1 y2 y3 y4 n0 n1 n2 n3 n4
      go_wp2
      go_ret2
      exact ⟨_, rfl, (by first | exact HO8.out | exact own_lenM HO8.out HLS.out.symm), HT8.out⟩
end Go.Proofs.Ytiogjocbiagipaa
