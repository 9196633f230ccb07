/- DueTests: the program's and the specification's answer as one function. Condition: sizes. -/
import Derived.Test.YtiogjocbiagipaaGrpMath
import Derived.Test.YtiogjocbiagipaaIntS
import Derived.Deep.AppendLies
namespace Go.Proofs.Ytiogjocbiagipaa
open Go.RowKit
set_option linter.unusedVariables false
theorem Try.infoInt7 : (Try.prog.info? 3).map (fun i => (i.zero, i.size, i.bytes)) = some (some (.int .i64 0), 1, 8) := by kernel_rfl
/-- It must be tested on day d. -/
def due (d : Int) (k : Grp) : Bool := decide (10 < k.w) || decide (5000 ≤ k.g) || decide (90 < d - k.p)
noncomputable def duIn (l : List Grp) (d : Int) : Bool := grpL l && inR d 0 9999
noncomputable def duOk (l : List Grp) (d : Int) : Bool := duIn l d && l.all (fun k => decide (k.p ≤ d))
noncomputable def duR (l : List Grp) (d : Int) : List Int := if duOk l d then nums (l.filter (due d)) else []
theorem du_no {l : List Grp} {d : Int} (h : duOk l d = false) : duR l d = [] := by simp [duR, h]
theorem du_in {l : List Grp} {d : Int} (h : duIn l d = false) : duOk l d = false := by simp [duOk, h]
theorem du_bad {l : List Grp} {d : Int} {k : Nat} (hk : k < l.length) (h : d < (gth l k).p) : duOk l d = false := by
  have : l.all (fun k => decide (k.p ≤ d)) = false := by
    rw [List.all_eq_false]
    exact ⟨gth l k, gth_mem hk, by simp; omega⟩
  simp [duOk, this]
theorem du_end {l : List Grp} {d : Int} (hi : duIn l d = true) (h : ∀ j, j < l.length → (gth l j).p ≤ d) : duOk l d = true ∧ duR l d = nums (l.filter (due d)) := by
  have : l.all (fun k => decide (k.p ≤ d)) = true := by
    rw [List.all_eq_true]
    intro x hx
    obtain ⟨i, hi, rfl⟩ := List.getElem_of_mem hx
    have := h i hi
    rw [gth_get hi] at this
    simpa using this
  have h2 : duOk l d = true := by simp [duOk, hi, this]
  exact ⟨h2, by simp [duR, h2]⟩
theorem duR_len (l : List Grp) (d : Int) : (duR l d).length ≤ l.length := by
  unfold duR
  split
  · rw [nums_len]; exact List.length_filter_le _ _
  · simp
theorem nums_yes {l : List Grp} {d : Int} {k : Nat} (h : k < l.length) (g : due d (gth l k) = true) : nums ((l.take (k + 1)).filter (due d)) = nums ((l.take k).filter (due d)) ++ [(gth l k).i] := by rw [filt_yes h g, nums_one]
theorem nums_no {l : List Grp} {d : Int} {k : Nat} (h : k < l.length) (g : due d (gth l k) = false) : nums ((l.take (k + 1)).filter (due d)) = nums ((l.take k).filter (due d)) := by rw [filt_no h g]
theorem due_w {d : Int} {k : Grp} (h : 10 < k.w) : due d k = true := by simp [due, h]
theorem due_g {d : Int} {k : Grp} (h : 5000 ≤ k.g) : due d k = true := by simp [due, h]
theorem due_p {d : Int} {k : Grp} (h : 90 < d - k.p) : due d k = true := by simp [due, h]
theorem due_not {d : Int} {k : Grp} (h1 : ¬ 10 < k.w) (h2 : ¬ 5000 ≤ k.g) (h3 : ¬ 90 < d - k.p) : due d k = false := by simp [due]; omega
set_option maxRecDepth 100000 in
set_option maxHeartbeats 4000000 in
theorem implDueTests_c (v : Value) (l : List Grp) (d : Int) (w : World) (hr : Rs w v l.length (grps l)) (hn : l.length ≤ 1048576) (hw : (Lit.int .i64 d).wf = true) :
    Calls Try.prog 28 #[v, .int .i64 d] w fun e w' => ∃ g, e = .returned (.tuple #[g, .bool (duOk l d)]) ∧ w'.ownsRow w.heap.size 3 1 g (duR l d).length (intVs (duR l d)) ∧ Below w.heap.size w w' := by
  obtain ⟨i0, hi, hz0, hz1, hz2⟩ := info_parts Try.infoInt7
  have E0 := Lib.hid (fun W h => implAreGrips_c v l W h hn)
  have E1 := Lib.hid (fun W => within_c d 0 9999 W)
  have HR := Lib.hid hr
  have hd : duIn l d = (grpL l && inR d 0 9999) := rfl
  have HO0 := Lib.hid (World.ownsRow_made w #[] 0 (base := w.heap.size) (e := 3) (size := 1) (Nat.le_refl _) (by decide) rfl)
  have HS0 := Lib.hid ((Below.refl w.heap.size w).alloc (Nat.le_refl _) (.cells #[] 3))
  obtain ⟨ao, a, oa, ca, rfl, hao, hat⟩ := hr.form_Grp
  have HA := Lib.hid hao
  have HL := Lib.hid hat
  clear hr hw hao hat
  cases hk : grpL l with
  | false =>
    rw [hk] at E0 hd
    have HN := Lib.hid (du_in (l := l) (d := d) (by rw [hd]; rfl))
    clear hk hd E1
    go_enter Try.func28, Try.ntmps28
    go_wp2_with fail
    refine (E0.out _ HR.out).mono ?_
    rintro e w1 ⟨rfl, b1⟩
    have HT := Lib.hid b1
    clear b1
    go_wp2
    go_ret2
    exact ⟨_, ret_v HN.out.symm, by rw [du_no HN.out]; exact World.ownsRow_made _ #[] 0 HT.out.size (by decide) rfl, HT.out.alloc HT.out.size _⟩
  | true =>
    cases hm : inR d 0 9999 with
    | false =>
      rw [hk] at E0
      rw [hm] at E1
      rw [hk, hm] at hd
      have HN := Lib.hid (du_in (l := l) (d := d) (by rw [hd]; rfl))
      clear hk hm hd
      go_enter Try.func28, Try.ntmps28
      go_wp2_with fail
      refine (E0.out _ HR.out).mono ?_
      rintro e w1 ⟨rfl, b1⟩
      have HT := Lib.hid b1
      clear b1
      go_wp2_with fail
      refine (E1.out _).mono ?_
      rintro e w2 ⟨rfl, rfl⟩
      go_wp2
      go_ret2
      exact ⟨_, ret_v HN.out.symm, by rw [du_no HN.out]; exact World.ownsRow_made _ #[] 0 HT.out.size (by decide) rfl, HT.out.alloc HT.out.size _⟩
    | true =>
      have hV := grpL_yes hk
      have h12 := hV.len
      have hdd := (inR_iff d 0 9999).1 hm
      rw [hk] at E0
      rw [hm] at E1
      rw [hk, hm] at hd
      have HE := Lib.hid (du_end (l := l) (d := d) (by rw [hd]; rfl))
      have HBD := Lib.hid (fun k hk => du_bad (l := l) (d := d) (k := k) hk)
      have HOK := Lib.hid (fun k hk => (isG_iff _).1 (hV.ok k hk).1)
      clear hk hm hd hV
      go_enter Try.func28, Try.ntmps28
      go_wp2_with fail
      refine (E0.out _ HR.out).mono ?_
      rintro e w1 ⟨rfl, b1⟩
      have HT := Lib.hid b1
      clear b1
      go_wp2_with fail
      refine (E1.out _).mono ?_
      rintro e w2 ⟨rfl, rfl⟩
      go_wp2
      go_loopw [6, 21] (fun o i wr => ∃ k : Nat, k ≤ l.length ∧ i = .int .i64 k ∧ wr.ownsRow w.heap.size 3 1 o (nums ((l.take k).filter (due d))).length (intVs (nums ((l.take k).filter (due d)))) ∧ Hid (Below w.heap.size w wr) ∧ Hid (∀ j, j < k → (gth l j).p ≤ d)) (fun _ i _ => l.length - (intOf i).toNat)
      case atStart => exact ⟨0, by omega, rfl, World.ownsRow_made w2 #[] 0 HT.out.size (by decide) rfl, Lib.hid (HT.out.alloc HT.out.size _), Lib.hid (fun j h => by omega)⟩
      case round =>
        obtain ⟨k, hk, rfl, hown, hbel, hall⟩ := hrel
        have hbs := hbel.out.size
        have hfl : (nums ((l.take k).filter (due d))).length ≤ 12 := by rw [nums_len]; have := filt_len' (due d) l k; omega
        by_cases hlt : k < l.length
        · obtain ⟨rfl, hla, hlm⟩ := HA.out (by omega)
          obtain ⟨c0, c1, c2, c3, c4⟩ := (HL.out.below hbel.out hla) k hlt
          have HY := Lib.hid (nums_yes (l := l) (d := d) hlt)
          have HN := Lib.hid (nums_no (l := l) (d := d) hlt)
          have HB := Lib.hid (HBD.out k hlt)
          have hok := HOK.out k hlt
          have HAL : Hid ((gth l k).p ≤ d → ∀ j, j < k + 1 → (gth l j).p ≤ d) := Lib.hid (fun h j hj => by
            by_cases e : j = k
            · subst e; exact h
            · exact hall.out j (by omega))
          generalize gth l k = D at *
          have hown2 := hown.alloc (.cells #[.int .i64 D.i, .int .i64 D.s, .int .i64 D.w, .int .i64 D.g, .int .i64 D.p] 25)
          have HB2 := Lib.hid (hbel.out.alloc hbs (.cells #[.int .i64 D.i, .int .i64 D.s, .int .i64 D.w, .int .i64 D.g, .int .i64 D.p] 25))
          have e1 : IntKind.i64.wrap (d - D.p) = d - D.p := IntWalk.i64_in _ (by omega)
          by_cases h0 : d < D.p
          · have HF := Lib.hid (HB.out h0)
            have t0 : decide (d < D.p) = true := by simpa using h0
            clear h0 hok
            go_wp2
            go_ret2
            exact ⟨_, ret_v HF.out.symm, by rw [du_no HF.out]; have h := World.ownsRow_made (wr.alloc (.cells #[.int .i64 D.i, .int .i64 D.s, .int .i64 D.w, .int .i64 D.g, .int .i64 D.p] 25)) (base := w.heap.size) (e := 3) (size := 1) #[] 0 HB2.out.size (by decide) rfl; rw [show (wr.alloc (.cells #[.int .i64 D.i, .int .i64 D.s, .int .i64 D.w, .int .i64 D.g, .int .i64 D.p] 25)).heap.size = wr.heap.size + 1 from by simp] at h; exact h, HB2.out.alloc HB2.out.size _⟩
          · have t0 : decide (d < D.p) = false := by simpa using h0
            have HA2 := Lib.hid (HAL.out (by omega))
            by_cases h1 : 10 < D.w
            · have t1 : decide (10 < D.w) = true := by simpa using h1
              have HS := Lib.hid (HY.out (due_w h1))
              clear h0 h1 hok
              go_wp2_with (at_builtin; refine wpList_append_own _ rfl _ _ 41 rfl w.heap.size 3 i0 (.int .i64 0) 1 8 Try.underlying41 hi hz0 hz1 hz2 rfl (by decide) _ _ _ rfl (hown2.alloc _) ⟨wr.heap.size + 1, 0, none⟩ 1 1 [.int .i64 D.i] rfl rfl (by simpa using cell_one_new (wr.alloc _) _ _) (by simp [Value.oneCell']) (by unfold maxLen; omega) (by omega) (by simp; omega) ?_; intro v' w3 hown' hgrow _)
              go_roundw
              case rel => exact ⟨k + 1, by omega, by go_num, by rw [HS.out]; simpa [intVs] using hown', Lib.hid ((HB2.out.alloc HB2.out.size _).grown hgrow (by simp; omega) (fun j hj => (hown.lt j hj).1)), HA2⟩
              case measure => simp [intOf]; omega
            · have t1 : decide (10 < D.w) = false := by simpa using h1
              by_cases h2 : 5000 ≤ D.g
              · have t2 : decide (5000 ≤ D.g) = true := by simpa using h2
                have HS := Lib.hid (HY.out (due_g h2))
                clear h0 h1 h2 hok
                go_wp2_with (at_builtin; refine wpList_append_own _ rfl _ _ 41 rfl w.heap.size 3 i0 (.int .i64 0) 1 8 Try.underlying41 hi hz0 hz1 hz2 rfl (by decide) _ _ _ rfl (hown2.alloc _) ⟨wr.heap.size + 1, 0, none⟩ 1 1 [.int .i64 D.i] rfl rfl (by simpa using cell_one_new (wr.alloc _) _ _) (by simp [Value.oneCell']) (by unfold maxLen; omega) (by omega) (by simp; omega) ?_; intro v' w3 hown' hgrow _)
                go_roundw
                case rel => exact ⟨k + 1, by omega, by go_num, by rw [HS.out]; simpa [intVs] using hown', Lib.hid ((HB2.out.alloc HB2.out.size _).grown hgrow (by simp; omega) (fun j hj => (hown.lt j hj).1)), HA2⟩
                case measure => simp [intOf]; omega
              · have t2 : decide (5000 ≤ D.g) = false := by simpa using h2
                by_cases h3 : 90 < d - D.p
                · have t3 : decide (90 < d - D.p) = true := by simpa using h3
                  have HS := Lib.hid (HY.out (due_p h3))
                  clear h0 h1 h2 h3 hok
                  go_wp2_with (at_builtin; refine wpList_append_own _ rfl _ _ 41 rfl w.heap.size 3 i0 (.int .i64 0) 1 8 Try.underlying41 hi hz0 hz1 hz2 rfl (by decide) _ _ _ rfl (hown2.alloc _) ⟨wr.heap.size + 1, 0, none⟩ 1 1 [.int .i64 D.i] rfl rfl (by simpa using cell_one_new (wr.alloc _) _ _) (by simp [Value.oneCell']) (by unfold maxLen; omega) (by omega) (by simp; omega) ?_; intro v' w3 hown' hgrow _)
                  go_roundw
                  case rel => exact ⟨k + 1, by omega, by go_num, by rw [HS.out]; simpa [intVs] using hown', Lib.hid ((HB2.out.alloc HB2.out.size _).grown hgrow (by simp; omega) (fun j hj => (hown.lt j hj).1)), HA2⟩
                  case measure => simp [intOf]; omega
                · have t3 : decide (90 < d - D.p) = false := by simpa using h3
                  have HS := Lib.hid (HN.out (due_not h1 h2 h3))
                  clear h0 h1 h2 h3 hok
                  go_wp2
                  go_roundw
                  case rel => exact ⟨k + 1, by omega, by go_num, by rw [HS.out]; exact hown2, HB2, HA2⟩
                  case measure => simp [intOf]; omega
        · obtain rfl : k = l.length := by omega
          rw [List.take_length] at hown
          have HF := Lib.hid (HE.out hall.out)
          go_wp2
          go_ret2
          exact ⟨_, ret_v HF.out.1.symm, by rw [HF.out.2]; exact hown, hbel.out⟩
set_option maxRecDepth 100000 in
set_option maxHeartbeats 4000000 in
theorem specDueTests_c (v : Value) (l : List Grp) (d : Int) (w : World) (hr : Rs w v l.length (grps l)) (hn : l.length ≤ 1048576) (hw : (Lit.int .i64 d).wf = true) :
    Calls Try.prog 32 #[v, .int .i64 d] w fun e w' => ∃ g, e = .returned (.tuple #[g, .bool (duOk l d)]) ∧ w'.ownsRow w.heap.size 3 1 g (duR l d).length (intVs (duR l d)) ∧ Below w.heap.size w w' := by
  obtain ⟨i0, hi, hz0, hz1, hz2⟩ := info_parts Try.infoInt7
  have E0 := Lib.hid (fun W h => l7Good_c v l W h hn)
  have E1 := Lib.hid (fun W => l7Day_c d W)
  have HR := Lib.hid hr
  have hd : duIn l d = (grpL l && inR d 0 9999) := rfl
  have HO0 := Lib.hid (World.ownsRow_made w #[] 0 (base := w.heap.size) (e := 3) (size := 1) (Nat.le_refl _) (by decide) rfl)
  have HS0 := Lib.hid ((Below.refl w.heap.size w).alloc (Nat.le_refl _) (.cells #[] 3))
  obtain ⟨ao, a, oa, ca, rfl, hao, hat⟩ := hr.form_Grp
  have HA := Lib.hid hao
  have HL := Lib.hid hat
  clear hr hw hao hat
  cases hk : grpL l with
  | false =>
    rw [hk] at E0 hd
    have HN := Lib.hid (du_in (l := l) (d := d) (by rw [hd]; rfl))
    clear hk hd E1
    go_enter Try.func32, Try.ntmps32
    go_wp2_with fail
    refine (E0.out _ (HR.out.below HS0.out rfl)).mono ?_
    rintro e w1 ⟨rfl, b1⟩
    have HT := Lib.hid (HS0.out.trans (b1.mono HS0.out.size))
    have HO1 := Lib.hid (owns_below HO0.out b1)
    clear b1
    go_wp2
    go_ret2
    exact ⟨_, ret_v HN.out.symm, by rw [du_no HN.out]; exact HO1.out, HT.out⟩
  | true =>
    cases hm : inR d 0 9999 with
    | false =>
      rw [hk] at E0
      rw [hm] at E1
      rw [hk, hm] at hd
      have HN := Lib.hid (du_in (l := l) (d := d) (by rw [hd]; rfl))
      clear hk hm hd
      go_enter Try.func32, Try.ntmps32
      go_wp2_with fail
      refine (E0.out _ (HR.out.below HS0.out rfl)).mono ?_
      rintro e w1 ⟨rfl, b1⟩
      have HT := Lib.hid (HS0.out.trans (b1.mono HS0.out.size))
      have HO1 := Lib.hid (owns_below HO0.out b1)
      clear b1
      go_wp2_with fail
      refine (E1.out _).mono ?_
      rintro e w2 ⟨rfl, rfl⟩
      go_wp2
      go_ret2
      exact ⟨_, ret_v HN.out.symm, by rw [du_no HN.out]; exact HO1.out, HT.out⟩
    | true =>
      have hV := grpL_yes hk
      have h12 := hV.len
      have hdd := (inR_iff d 0 9999).1 hm
      rw [hk] at E0
      rw [hm] at E1
      rw [hk, hm] at hd
      have HE := Lib.hid (du_end (l := l) (d := d) (by rw [hd]; rfl))
      have HBD := Lib.hid (fun k hk => du_bad (l := l) (d := d) (k := k) hk)
      have HOK := Lib.hid (fun k hk => (isG_iff _).1 (hV.ok k hk).1)
      clear hk hm hd hV
      go_enter Try.func32, Try.ntmps32
      go_wp2_with fail
      refine (E0.out _ (HR.out.below HS0.out rfl)).mono ?_
      rintro e w1 ⟨rfl, b1⟩
      have HT := Lib.hid (HS0.out.trans (b1.mono HS0.out.size))
      have HO1 := Lib.hid (owns_below HO0.out b1)
      clear b1
      go_wp2_with fail
      refine (E1.out _).mono ?_
      rintro e w2 ⟨rfl, rfl⟩
      go_wp2
      go_loopw [6, 7] (fun o i wr => ∃ k : Nat, k ≤ l.length ∧ i = .int .i64 k ∧ wr.ownsRow w.heap.size 3 1 o (nums ((l.take k).filter (due d))).length (intVs (nums ((l.take k).filter (due d)))) ∧ Hid (Below w.heap.size w wr) ∧ Hid (∀ j, j < k → (gth l j).p ≤ d)) (fun _ i _ => l.length - (intOf i).toNat)
      case atStart => exact ⟨0, by omega, rfl, HO1.out, HT, Lib.hid (fun j h => by omega)⟩
      case round =>
        obtain ⟨k, hk, rfl, hown, hbel, hall⟩ := hrel
        have hbs := hbel.out.size
        have hfl : (nums ((l.take k).filter (due d))).length ≤ 12 := by rw [nums_len]; have := filt_len' (due d) l k; omega
        by_cases hlt : k < l.length
        · obtain ⟨rfl, hla, hlm⟩ := HA.out (by omega)
          obtain ⟨c0, c1, c2, c3, c4⟩ := (HL.out.below hbel.out hla) k hlt
          have HY := Lib.hid (nums_yes (l := l) (d := d) hlt)
          have HN := Lib.hid (nums_no (l := l) (d := d) hlt)
          have HB := Lib.hid (HBD.out k hlt)
          have hok := HOK.out k hlt
          have HAL : Hid ((gth l k).p ≤ d → ∀ j, j < k + 1 → (gth l j).p ≤ d) := Lib.hid (fun h j hj => by
            by_cases e : j = k
            · subst e; exact h
            · exact hall.out j (by omega))
          generalize gth l k = D at *
          have hown2 := hown.alloc (.cells #[.int .i64 D.i, .int .i64 D.s, .int .i64 D.w, .int .i64 D.g, .int .i64 D.p] 25)
          have HB2 := Lib.hid (hbel.out.alloc hbs (.cells #[.int .i64 D.i, .int .i64 D.s, .int .i64 D.w, .int .i64 D.g, .int .i64 D.p] 25))
          have e1 : IntKind.i64.wrap (d - D.p) = d - D.p := IntWalk.i64_in _ (by omega)
          by_cases h0 : d < D.p
          · have HF := Lib.hid (HB.out h0)
            have t0 : decide (d < D.p) = true := by simpa using h0
            clear h0 hok
            go_wp2
            go_ret2
            exact ⟨_, ret_v HF.out.symm, by rw [du_no HF.out]; have h := World.ownsRow_made (wr.alloc (.cells #[.int .i64 D.i, .int .i64 D.s, .int .i64 D.w, .int .i64 D.g, .int .i64 D.p] 25)) (base := w.heap.size) (e := 3) (size := 1) #[] 0 HB2.out.size (by decide) rfl; rw [show (wr.alloc (.cells #[.int .i64 D.i, .int .i64 D.s, .int .i64 D.w, .int .i64 D.g, .int .i64 D.p] 25)).heap.size = wr.heap.size + 1 from by simp] at h; exact h, HB2.out.alloc HB2.out.size _⟩
          · have t0 : decide (d < D.p) = false := by simpa using h0
            have HA2 := Lib.hid (HAL.out (by omega))
            by_cases h1 : 10 < D.w
            · have t1 : decide (10 < D.w) = true := by simpa using h1
              have HS := Lib.hid (HY.out (due_w h1))
              clear h0 h1 hok
              go_wp2_with (at_builtin; refine wpList_append_own _ rfl _ _ 41 rfl w.heap.size 3 i0 (.int .i64 0) 1 8 Try.underlying41 hi hz0 hz1 hz2 rfl (by decide) _ _ _ rfl (hown2.alloc _) ⟨wr.heap.size + 1, 0, none⟩ 1 1 [.int .i64 D.i] rfl rfl (by simpa using cell_one_new (wr.alloc _) _ _) (by simp [Value.oneCell']) (by unfold maxLen; omega) (by omega) (by simp; omega) ?_; intro v' w3 hown' hgrow _)
              go_roundw
              case rel => exact ⟨k + 1, by omega, by go_num, by rw [HS.out]; simpa [intVs] using hown', Lib.hid ((HB2.out.alloc HB2.out.size _).grown hgrow (by simp; omega) (fun j hj => (hown.lt j hj).1)), HA2⟩
              case measure => simp [intOf]; omega
            · have t1 : decide (10 < D.w) = false := by simpa using h1
              by_cases h2 : 5000 ≤ D.g
              · have t2 : decide (5000 ≤ D.g) = true := by simpa using h2
                have HS := Lib.hid (HY.out (due_g h2))
                clear h0 h1 h2 hok
                go_wp2_with (at_builtin; refine wpList_append_own _ rfl _ _ 41 rfl w.heap.size 3 i0 (.int .i64 0) 1 8 Try.underlying41 hi hz0 hz1 hz2 rfl (by decide) _ _ _ rfl (hown2.alloc _) ⟨wr.heap.size + 1, 0, none⟩ 1 1 [.int .i64 D.i] rfl rfl (by simpa using cell_one_new (wr.alloc _) _ _) (by simp [Value.oneCell']) (by unfold maxLen; omega) (by omega) (by simp; omega) ?_; intro v' w3 hown' hgrow _)
                go_roundw
                case rel => exact ⟨k + 1, by omega, by go_num, by rw [HS.out]; simpa [intVs] using hown', Lib.hid ((HB2.out.alloc HB2.out.size _).grown hgrow (by simp; omega) (fun j hj => (hown.lt j hj).1)), HA2⟩
                case measure => simp [intOf]; omega
              · have t2 : decide (5000 ≤ D.g) = false := by simpa using h2
                by_cases h3 : 90 < d - D.p
                · have t3 : decide (90 < d - D.p) = true := by simpa using h3
                  have HS := Lib.hid (HY.out (due_p h3))
                  clear h0 h1 h2 h3 hok
                  go_wp2_with (at_builtin; refine wpList_append_own _ rfl _ _ 41 rfl w.heap.size 3 i0 (.int .i64 0) 1 8 Try.underlying41 hi hz0 hz1 hz2 rfl (by decide) _ _ _ rfl (hown2.alloc _) ⟨wr.heap.size + 1, 0, none⟩ 1 1 [.int .i64 D.i] rfl rfl (by simpa using cell_one_new (wr.alloc _) _ _) (by simp [Value.oneCell']) (by unfold maxLen; omega) (by omega) (by simp; omega) ?_; intro v' w3 hown' hgrow _)
                  go_roundw
                  case rel => exact ⟨k + 1, by omega, by go_num, by rw [HS.out]; simpa [intVs] using hown', Lib.hid ((HB2.out.alloc HB2.out.size _).grown hgrow (by simp; omega) (fun j hj => (hown.lt j hj).1)), HA2⟩
                  case measure => simp [intOf]; omega
                · have t3 : decide (90 < d - D.p) = false := by simpa using h3
                  have HS := Lib.hid (HN.out (due_not h1 h2 h3))
                  clear h0 h1 h2 h3 hok
                  go_wp2
                  go_roundw
                  case rel => exact ⟨k + 1, by omega, by go_num, by rw [HS.out]; exact hown2, HB2, HA2⟩
                  case measure => simp [intOf]; omega
        · obtain rfl : k = l.length := by omega
          rw [List.take_length] at hown
          have HF := Lib.hid (HE.out hall.out)
          go_wp2
          go_ret2
          exact ⟨_, ret_v HF.out.1.symm, by rw [HF.out.2]; exact hown, hbel.out⟩
end Go.Proofs.Ytiogjocbiagipaa
