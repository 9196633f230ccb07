/- AllHold: the program's and the specification's answer as one function. Condition: sizes. -/
import Derived.Test.YtiogjocbiagipaaDueC
import Derived.Test.YtiogjocbiagipaaHoldC
import Derived.Test.YtiogjocbiagipaaAft
namespace Go.Proofs.Ytiogjocbiagipaa
open Go.RowKit
set_option linter.unusedVariables false
noncomputable def ahIn (l : List Grp) (r : List Int) (s : Int) : Bool := grpL l && decide (r.length = l.length) && inR s 0 100
/-- The cabins of the first k that do not hold. -/
def ahK (l : List Grp) (r : List Int) (s : Int) : Nat → List Int
  | 0 => []
  | k + 1 => if dhB (gth l k) (gth r k) s then ahK l r s k else ahK l r s k ++ [(gth l k).i]
noncomputable def ahOk (l : List Grp) (r : List Int) (s : Int) : Bool := ahIn l r s && r.all (fun x => inR x 100 4000)
noncomputable def ahR (l : List Grp) (r : List Int) (s : Int) : List Int := if ahOk l r s then ahK l r s l.length else []
theorem ah_no {l : List Grp} {r : List Int} {s : Int} (h : ahOk l r s = false) : ahR l r s = [] := by simp [ahR, h]
theorem ah_in {l : List Grp} {r : List Int} {s : Int} (h : ahIn l r s = false) : ahOk l r s = false := by simp [ahOk, h]
theorem ahK_len (l : List Grp) (r : List Int) (s : Int) : ∀ k, (ahK l r s k).length ≤ k
  | 0 => Nat.le_refl _
  | k + 1 => by
    have := ahK_len l r s k
    unfold ahK
    split
    · omega
    · simp; omega
theorem ahR_len (l : List Grp) (r : List Int) (s : Int) : (ahR l r s).length ≤ l.length := by
  unfold ahR
  split
  · exact ahK_len _ _ _ _
  · simp
theorem ahK_yes {l : List Grp} {r : List Int} {s : Int} {k : Nat} (h : dhB (gth l k) (gth r k) s = true) : ahK l r s (k + 1) = ahK l r s k := by simp [ahK, h]
theorem ahK_no {l : List Grp} {r : List Int} {s : Int} {k : Nat} (h : dhB (gth l k) (gth r k) s = false) : ahK l r s (k + 1) = ahK l r s k ++ [(gth l k).i] := by simp [ahK, h]
theorem ah_bad {l : List Grp} {r : List Int} {s : Int} {k : Nat} (hk : k < r.length) (h : inR (gth r k) 100 4000 = false) : ahOk l r s = false := by
  have : r.all (fun x => inR x 100 4000) = false := by
    rw [List.all_eq_false]
    exact ⟨gth r k, gth_mem hk, by simp [h]⟩
  simp [ahOk, this]
theorem ah_end {l : List Grp} {r : List Int} {s : Int} (hi : ahIn l r s = true) (h : ∀ j, j < r.length → inR (gth r j) 100 4000 = true) : ahOk l r s = true ∧ ahR l r s = ahK l r s l.length := by
  have : r.all (fun x => inR x 100 4000) = true := by
    rw [List.all_eq_true]
    intro x hx
    obtain ⟨i, hi, rfl⟩ := List.getElem_of_mem hx
    have := h i hi
    rwa [gth_get hi] at this
  have h2 : ahOk l r s = true := by simp [ahOk, hi, this]
  exact ⟨h2, by simp [ahR, h2]⟩
theorem ah1 {l : List Grp} {r : List Int} {s : Int} (h : grpL l = false) : ahIn l r s = false := by simp [ahIn, h]
theorem ah2 {l : List Grp} {r : List Int} {s : Int} (h : ¬ r.length = l.length) : ahIn l r s = false := by simp [ahIn, h]
theorem ah3 {l : List Grp} {r : List Int} {s : Int} (h : inR s 0 100 = false) : ahIn l r s = false := by simp [ahIn, h]
theorem ah4 {l : List Grp} {r : List Int} {s : Int} (h : grpL l = true) (g : r.length = l.length) (f : inR s 0 100 = true) : ahIn l r s = true := by simp [ahIn, h, g, f]
theorem int_gth {l : List Int} {k : Nat} (h : k < l.length) : (intVs l)[k]? = some (.int .i64 (gth l k)) := by simp [intVs, gth, List.getD, h]
theorem Rd.form_i {w : World} {v : Value} {l : List Int} (h : Rd w v (intVs l)) :
    ∃ ao b off cap, v = .slice ao l.length cap ∧ (0 < l.length → ao = some ⟨b, off, none⟩ ∧ b < w.heap.size ∧ l.length ≤ maxLen ∧ ∀ j, j < l.length → w.cell? ⟨b, off + j, none⟩ = some (.int .i64 (gth l j))) := by
  have hl : (intVs l).length = l.length := by simp [intVs]
  rcases h with ⟨h0, a, cap, rfl⟩ | ⟨b, off, cap, rfl, hlt, hm, hc⟩
  · have : l.length = 0 := by rw [← hl, h0]; rfl
    exact ⟨a, 0, 0, cap, by rw [this], fun h => by omega⟩
  · exact ⟨_, b, off, cap, by rw [hl], fun _ => ⟨rfl, hlt, by omega, fun j hj => hc j _ (int_gth hj)⟩⟩
set_option maxRecDepth 100000 in
set_option maxHeartbeats 4000000 in
theorem implAllHold_c (v : Value) (l : List Grp) (u : Value) (r : List Int) (s : Int) (w : World) (hr : Rs w v l.length (grps l)) (hn : l.length ≤ 1048576) (hu : Rd w u (intVs r)) (hm : r.length ≤ 1048576) (hw : (Lit.int .i64 s).wf = true) :
    Calls Try.prog 35 #[v, u, .int .i64 s] w fun e w' => ∃ g, e = .returned (.tuple #[g, .bool (ahOk l r s)]) ∧ w'.ownsRow w.heap.size 3 1 g (ahR l r s).length (intVs (ahR l r s)) ∧ Below w.heap.size w w' := by
  obtain ⟨i0, hi, hz0, hz1, hz2⟩ := info_parts Try.infoInt7
  have E0 := Lib.hid (fun W h => implAreGrips_c v l W h hn)
  have E1 := Lib.hid (fun W => within_c s 0 100 W)
  have HR := Lib.hid hr
  have HO0 := Lib.hid (World.ownsRow_made w #[] 0 (base := w.heap.size) (e := 3) (size := 1) (Nat.le_refl _) (by decide) rfl)
  have HS0 := Lib.hid ((Below.refl w.heap.size w).alloc (Nat.le_refl _) (.cells #[] 3))
  obtain ⟨ao, a, oa, ca, rfl, hao, hat⟩ := hr.form_Grp
  obtain ⟨bo, b, ob, cb, rfl, hbo⟩ := hu.form_i
  have HA := Lib.hid hao
  have HL := Lib.hid hat
  have HBO := Lib.hid hbo
  clear hr hw hao hat hu hbo
  cases hk : grpL l with
  | false =>
    rw [hk] at E0
    have HN := Lib.hid (ah_in (ah1 (r := r) (s := s) hk))
    clear hk E1
    go_enter Try.func35, Try.ntmps35
    go_wp2_with fail
    refine (E0.out _ HR.out).mono ?_
    rintro e w1 ⟨rfl, b1⟩
    have HT := Lib.hid b1
    clear b1
    go_wp2
    go_ret2
    exact ⟨_, ret_v HN.out.symm, by rw [ah_no HN.out]; exact World.ownsRow_made _ #[] 0 HT.out.size (by decide) rfl, HT.out.alloc HT.out.size _⟩
  | true =>
    by_cases hrl : r.length = l.length
    · skip
      cases hm2 : inR s 0 100 with
      | false =>
        rw [hk] at E0
        rw [hm2] at E1
        have HN := Lib.hid (ah_in (ah3 (l := l) (r := r) hm2))
        have t1 : ((r.length : Int) != (l.length : Int)) = false := by simp; omega
        clear hk hm2
        go_enter Try.func35, Try.ntmps35
        go_wp2_with fail
        refine (E0.out _ HR.out).mono ?_
        rintro e w1 ⟨rfl, b1⟩
        have HT := Lib.hid b1
        clear b1
        go_wp2_with fail
        refine (E1.out _).mono ?_
        rintro e w2 ⟨rfl, rfl⟩
        go_wp2
        go_ret2
        exact ⟨_, ret_v HN.out.symm, by rw [ah_no HN.out]; exact World.ownsRow_made _ #[] 0 HT.out.size (by decide) rfl, HT.out.alloc HT.out.size _⟩
      | true =>
        have hV := grpL_yes hk
        have h12 := hV.len
        have HE := Lib.hid (ah_end (ah4 hk hrl hm2))
        have HBD := Lib.hid (fun k hk => ah_bad (l := l) (r := r) (s := s) (k := k) hk)
        have HG := Lib.hid (fun k hk => (hV.ok k hk).1)
        have HPL := Lib.hid (fun x h => plOk_yes (a := x) (s := s) h hm2)
        have t1 : ((r.length : Int) != (l.length : Int)) = false := by simp; omega
        rw [hk] at E0
        rw [hm2] at E1
        clear hk hm2 hV
        go_enter Try.func35, Try.ntmps35
        go_wp2_with fail
        refine (E0.out _ HR.out).mono ?_
        rintro e w1 ⟨rfl, b1⟩
        have HT := Lib.hid b1
        clear b1
        go_wp2_with fail
        refine (E1.out _).mono ?_
        rintro e w2 ⟨rfl, rfl⟩
        go_wp2
        go_loopw [8, 32] (fun o i wr => ∃ k : Nat, k ≤ l.length ∧ i = .int .i64 k ∧ wr.ownsRow w.heap.size 3 1 o (ahK l r s k).length (intVs (ahK l r s k)) ∧ Hid (Below w.heap.size w wr) ∧ Hid (∀ j, j < k → inR (gth r j) 100 4000 = true)) (fun _ i _ => l.length - (intOf i).toNat)
        case atStart => exact ⟨0, by omega, rfl, World.ownsRow_made w2 #[] 0 HT.out.size (by decide) rfl, Lib.hid (HT.out.alloc HT.out.size _), Lib.hid (fun j h => by omega)⟩
        case round =>
          obtain ⟨k, hk, rfl, hown, hbel, hall⟩ := hrel
          have hbs := hbel.out.size
          have hfl : (ahK l r s k).length ≤ 12 := by have := ahK_len l r s k; omega
          by_cases hlt : k < l.length
          · have hltr : k < r.length := by omega
            obtain ⟨rfl, hla, hlm⟩ := HA.out (by omega)
            obtain ⟨rfl, hlb, hbm, hbc⟩ := HBO.out (by omega)
            have i1 : (k : Int) < (l.length : Int) := by omega
            have i2 : (k : Int) < (r.length : Int) := by omega
            obtain ⟨c0, c1, c2, c3, c4⟩ := (HL.out.below hbel.out hla) k hlt
            have d0 := (hbel.out.cell (p := ⟨b, ob + k, none⟩) hlb).trans (hbc k hltr)
            have HCD := Lib.hid (fun (W : World) (hW : Below w.heap.size w W) => (HL.out.below hW hla) k hlt)
            have HKY := Lib.hid (ahK_yes (l := l) (r := r) (s := s) (k := k))
            have HKN := Lib.hid (ahK_no (l := l) (r := r) (s := s) (k := k))
            have HB := Lib.hid (HBD.out k hltr)
            have hgk := HG.out k hlt
            have hpl := HPL.out (gth r k)
            have HAL : Hid (inR (gth r k) 100 4000 = true → ∀ j, j < k + 1 → inR (gth r j) 100 4000 = true) := Lib.hid (fun h j hj => by
              by_cases e : j = k
              · subst e; exact h
              · exact hall.out j (by omega))
            clear hbc
            generalize gth l k = D at *
            generalize gth r k = X at *
            have hown2 := hown.alloc (.cells #[.int .i64 D.i, .int .i64 D.s, .int .i64 D.w, .int .i64 D.g, .int .i64 D.p] 25)
            have HB2 := Lib.hid (hbel.out.alloc hbs (.cells #[.int .i64 D.i, .int .i64 D.s, .int .i64 D.w, .int .i64 D.g, .int .i64 D.p] 25))
            have E2 := Lib.hid (fun W => implDoesHold_w D X s W)
            have HK := Lib.hid (box_Grp wr D 25 _ rfl)
            have hsz : (wr.alloc (.cells #[.int .i64 D.i, .int .i64 D.s, .int .i64 D.w, .int .i64 D.g, .int .i64 D.p] 25)).heap.size = wr.heap.size + 1 := by simp
            have HB2W := Lib.hid ((Below.refl wr.heap.size wr).alloc (Nat.le_refl _) (.cells #[.int .i64 D.i, .int .i64 D.s, .int .i64 D.w, .int .i64 D.g, .int .i64 D.p] 25))
            have hlbw : b < wr.heap.size := by omega
            cases hx : inR X 100 4000 with
            | false =>
              have hdo : dhOk D X s = false := dh_p (plOk_no1 hx)
              rw [dh_no hdo, hdo] at E2
              have HF := Lib.hid (HB.out hx)
              clear hx hdo hgk hpl
              go_wp2_with fail
              have dbx := HK.out _ (Below.refl _ _)
              generalize wr.alloc (.cells #[.int .i64 D.i, .int .i64 D.s, .int .i64 D.w, .int .i64 D.g, .int .i64 D.p] 25) = W1 at *
              have D0' : ∀ x : Aft W1, x.w.cell? ⟨wr.heap.size, 0, none⟩ = some (.int .i64 D.i) := fun x => x.cell dbx.1
              have D1' : ∀ x : Aft W1, x.w.cell? ⟨wr.heap.size, 1, none⟩ = some (.int .i64 D.s) := fun x => x.cell dbx.2.1
              have D2' : ∀ x : Aft W1, x.w.cell? ⟨wr.heap.size, 2, none⟩ = some (.int .i64 D.w) := fun x => x.cell dbx.2.2.1
              have D3' : ∀ x : Aft W1, x.w.cell? ⟨wr.heap.size, 3, none⟩ = some (.int .i64 D.g) := fun x => x.cell dbx.2.2.2.1
              have D4' : ∀ x : Aft W1, x.w.cell? ⟨wr.heap.size, 4, none⟩ = some (.int .i64 D.p) := fun x => x.cell dbx.2.2.2.2
              have D5' : ∀ x : Aft W1, x.w.cell? ⟨b, ob + k, none⟩ = some (.int .i64 X) := fun x => x.cell ((HB2W.out.cell (p := ⟨b, ob + k, none⟩) hlbw).trans d0)
              clear dbx c0 c1 c2 c3 c4 d0
              refine wp_region_aft (w0 := W1) (by kernel_rfl) (by kernel_rfl) (Below.refl _ _) ?_
              repeat (go_big_quiet_step ((go_at_call 19; exact aft_of (E2.out _))))
              refine wpQuiet_nil ?_
              rintro _ ⟨x3, rfl⟩
              have b3 := x3.below
              have HT3 := Lib.hid (HB2.out.trans (b3.mono HB2.out.size))
              clear b3
              go_wp2
              go_ret2
              exact ⟨_, ret_v HF.out.symm, by rw [ah_no HF.out]; exact World.ownsRow_made _ (base := w.heap.size) (e := 3) (size := 1) #[] 0 HT3.out.size (by decide) rfl, HT3.out.alloc HT3.out.size _⟩
            | true =>
              have hdo : dhOk D X s = true := dh_all (hpl hx) hgk
              rw [dh_yes hdo, hdo] at E2
              have HA2 := Lib.hid (HAL.out hx)
              clear hx hdo hgk hpl
              cases hb : dhB D X s with
              | true =>
                rw [hb] at E2
                have HS := Lib.hid (HKY.out hb)
                clear hb
                go_wp2_with fail
                have dbx := HK.out _ (Below.refl _ _)
                generalize wr.alloc (.cells #[.int .i64 D.i, .int .i64 D.s, .int .i64 D.w, .int .i64 D.g, .int .i64 D.p] 25) = W1 at *
                have D0' : ∀ x : Aft W1, x.w.cell? ⟨wr.heap.size, 0, none⟩ = some (.int .i64 D.i) := fun x => x.cell dbx.1
                have D1' : ∀ x : Aft W1, x.w.cell? ⟨wr.heap.size, 1, none⟩ = some (.int .i64 D.s) := fun x => x.cell dbx.2.1
                have D2' : ∀ x : Aft W1, x.w.cell? ⟨wr.heap.size, 2, none⟩ = some (.int .i64 D.w) := fun x => x.cell dbx.2.2.1
                have D3' : ∀ x : Aft W1, x.w.cell? ⟨wr.heap.size, 3, none⟩ = some (.int .i64 D.g) := fun x => x.cell dbx.2.2.2.1
                have D4' : ∀ x : Aft W1, x.w.cell? ⟨wr.heap.size, 4, none⟩ = some (.int .i64 D.p) := fun x => x.cell dbx.2.2.2.2
                have D5' : ∀ x : Aft W1, x.w.cell? ⟨b, ob + k, none⟩ = some (.int .i64 X) := fun x => x.cell ((HB2W.out.cell (p := ⟨b, ob + k, none⟩) hlbw).trans d0)
                clear dbx c0 c1 c2 c3 c4 d0
                refine wp_region_aft (w0 := W1) (by kernel_rfl) (by kernel_rfl) (Below.refl _ _) ?_
                repeat (go_big_quiet_step ((go_at_call 19; exact aft_of (E2.out _))))
                refine wpQuiet_nil ?_
                rintro _ ⟨x3, rfl⟩
                have b3 := x3.below
                have HT3 := Lib.hid (HB2.out.trans (b3.mono HB2.out.size))
                have hown3 := owns_below hown2 b3
                clear b3
                go_wp2
                go_roundw
                case rel => exact ⟨k + 1, by omega, by go_num, by rw [HS.out]; exact hown3, HT3, HA2⟩
                case measure => simp [intOf]; omega
              | false =>
                rw [hb] at E2
                have HS := Lib.hid (HKN.out hb)
                clear hb
                go_wp2_with fail
                have dbx := HK.out _ (Below.refl _ _)
                generalize wr.alloc (.cells #[.int .i64 D.i, .int .i64 D.s, .int .i64 D.w, .int .i64 D.g, .int .i64 D.p] 25) = W1 at *
                have D0' : ∀ x : Aft W1, x.w.cell? ⟨wr.heap.size, 0, none⟩ = some (.int .i64 D.i) := fun x => x.cell dbx.1
                have D1' : ∀ x : Aft W1, x.w.cell? ⟨wr.heap.size, 1, none⟩ = some (.int .i64 D.s) := fun x => x.cell dbx.2.1
                have D2' : ∀ x : Aft W1, x.w.cell? ⟨wr.heap.size, 2, none⟩ = some (.int .i64 D.w) := fun x => x.cell dbx.2.2.1
                have D3' : ∀ x : Aft W1, x.w.cell? ⟨wr.heap.size, 3, none⟩ = some (.int .i64 D.g) := fun x => x.cell dbx.2.2.2.1
                have D4' : ∀ x : Aft W1, x.w.cell? ⟨wr.heap.size, 4, none⟩ = some (.int .i64 D.p) := fun x => x.cell dbx.2.2.2.2
                have D5' : ∀ x : Aft W1, x.w.cell? ⟨b, ob + k, none⟩ = some (.int .i64 X) := fun x => x.cell ((HB2W.out.cell (p := ⟨b, ob + k, none⟩) hlbw).trans d0)
                clear dbx c0 c1 c2 c3 c4 d0
                refine wp_region_aft (w0 := W1) (by kernel_rfl) (by kernel_rfl) (Below.refl _ _) ?_
                repeat (go_big_quiet_step ((go_at_call 19; exact aft_of (E2.out _))))
                refine wpQuiet_nil ?_
                rintro _ ⟨x3, rfl⟩
                have b3 := x3.below
                have HT3 := Lib.hid (HB2.out.trans (b3.mono HB2.out.size))
                have hown3 := owns_below hown2 b3
                obtain ⟨y0, y1, y2, y3, y4⟩ := HK.out x3.w (b3.mono (by omega))
                clear b3
                have hs3 := HT3.out.size
                go_wp2_with (at_builtin; go_loud (refine wpList_append_own _ rfl _ _ 41 rfl w.heap.size 3 i0 (.int .i64 0) 1 8 Try.underlying41 hi hz0 hz1 hz2 rfl (by decide) _ _ _ rfl (hown3.alloc _) ⟨x3.w.heap.size, 0, none⟩ 1 1 [.int .i64 D.i] rfl rfl (cell_one_new _ _ _) (by simp [Value.oneCell']) (by unfold maxLen; omega) (by omega) (by simp; omega) ?_; intro v' w3 hown' hgrow _))
                go_roundw
                case rel => exact ⟨k + 1, by omega, by go_num, by rw [HS.out]; simpa [intVs] using hown', Lib.hid ((HT3.out.alloc HT3.out.size _).grown hgrow (by simp; omega) (fun j hj => (hown.lt j hj).1)), HA2⟩
                case measure => simp [intOf]; omega
          · obtain rfl : k = l.length := by omega
            have HF := Lib.hid (HE.out (fun j hj => hall.out j (by omega)))
            go_wp2
            go_ret2
            exact ⟨_, ret_v HF.out.1.symm, by rw [HF.out.2]; exact hown, hbel.out⟩
    · skip
      rw [hk] at E0
      have HN := Lib.hid (ah_in (ah2 (s := s) hrl))
      have t1 : ((r.length : Int) != (l.length : Int)) = true := by simp; omega
      clear hk E1
      go_enter Try.func35, Try.ntmps35
      go_wp2_with fail
      refine (E0.out _ HR.out).mono ?_
      rintro e w1 ⟨rfl, b1⟩
      have HT := Lib.hid b1
      clear b1
      go_wp2
      go_ret2
      exact ⟨_, ret_v HN.out.symm, by rw [ah_no HN.out]; exact World.ownsRow_made _ #[] 0 HT.out.size (by decide) rfl, HT.out.alloc HT.out.size _⟩
set_option maxRecDepth 100000 in
set_option maxHeartbeats 4000000 in
theorem specAllHold_c (v : Value) (l : List Grp) (u : Value) (r : List Int) (s : Int) (w : World) (hr : Rs w v l.length (grps l)) (hn : l.length ≤ 1048576) (hu : Rd w u (intVs r)) (hm : r.length ≤ 1048576) (hw : (Lit.int .i64 s).wf = true) :
    Calls Try.prog 36 #[v, u, .int .i64 s] w fun e w' => ∃ g, e = .returned (.tuple #[g, .bool (ahOk l r s)]) ∧ w'.ownsRow w.heap.size 3 1 g (ahR l r s).length (intVs (ahR l r s)) ∧ Below w.heap.size w w' := by
  obtain ⟨i0, hi, hz0, hz1, hz2⟩ := info_parts Try.infoInt7
  have E0 := Lib.hid (fun W h => l7Good_c v l W h hn)
  have E1 := Lib.hid (fun W => l7Slope_c s W)
  have HR := Lib.hid hr
  have HO0 := Lib.hid (World.ownsRow_made w #[] 0 (base := w.heap.size) (e := 3) (size := 1) (Nat.le_refl _) (by decide) rfl)
  have HS0 := Lib.hid ((Below.refl w.heap.size w).alloc (Nat.le_refl _) (.cells #[] 3))
  obtain ⟨ao, a, oa, ca, rfl, hao, hat⟩ := hr.form_Grp
  obtain ⟨bo, b, ob, cb, rfl, hbo⟩ := hu.form_i
  have HA := Lib.hid hao
  have HL := Lib.hid hat
  have HBO := Lib.hid hbo
  clear hr hw hao hat hu hbo
  cases hk : grpL l with
  | false =>
    rw [hk] at E0
    have HN := Lib.hid (ah_in (ah1 (r := r) (s := s) hk))
    clear hk E1
    go_enter Try.func36, Try.ntmps36
    go_wp2_with fail
    refine (E0.out _ (HR.out.below HS0.out rfl)).mono ?_
    rintro e w1 ⟨rfl, b1⟩
    have HT := Lib.hid (HS0.out.trans (b1.mono HS0.out.size))
    have HO1 := Lib.hid (owns_below HO0.out b1)
    clear b1
    go_wp2
    go_ret2
    exact ⟨_, ret_v HN.out.symm, by rw [ah_no HN.out]; exact HO1.out, HT.out⟩
  | true =>
    by_cases hrl : r.length = l.length
    · skip
      cases hm2 : inR s 0 100 with
      | false =>
        rw [hk] at E0
        rw [hm2] at E1
        have HN := Lib.hid (ah_in (ah3 (l := l) (r := r) hm2))
        have t1 : ((r.length : Int) != (l.length : Int)) = false := by simp; omega
        clear hk hm2
        go_enter Try.func36, Try.ntmps36
        go_wp2_with fail
        refine (E0.out _ (HR.out.below HS0.out rfl)).mono ?_
        rintro e w1 ⟨rfl, b1⟩
        have HT := Lib.hid (HS0.out.trans (b1.mono HS0.out.size))
        have HO1 := Lib.hid (owns_below HO0.out b1)
        clear b1
        go_wp2_with fail
        refine (E1.out _).mono ?_
        rintro e w2 ⟨rfl, rfl⟩
        go_wp2
        go_ret2
        exact ⟨_, ret_v HN.out.symm, by rw [ah_no HN.out]; exact HO1.out, HT.out⟩
      | true =>
        have hV := grpL_yes hk
        have h12 := hV.len
        have HE := Lib.hid (ah_end (ah4 hk hrl hm2))
        have HBD := Lib.hid (fun k hk => ah_bad (l := l) (r := r) (s := s) (k := k) hk)
        have HG := Lib.hid (fun k hk => (hV.ok k hk).1)
        have HPL := Lib.hid (fun x h => plOk_yes (a := x) (s := s) h hm2)
        have t1 : ((r.length : Int) != (l.length : Int)) = false := by simp; omega
        rw [hk] at E0
        rw [hm2] at E1
        clear hk hm2 hV
        go_enter Try.func36, Try.ntmps36
        go_wp2_with fail
        refine (E0.out _ (HR.out.below HS0.out rfl)).mono ?_
        rintro e w1 ⟨rfl, b1⟩
        have HT := Lib.hid (HS0.out.trans (b1.mono HS0.out.size))
        have HO1 := Lib.hid (owns_below HO0.out b1)
        clear b1
        go_wp2_with fail
        refine (E1.out _).mono ?_
        rintro e w2 ⟨rfl, rfl⟩
        go_wp2
        go_loopw [8, 9] (fun o i wr => ∃ k : Nat, k ≤ l.length ∧ i = .int .i64 k ∧ wr.ownsRow w.heap.size 3 1 o (ahK l r s k).length (intVs (ahK l r s k)) ∧ Hid (Below w.heap.size w wr) ∧ Hid (∀ j, j < k → inR (gth r j) 100 4000 = true)) (fun _ i _ => l.length - (intOf i).toNat)
        case atStart => exact ⟨0, by omega, rfl, HO1.out, HT, Lib.hid (fun j h => by omega)⟩
        case round =>
          obtain ⟨k, hk, rfl, hown, hbel, hall⟩ := hrel
          have hbs := hbel.out.size
          have hfl : (ahK l r s k).length ≤ 12 := by have := ahK_len l r s k; omega
          by_cases hlt : k < l.length
          · have hltr : k < r.length := by omega
            obtain ⟨rfl, hla, hlm⟩ := HA.out (by omega)
            obtain ⟨rfl, hlb, hbm, hbc⟩ := HBO.out (by omega)
            have i1 : (k : Int) < (l.length : Int) := by omega
            have i2 : (k : Int) < (r.length : Int) := by omega
            obtain ⟨c0, c1, c2, c3, c4⟩ := (HL.out.below hbel.out hla) k hlt
            have d0 := (hbel.out.cell (p := ⟨b, ob + k, none⟩) hlb).trans (hbc k hltr)
            have HCD := Lib.hid (fun (W : World) (hW : Below w.heap.size w W) => (HL.out.below hW hla) k hlt)
            have HKY := Lib.hid (ahK_yes (l := l) (r := r) (s := s) (k := k))
            have HKN := Lib.hid (ahK_no (l := l) (r := r) (s := s) (k := k))
            have HB := Lib.hid (HBD.out k hltr)
            have hgk := HG.out k hlt
            have hpl := HPL.out (gth r k)
            have HAL : Hid (inR (gth r k) 100 4000 = true → ∀ j, j < k + 1 → inR (gth r j) 100 4000 = true) := Lib.hid (fun h j hj => by
              by_cases e : j = k
              · subst e; exact h
              · exact hall.out j (by omega))
            clear hbc
            generalize gth l k = D at *
            generalize gth r k = X at *
            have E2 := Lib.hid (fun W => l7Load_c X W)
            cases hx : inR X 100 4000 with
            | false =>
              rw [hx] at E2
              have HF := Lib.hid (HB.out hx)
              clear hx hgk hpl
              go_wp2_with fail
              refine (E2.out _).mono ?_
              rintro e w3 ⟨rfl, rfl⟩
              go_wp2
              go_ret2
              exact ⟨_, ret_v HF.out.symm, by rw [ah_no HF.out]; exact World.ownsRow_made _ (base := w.heap.size) (e := 3) (size := 1) #[] 0 hbs (by decide) rfl, hbel.out.alloc hbs _⟩
            | true =>
              have hp := hpl hx
              rw [hx] at E2
              have HA2 := Lib.hid (HAL.out hx)
              have E3 := Lib.hid (fun W => l7Holds_c D X s W hp)
              clear hx hgk hpl hp
              cases hb : dhB D X s with
              | true =>
                rw [hb] at E3
                have HS := Lib.hid (HKY.out hb)
                clear hb
                go_wp2_with fail
                refine (E2.out _).mono ?_
                rintro e w3 ⟨rfl, rfl⟩
                go_wp2_with fail
                have D0' : ∀ x : Aft w3, x.w.cell? ⟨a, oa + k * 5, none⟩ = some (.int .i64 D.i) := fun x => x.cell c0
                have D1' : ∀ x : Aft w3, x.w.cell? ⟨a, oa + k * 5 + 1, none⟩ = some (.int .i64 D.s) := fun x => x.cell c1
                have D2' : ∀ x : Aft w3, x.w.cell? ⟨a, oa + k * 5 + 2, none⟩ = some (.int .i64 D.w) := fun x => x.cell c2
                have D3' : ∀ x : Aft w3, x.w.cell? ⟨a, oa + k * 5 + 3, none⟩ = some (.int .i64 D.g) := fun x => x.cell c3
                have D4' : ∀ x : Aft w3, x.w.cell? ⟨a, oa + k * 5 + 4, none⟩ = some (.int .i64 D.p) := fun x => x.cell c4
                have D5' : ∀ x : Aft w3, x.w.cell? ⟨b, ob + k, none⟩ = some (.int .i64 X) := fun x => x.cell d0
                clear c0 c1 c2 c3 c4 d0
                refine wp_region_aft (w0 := w3) (by kernel_rfl) (by kernel_rfl) (Below.refl _ _) ?_
                repeat (go_big_quiet_step ((go_at_call 61; exact aft_of (E3.out _))))
                refine wpQuiet_nil ?_
                rintro _ ⟨x3, rfl⟩
                have b3 := x3.below
                have HT3 := Lib.hid (hbel.out.trans (b3.mono hbs))
                have hown3 := owns_below hown b3
                clear b3
                go_wp2
                go_roundw
                case rel => exact ⟨k + 1, by omega, by go_num, by rw [HS.out]; exact hown3, HT3, HA2⟩
                case measure => simp [intOf]; omega
              | false =>
                rw [hb] at E3
                have HS := Lib.hid (HKN.out hb)
                clear hb
                go_wp2_with fail
                refine (E2.out _).mono ?_
                rintro e w3 ⟨rfl, rfl⟩
                go_wp2_with fail
                have D0' : ∀ x : Aft w3, x.w.cell? ⟨a, oa + k * 5, none⟩ = some (.int .i64 D.i) := fun x => x.cell c0
                have D1' : ∀ x : Aft w3, x.w.cell? ⟨a, oa + k * 5 + 1, none⟩ = some (.int .i64 D.s) := fun x => x.cell c1
                have D2' : ∀ x : Aft w3, x.w.cell? ⟨a, oa + k * 5 + 2, none⟩ = some (.int .i64 D.w) := fun x => x.cell c2
                have D3' : ∀ x : Aft w3, x.w.cell? ⟨a, oa + k * 5 + 3, none⟩ = some (.int .i64 D.g) := fun x => x.cell c3
                have D4' : ∀ x : Aft w3, x.w.cell? ⟨a, oa + k * 5 + 4, none⟩ = some (.int .i64 D.p) := fun x => x.cell c4
                have D5' : ∀ x : Aft w3, x.w.cell? ⟨b, ob + k, none⟩ = some (.int .i64 X) := fun x => x.cell d0
                clear c0 c1 c2 c3 c4 d0
                refine wp_region_aft (w0 := w3) (by kernel_rfl) (by kernel_rfl) (Below.refl _ _) ?_
                repeat (go_big_quiet_step ((go_at_call 61; exact aft_of (E3.out _))))
                refine wpQuiet_nil ?_
                rintro _ ⟨x3, rfl⟩
                have b3 := x3.below
                have HT3 := Lib.hid (hbel.out.trans (b3.mono hbs))
                have hown3 := owns_below hown b3
                clear b3
                obtain ⟨c0, c1, c2, c3, c4⟩ := HCD.out _ HT3.out
                have hs3 := HT3.out.size
                go_wp2_with (at_builtin; go_loud (refine wpList_append_own _ rfl _ _ 41 rfl w.heap.size 3 i0 (.int .i64 0) 1 8 Try.underlying41 hi hz0 hz1 hz2 rfl (by decide) _ _ _ rfl (hown3.alloc _) ⟨x3.w.heap.size, 0, none⟩ 1 1 [.int .i64 D.i] rfl rfl (cell_one_new _ _ _) (by simp [Value.oneCell']) (by unfold maxLen; omega) (by omega) (by simp; omega) ?_; intro v' w3 hown' hgrow _))
                go_roundw
                case rel => exact ⟨k + 1, by omega, by go_num, by rw [HS.out]; simpa [intVs] using hown', Lib.hid ((HT3.out.alloc HT3.out.size _).grown hgrow (by simp; omega) (fun j hj => (hown.lt j hj).1)), HA2⟩
                case measure => simp [intOf]; omega
          · obtain rfl : k = l.length := by omega
            have HF := Lib.hid (HE.out (fun j hj => hall.out j (by omega)))
            go_wp2
            go_ret2
            exact ⟨_, ret_v HF.out.1.symm, by rw [HF.out.2]; exact hown, hbel.out⟩
    · skip
      rw [hk] at E0
      have HN := Lib.hid (ah_in (ah2 (s := s) hrl))
      have t1 : ((r.length : Int) != (l.length : Int)) = true := by simp; omega
      clear hk E1
      go_enter Try.func36, Try.ntmps36
      go_wp2_with fail
      refine (E0.out _ (HR.out.below HS0.out rfl)).mono ?_
      rintro e w1 ⟨rfl, b1⟩
      have HT := Lib.hid (HS0.out.trans (b1.mono HS0.out.size))
      have HO1 := Lib.hid (owns_below HO0.out b1)
      clear b1
      go_wp2
      go_ret2
      exact ⟨_, ret_v HN.out.symm, by rw [ah_no HN.out]; exact HO1.out, HT.out⟩
end Go.Proofs.Ytiogjocbiagipaa
