/- Queues with groups: spec.l13Cabins: the number of the cabin of each group. Condition: sizes. -/
import Derived.Test.YtkjdkfoeolcnkaaQuL
import Derived.Test.YtkjdkfoeolcnkaaCabMath15
namespace Go.Proofs.Ytkjdkfoeolcnkaa
open Go.RowKit
set_option linter.unusedVariables false
/-- The rows of the walk: the answer, who waits, who is left, who gets in. -/
structure CbI (B n : Nat) (W : World) (out left rest inn : Value) (xo : List Int) (L R : List Nat) (I : List Int) : Prop where
  oo : W.ownsRow B 3 1 out n (intVs xo)
  ol : W.ownsRow B 3 1 left L.length (intVs (nIs L))
  orr : W.ownsRow B 3 1 rest R.length (intVs (nIs R))
  oi : W.ownsRow B 3 1 inn I.length (intVs I)
  a1 : Apt13 out left
  a2 : Apt13 out rest
  a3 : Apt13 out inn
  a4 : Apt13 left rest
  a6 : Apt13 rest inn
theorem CbI.below {B n : Nat} {W W' : World} {out left rest inn : Value} {xo : List Int} {L R : List Nat} {I : List Int} (h : CbI B n W out left rest inn xo L R I) (hb : Below W.heap.size W W') : CbI B n W' out left rest inn xo L R I :=
  ⟨own_below h.oo hb, own_below h.ol hb, own_below h.orr hb, own_below h.oi hb, h.a1, h.a2, h.a3, h.a4, h.a6⟩
theorem CbI.store {B n : Nat} {W : World} {g cap : Nat} {left rest inn : Value} {xo : List Int} {L R : List Nat} {I : List Int} (h : CbI B n W (.slice (some ⟨g, 0, none⟩) n cap) left rest inn xo L R I) (k : Nat) (x : Int) :
    CbI B n (W.setCell ⟨g, k, none⟩ (.int .i64 x)) (.slice (some ⟨g, 0, none⟩) n cap) left rest inn (xo.set k x) L R I := by
  have hs := h.oo.stored k (.int .i64 x)
  have e : (intVs xo).set k (.int .i64 x) = intVs (xo.set k x) := by simp [intVs, List.map_set]
  rw [e] at hs
  have hg : W.grownBy (W.setCell ⟨g, k, none⟩ (.int .i64 x)) (Value.slice (some ⟨g, 0, none⟩) n cap).ownBlock := hs.2
  exact ⟨hs.1, own_apt h.ol hg h.a1.symm, own_apt h.orr hg h.a2.symm, own_apt h.oi hg h.a3.symm, h.a1, h.a2, h.a3, h.a4, h.a6⟩
theorem CbI.push {B n : Nat} {W W' : World} {out left rest rest' inn : Value} {xo : List Int} {L R : List Nat} {I : List Int} {k : Nat} (h : CbI B n W out left rest inn xo L R I)
    (hg : W.grownBy W' rest.ownBlock) (ho : W'.ownsRow B 3 1 rest' (R.length + 1) (intVs (nIs R) ++ [.int .i64 (k : Int)])) (hat : rest'.ownBlock = rest.ownBlock ∨ rest'.ownBlock = some W.heap.size) : CbI B n W' out left rest' inn xo L (R ++ [k]) I := by
  refine ⟨own_apt h.oo hg h.a2, own_apt h.ol hg h.a4, ?_, own_apt h.oi hg h.a6.symm, h.a1, ?_, h.a3, ?_, ?_⟩
  · rw [nIs_one, List.length_append]; exact ho
  · rcases hat with e | e
    · exact apt_eq h.a2 e
    · exact apt_lt h.oo e (Nat.le_refl _)
  · rcases hat with e | e
    · exact apt_eq h.a4 e
    · exact apt_lt h.ol e (Nat.le_refl _)
  · rcases hat with e | e
    · exact (apt_eq h.a6.symm e).symm
    · exact (apt_lt h.oi e (Nat.le_refl _)).symm
theorem nIs_cell {w : World} {B g cap : Nat} {L : List Nat} (h : w.ownsRow B 3 1 (.slice (some ⟨g, 0, none⟩) L.length cap) L.length (intVs (nIs L))) {j : Nat} (hj : j < L.length) : w.cell? ⟨g, j, none⟩ = some (.int .i64 ((gth L j : Nat) : Int)) := by
  rw [h.cellAt j (by omega), int_at (by rw [nIs_len]; exact hj), nIs_at hj]
theorem fill_as {l : List Gro} {s : Int} (ha : asQ l s = true) (L : List Nat) (hL : L.length ≤ 12) (hsub : ∀ i, i ∈ L → i < l.length) (v : Value) (w : World) (hr : Rs w v (smQ l L).length (gros (smQ l L))) :
    Calls Try.prog 60 #[v, .int .i64 s] w fun e w' => ∃ g I, e = .returned g ∧ I.length ≤ 12 ∧ (∀ j, j < L.length → I.contains (j : Int) = inL13 (szQ l) (qkQ l) s L j) ∧ w'.ownsRow w.heap.size 3 1 g I.length (intVs I) ∧ Below w.heap.size w w' := by
  have hs := as_s ha
  refine (l13Fill_c v (smQ l L) s w hr (by rw [smQ_len]; exact hL) ⟨by omega, by omega⟩ (fun i hi => ?_)).mono ?_
  · rw [smQ_len] at hi
    rw [(smQ_sz hi).1]
    exact is_bd (as_is ha) _ (hsub _ (gth_mem hi))
  · rintro e w' ⟨g, rfl, ho, hb⟩
    refine ⟨g, _, rfl, ?_, fun j hj => smQ_has hj, ho, hb⟩
    have := ix13_len (in13 (szQ (smQ l L)) (qkQ (smQ l L)) (smQ l L).length s) (smQ l L).length
    rw [smQ_len] at this ⊢
    omega
theorem grown_step13 {W1 wr w3 : World} {P : Nat} {v : Value} {o : Obj} (h : W1.grownBy wr (some P)) (g : (wr.alloc o).grownBy w3 v.ownBlock) (hv : ∀ b, v.ownBlock = some b → b = P ∨ W1.heap.size ≤ b) : W1.grownBy w3 (some P) := by
  have hs := h.size
  have hz : (wr.alloc o).heap.size = wr.heap.size + 1 := by simp
  have hgs := g.size
  refine ⟨g.os.trans h.os, g.tape.trans h.tape, g.output.trans h.output, by omega, fun k hk hne => ?_⟩
  rw [g.block k (by omega) (fun e => by
    rcases hv k e.symm with e2 | e2
    · exact hne (by rw [e2])
    · omega), heap_alloc_old wr _ (by omega), h.block k hk hne]
set_option maxRecDepth 100000 in
set_option maxHeartbeats 8000000 in
theorem l13Cabins_c (v : Value) (l : List Gro) (s : Int) (w : World) (hr : Rs w v l.length (gros l)) (ha : asQ l s = true) :
    Calls Try.prog 66 #[v, .int .i64 s] w fun e w' => ∃ g, e = .returned g ∧ w'.ownsRow w.heap.size 3 1 g l.length (intVs (cbL l s)) ∧ Below w.heap.size w w' := by
  obtain ⟨i0, hi, hz0, hz1, hz2⟩ := info_parts Try.infoIntR
  obtain ⟨k0, hki, hkz0, hkz1, hkz2⟩ := info_parts Try.infoGro
  have hl12 : l.length ≤ 12 := is_len (as_is ha)
  have HFILL := Lib.hid (fun c W u hu => fill_as ha (lfQ l s c) (by have := lfQ_len l s c; omega) (fun i hi => lf13_sub c hi) u W hu)
  have HSUB : Hid (∀ c j, j < (lfQ l s c).length → gth (lfQ l s c) j < l.length) := Lib.hid (fun c j hj => lf13_sub c (gth_mem hj))
  have HLT : Hid (∀ c, lfQ l s c ≠ [] → (lfQ l s (c + 1)).length < (lfQ l s c).length) := Lib.hid (fun c h => out13_lt h fun i hi => as_fit ha i (lf13_sub c hi))
  have HLEN := Lib.hid (fun c => lfQ_len l s c)
  have HEND := Lib.hid (fun c => ojL_end ha c)
  have HLAST : Hid (∀ c, lfQ l s c = [] → ocL l s c = cbL l s) := Lib.hid (fun c h => ocL_last h)
  have HZERO := Lib.hid (ocL_zero l s)
  have HYES : Hid (∀ c j, inL13 (szQ l) (qkQ l) s (lfQ l s c) j = true → ojL l s c (j + 1) = (ojL l s c j).set (gth (lfQ l s c) j) (c : Int)) := Lib.hid (fun c j h => ojL_yes h)
  have HNO : Hid (∀ c j, inL13 (szQ l) (qkQ l) s (lfQ l s c) j = false → ojL l s c (j + 1) = ojL l s c j) := Lib.hid (fun c j h => ojL_no h)
  have HJ0 : Hid (∀ c, ojL l s c 0 = ocL l s c) := Lib.hid (fun c => rfl)
  have HNX : Hid (∀ c, gs13 (lfQ l s c) (fun j => !inL13 (szQ l) (qkQ l) s (lfQ l s c) j) (lfQ l s c).length = lfQ l s (c + 1)) := Lib.hid (fun c => rfl)
  have HLF0 : Hid (lfQ l s 0 = List.range l.length) := Lib.hid rfl
  obtain ⟨ao, a, oa, ca, rfl, hao, hat⟩ := hr.form_Gro
  have HA := Lib.hid hao
  have HL := Lib.hid hat
  clear hr hao hat ha
  go_enter Try.func66, Try.ntmps66
  go_upto_region 2 with (at_make; refine wpList_make_full _ rfl _ _ 31 rfl w.heap.size 3 i0 (.int .i64 0) 1 Try.underlying31 hi hz0 hz1 _ _ _ _ l.length rfl rfl rfl rfl (by rw [hz2]; omega) (by unfold maxLen; omega) (Nat.le_refl _) ?_; intro w0 hown0 hgrow0)
  have HO0 : Hid (w0.ownsRow w.heap.size 3 1 (.slice (some ⟨w.heap.size, 0, none⟩) l.length l.length) l.length (intVs (ocL l s 0))) := Lib.hid (by
    rw [HZERO.out]
    have h := hown0
    rw [Nat.mul_one] at h
    simpa [toList_madeCells_one, intVs, Value.cells] using h)
  have HB0 : Hid (Below w.heap.size w w0) := Lib.hid ((Below.refl _ _).grown hgrow0 (Nat.le_refl _) (fun k h => by cases h))
  have hs0 := HB0.out.size
  have HX0 : Hid (w.heap.size < w0.heap.size) := Lib.hid (by have := (HO0.out.lt w.heap.size rfl).2; exact this)
  clear hown0 hgrow0
  go_wp2
  go_loopw [6, 7] (fun o i wr => ∃ k : Nat, k ≤ l.length ∧ i = .int .i64 k ∧ wr.ownsRow w.heap.size 3 1 o k (intVs (nIs (List.range k))) ∧ Hid (wr.ownsRow w.heap.size 3 1 (.slice (some ⟨w.heap.size, 0, none⟩) l.length l.length) l.length (intVs (ocL l s 0))) ∧ Hid (Apt13 (.slice (some ⟨w.heap.size, 0, none⟩) l.length l.length) o) ∧ Hid (Below w.heap.size w wr)) (fun _ i _ => l.length - (intOf i).toNat)
  case atStart => exact ⟨0, by omega, rfl, World.ownsRow_made w0 #[] 0 hs0 (by decide) rfl, Lib.hid (HO0.out.alloc _), Lib.hid (apt_lt HO0.out (S := w0.heap.size) rfl (Nat.le_refl _)), Lib.hid (HB0.out.alloc hs0 _)⟩
  case round =>
    obtain ⟨k, hk, rfl, hown, hout, happ, hbel⟩ := hrel
    have hbs := hbel.out.size
    by_cases hlt : k < l.length
    · have HY := Lib.hid (nIs_range k)
      generalize nIs (List.range k) = L0 at *
      go_wp2_with (at_builtin; go_loud (refine wpList_append_any _ rfl _ _ 31 rfl w.heap.size 3 i0 (.int .i64 0) 1 8 Try.underlying31 hi hz0 hz1 hz2 rfl (by decide) _ _ _ rfl (hown.alloc _) (some ⟨wr.heap.size, 0, none⟩) 1 1 [.int .i64 (k : Int)] rfl rfl (fun _ => ⟨_, rfl, cell_one_new _ _ _⟩) (by simp [Value.oneCell']) (by unfold maxLen; omega) (by omega) (by simp; omega) ?_; intro v3 w3 hown3 hgrow3 hat3; have HO3 := Lib.hid hown3; have HB3 := Lib.hid ((hbel.out.alloc hbs _).grown hgrow3 (by simp; omega) (fun j hj => (hown.lt j hj).1)); have HU3 := Lib.hid (own_apt (hout.out.alloc _) hgrow3 happ.out); have HP3 : Hid (Apt13 (.slice (some ⟨w.heap.size, 0, none⟩) l.length l.length) v3) := Lib.hid (by rcases hat3 with h | h; exact apt_eq happ.out h; exact apt_lt hout.out h (by simp)); clear hown3 hgrow3 hat3))
      go_roundw
      case rel => exact ⟨k + 1, by omega, by go_num, by rw [HY.out]; simpa [intVs] using HO3.out, HU3, HP3, HB3⟩
      case measure => simp [intOf]; omega
    · obtain rfl : k = l.length := by omega
      have HOL : Hid (wr.ownsRow w.heap.size 3 1 _ (lfQ l s 0).length (intVs (nIs (lfQ l s 0)))) := Lib.hid (by rw [HLF0.out, List.length_range]; exact hown)
      have hlen0 : (lfQ l s 0).length = l.length := by rw [HLF0.out, List.length_range]
      clear hown
      go_wp2
      go_loopw [6, 8] (fun left ci wr => ∃ c : Nat, ci = .int .i64 c ∧ Hid (wr.ownsRow w.heap.size 3 1 left (lfQ l s c).length (intVs (nIs (lfQ l s c)))) ∧ Hid (wr.ownsRow w.heap.size 3 1 (.slice (some ⟨w.heap.size, 0, none⟩) l.length l.length) l.length (intVs (ocL l s c))) ∧ Hid (Apt13 (.slice (some ⟨w.heap.size, 0, none⟩) l.length l.length) left) ∧ Hid ((lfQ l s c).length + c ≤ l.length) ∧ Hid (Below w.heap.size w wr)) (fun left _ _ => sl13 left)
      case atStart => exact ⟨0, rfl, HOL, hout, happ, Lib.hid (by rw [hlen0]; omega), hbel⟩
      case round =>
        obtain ⟨c, rfl, hol, hout, happ, hcb, hbel⟩ := hrel
        have hbs := hbel.out.size
        have hcb' := hcb.out
        by_cases h0 : lfQ l s c = []
        · have HF := Lib.hid (HLAST.out c h0)
          have ho := hol.out
          rw [h0] at ho
          obtain ⟨xa, xc, hx⟩ := (Rs.of_own ho).zero
          subst hx
          clear ho h0 hcb'
          go_wp2
          go_ret
          exact ⟨_, rfl, by rw [← HF.out]; exact hout.out, hbel.out⟩
        · have hpos : 0 < (lfQ l s c).length := List.length_pos_iff.2 h0
          have hlt := HLT.out c h0
          rcases own_form hol.out with ⟨e, _⟩ | ⟨gl, cl, hgl, hgB, hgw, hnc, hcm⟩
          · omega
          · subst hgl
            have t1 : decide ((0 : Int) < ((lfQ l s c).length : Int)) = true := by simp; omega
            have hgne : gl ≠ w.heap.size := fun e => happ.out w.heap.size rfl (by rw [← e]; rfl)
            go_upto_region 11 with fail
            obtain ⟨P, hP⟩ : ∃ P, P = wr.heap.size := ⟨_, rfl⟩
            rw [← hP]
            have HS1 : Hid (((wr.alloc (.cells #[] 34)).alloc (.cells #[] 3)).ownsRow P 34 2 (.slice (some ⟨P, 0, none⟩) 0 0) 0 []) := Lib.hid (by rw [hP]; exact (World.ownsRow_made wr #[] 0 (Nat.le_refl _) (by decide) rfl).alloc _)
            have HR1 : Hid (((wr.alloc (.cells #[] 34)).alloc (.cells #[] 3)).ownsRow w.heap.size 3 1 (.slice (some ⟨P + 1, 0, none⟩) 0 0) 0 []) := Lib.hid (by
              have h := World.ownsRow_made (wr.alloc (.cells #[] 34)) #[] 0 (base := w.heap.size) (e := 3) (size := 1) (by simp; omega) (by decide) rfl
              rw [show (wr.alloc (.cells #[] 34)).heap.size = P + 1 by simp [hP]] at h
              exact h)
            have HU1 := Lib.hid ((hout.out.alloc (.cells #[] 34)).alloc (.cells #[] 3))
            have HF1 := Lib.hid ((hol.out.alloc (.cells #[] 34)).alloc (.cells #[] 3))
            have HB1 := Lib.hid ((hbel.out.alloc hbs (.cells #[] 34)).alloc (by simp; omega) (.cells #[] 3))
            have hz1s : P + 2 ≤ ((wr.alloc (.cells #[] 34)).alloc (.cells #[] 3)).heap.size := by simp [hP]
            have hGP : w.heap.size < P := by rw [hP]; exact (hout.out.lt w.heap.size rfl).2
            have hglP : gl < P := by rw [hP]; exact hgw
            generalize (wr.alloc (.cells #[] 34)).alloc (.cells #[] 3) = W1 at *
            have HXO : Hid (∀ W, W1.grownBy W (some P) → W.ownsRow w.heap.size 3 1 (.slice (some ⟨w.heap.size, 0, none⟩) l.length l.length) l.length (intVs (ocL l s c))) := Lib.hid (fun W h => HU1.out.kept h (.inr (fun e => by simp [Value.ownBlock] at e; omega)))
            have HXL : Hid (∀ W, W1.grownBy W (some P) → W.ownsRow w.heap.size 3 1 (.slice (some ⟨gl, 0, none⟩) (lfQ l s c).length cl) (lfQ l s c).length (intVs (nIs (lfQ l s c)))) := Lib.hid (fun W h => HF1.out.kept h (.inr (fun e => by simp [Value.ownBlock] at e; omega)))
            have HXR : Hid (∀ W, W1.grownBy W (some P) → W.ownsRow w.heap.size 3 1 (.slice (some ⟨P + 1, 0, none⟩) 0 0) 0 []) := Lib.hid (fun W h => HR1.out.kept h (.inr (fun e => by simp [Value.ownBlock] at e)))
            have HXB : Hid (∀ W, W1.grownBy W (some P) → Below w.heap.size w W) := Lib.hid (fun W h => HB1.out.grown h HB1.out.size (fun y hy => by simp at hy; omega))
            clear hP hout hol HU1 HF1 HR1 HB1
            go_wp2
            go_loopw [9, 11] (fun o ji wx => ∃ j : Nat, j ≤ (lfQ l s c).length ∧ ji = .int .i64 j ∧ Hid (wx.ownsRow P 34 2 o j (gros (smQ l ((lfQ l s c).take j)))) ∧ Hid (W1.grownBy wx (some P)) ∧ Hid (∀ b, o.ownBlock = some b → b = P ∨ W1.heap.size ≤ b)) (fun _ ji _ => (lfQ l s c).length - (intOf ji).toNat)
            case atStart => exact ⟨0, by omega, rfl, HS1, Lib.hid (World.grownBy.refl _ _), Lib.hid (fun b hb => by simp [Value.ownBlock] at hb; exact .inl hb.symm)⟩
            case round =>
              obtain ⟨j, hj, rfl, hso, hgr, hbb⟩ := hrel
              have hlen12 := HLEN.out c
              by_cases hjl : j < (lfQ l s c).length
              · obtain ⟨rfl, hla, hlm⟩ := HA.out (by omega)
                have hsub := HSUB.out c j hjl
                have cl0 := nIs_cell (HXL.out wr hgr.out) hjl
                have hbw := HXB.out wr hgr.out
                obtain ⟨c0, c1⟩ := (HL.out.below hbw hla) (gth (lfQ l s c) j) hsub
                have HST := Lib.hid (smQ_take (l := l) hjl)
                have hws := hgr.out.size
                have hwb := hbw.size
                have hsl : (smQ l ((lfQ l s c).take j)).length ≤ 12 := by rw [smQ_len, List.length_take]; omega
                have HGS := Lib.hid (gros_snoc (smQ l ((lfQ l s c).take j)) (gth l (gth (lfQ l s c) j)))
                generalize gth l (gth (lfQ l s c) j) = D at *
                generalize gth (lfQ l s c) j = I at *
                generalize smQ l ((lfQ l s c).take j) = A0 at *
                clear hbw
                go_wp2_with (at_builtin; go_loud (refine wpList_append_any _ rfl _ _ 24 rfl P 34 k0 (.agg #[.int .i64 0, .bool false]) 2 16 Try.underlying24 hki hkz0 hkz1 hkz2 rfl (by decide) _ _ _ rfl (hso.out.alloc _) (some ⟨wr.heap.size, 0, none⟩) 1 1 [.int .i64 D.z, .bool D.q] rfl rfl (fun _ => ⟨_, rfl, World.news_of_block (cs := #[.int .i64 D.z, .bool D.q]) (t := 34) (fr := (0, 0)) (heap_alloc_new wr _)⟩) (by simp [Value.oneCell']) (by unfold maxLen; omega) (by omega) (by simp; omega) ?_; intro v3 w3 hown3 hgrow3 hat3; have HO3 := Lib.hid hown3; have HG3 := Lib.hid (grown_step13 hgr.out hgrow3 hbb.out); have HB3 : Hid (∀ b, v3.ownBlock = some b → b = P ∨ W1.heap.size ≤ b) := Lib.hid (fun b hb => by rcases hat3 with h | h; exact hbb.out b (h.symm.trans hb); (rw [h] at hb; simp at hb; omega)); clear hown3 hgrow3 hat3))
                go_roundw
                case rel => exact ⟨j + 1, by omega, by go_num, Lib.hid (by rw [HST.out, HGS.out]; exact HO3.out), HG3, HB3⟩
                case measure => simp [intOf]; omega
              · obtain rfl : j = (lfQ l s c).length := by omega
                have HSO : Hid (Rs wr _ (smQ l (lfQ l s c)).length (gros (smQ l (lfQ l s c)))) := Lib.hid (by
                  have h := Rs.of_own hso.out
                  rw [List.take_length] at h
                  rw [smQ_len]; exact h)
                have HU2 := Lib.hid (HXO.out wr hgr.out)
                have HF2 := Lib.hid (HXL.out wr hgr.out)
                have HR2 := Lib.hid (HXR.out wr hgr.out)
                have HB2 := Lib.hid (HXB.out wr hgr.out)
                have hb2s := HB2.out.size
                have HFC := Lib.hid (HFILL.out c wr _ HSO.out)
                clear HSO hso
                go_wp2_with fail
                refine (HFC.out).mono ?_
                rintro e w4 ⟨inn, I, rfl, hI12, hIc, oI, b4⟩
                have HIC := Lib.hid hIc
                have HB4 := Lib.hid (HB2.out.trans (b4.mono hb2s))
                have HCB : Hid (CbI w.heap.size l.length w4 (.slice (some ⟨w.heap.size, 0, none⟩) l.length l.length) (.slice (some ⟨gl, 0, none⟩) (lfQ l s c).length cl) (.slice (some ⟨P + 1, 0, none⟩) 0 0) inn (ojL l s c 0) (lfQ l s c) (gs13 (lfQ l s c) (fun j => !inL13 (szQ l) (qkQ l) s (lfQ l s c) j) 0) I) := Lib.hid
                  ⟨by rw [HJ0.out]; exact own_below HU2.out b4, own_below HF2.out b4, own_below HR2.out b4, own_mono oI hb2s, happ.out, fun b h1 h2 => by simp [Value.ownBlock] at h1 h2; omega, (apt_new HU2.out oI (Nat.le_refl _)).symm, fun b h1 h2 => by simp [Value.ownBlock] at h1 h2; omega, (apt_new HR2.out oI (Nat.le_refl _)).symm⟩
                clear oI b4 hIc HU2 HF2 HR2 HB2
                go_wp2
                go_loopw [10, 13] (fun o ji wx => ∃ j : Nat, j ≤ (lfQ l s c).length ∧ ji = .int .i64 j ∧ Hid (CbI w.heap.size l.length wx (.slice (some ⟨w.heap.size, 0, none⟩) l.length l.length) (.slice (some ⟨gl, 0, none⟩) (lfQ l s c).length cl) o inn (ojL l s c j) (lfQ l s c) (gs13 (lfQ l s c) (fun j => !inL13 (szQ l) (qkQ l) s (lfQ l s c) j) j) I) ∧ Hid (Below w.heap.size w wx)) (fun _ ji _ => (lfQ l s c).length - (intOf ji).toNat)
                case atStart => exact ⟨0, by omega, rfl, HCB, HB4⟩
                case round =>
                  obtain ⟨j, hj, rfl, hcbi, hbel⟩ := hrel
                  have hbs := hbel.out.size
                  by_cases hjl : j < (lfQ l s c).length
                  · have hsub := HSUB.out c j hjl
                    have cl0 := nIs_cell hcbi.out.ol hjl
                    have HHC := HIC.out j hjl
                    have HC2 := Lib.hid (l1Has13_c inn I (j : Int) wr (Rd.of_own hcbi.out.oi) (by omega))
                    rw [HHC] at HC2
                    have HOJL := ojL_len l s c j
                    have HYJ := Lib.hid (HYES.out c j)
                    have HNJ := Lib.hid (HNO.out c j)
                    have HG1 : Hid (inL13 (szQ l) (qkQ l) s (lfQ l s c) j = true → gs13 (lfQ l s c) (fun j => !inL13 (szQ l) (qkQ l) s (lfQ l s c) j) (j + 1) = gs13 (lfQ l s c) (fun j => !inL13 (szQ l) (qkQ l) s (lfQ l s c) j) j) := Lib.hid (fun h => gs13_no (by simp [h]))
                    have HG2 : Hid (inL13 (szQ l) (qkQ l) s (lfQ l s c) j = false → gs13 (lfQ l s c) (fun j => !inL13 (szQ l) (qkQ l) s (lfQ l s c) j) (j + 1) = gs13 (lfQ l s c) (fun j => !inL13 (szQ l) (qkQ l) s (lfQ l s c) j) j ++ [gth (lfQ l s c) j]) := Lib.hid (fun h => gs13_yes (by simp [h]))
                    have hgl2 := gs13_le (lfQ l s c) (fun j => !inL13 (szQ l) (qkQ l) s (lfQ l s c) j) j
                    clear HHC
                    generalize inL13 (szQ l) (qkQ l) s (lfQ l s c) j = bi at *
                    generalize gth (lfQ l s c) j = I0 at *
                    generalize gs13 (lfQ l s c) (fun j => !inL13 (szQ l) (qkQ l) s (lfQ l s c) j) j = R0 at *
                    generalize ojL l s c j = X0 at *
                    have co := (hcbi.out.oo.cellAt I0 (by omega)).trans (int_at (by omega))
                    have fo := hcbi.out.oo.frozenAt I0
                    go_wp2_with fail
                    refine (HC2.out).mono ?_
                    rintro e w5 ⟨rfl, rfl⟩
                    cases bi with
                    | true =>
                      have HY1 := Lib.hid (HYJ.out rfl)
                      have HG3 := Lib.hid (HG1.out rfl)
                      have HCS := Lib.hid (hcbi.out.store I0 (c : Int))
                      have HBS := Lib.hid (hbel.out.grown (grown_put w5 ⟨w.heap.size, I0, none⟩ (.int .i64 (c : Int))) hbs (fun y hy => by simp at hy; omega))
                      go_wp2
                      go_roundw
                      case rel => exact ⟨j + 1, by omega, by go_num, Lib.hid (by rw [HY1.out, HG3.out]; exact HCS.out), HBS⟩
                      case measure => simp [intOf]; omega
                    | false =>
                      have HY1 := Lib.hid (HNJ.out rfl)
                      have HG3 := Lib.hid (HG2.out rfl)
                      have HCA := Lib.hid (hcbi.out.below ((Below.refl w5.heap.size w5).alloc (Nat.le_refl _) (.cells #[.int .i64 (I0 : Int)] 3)))
                      go_wp2_with (at_builtin; go_loud (refine wpList_append_any _ rfl _ _ 31 rfl w.heap.size 3 i0 (.int .i64 0) 1 8 Try.underlying31 hi hz0 hz1 hz2 rfl (by decide) _ _ _ rfl (HCA.out.orr) (some ⟨w5.heap.size, 0, none⟩) 1 1 [.int .i64 (I0 : Int)] rfl rfl (fun _ => ⟨_, rfl, cell_one_new _ _ _⟩) (by simp [Value.oneCell']) (by unfold maxLen; omega) (by omega) (by simp; omega) ?_; intro v6 w6 hown6 hgrow6 hat6; have HC6 := Lib.hid (HCA.out.push hgrow6 hown6 hat6); have HB6 := Lib.hid ((hbel.out.alloc hbs _).grown hgrow6 (by simp; omega) (fun y hy => (HCA.out.orr.lt y hy).1)); clear hown6 hgrow6 hat6))
                      go_roundw
                      case rel => exact ⟨j + 1, by omega, by go_num, Lib.hid (by rw [HY1.out, HG3.out]; exact HC6.out), HB6⟩
                      case measure => simp [intOf]; omega
                  · obtain rfl : j = (lfQ l s c).length := by omega
                    have HOC := HEND.out c
                    have HNC := HNX.out c
                    rw [HOC, HNC] at hcbi
                    obtain ⟨ra, rc, hrv⟩ := (Rs.of_own hcbi.out.orr).shape
                    subst hrv
                    have HO7 := Lib.hid hcbi.out.orr
                    have HU7 := Lib.hid hcbi.out.oo
                    have HP7 := Lib.hid hcbi.out.a2
                    have HN7 : Hid ((lfQ l s (c + 1)).length + (c + 1) ≤ l.length) := Lib.hid (by omega)
                    clear hcbi HOC HNC
                    go_wp2
                    go_roundw
                    case rel => exact ⟨c + 1, by go_num, HO7, HU7, HP7, HN7, hbel⟩
                    case measure => exact hlt
end Go.Proofs.Ytkjdkfoeolcnkaa
