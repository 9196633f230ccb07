/- Queues with groups: impl.cabinsFor: all cabins that come, each the indices of its groups. Condition: sizes. -/
import Derived.Test.YtkjdkfoeolcnkaaQuD
namespace Go.Proofs.Ytkjdkfoeolcnkaa
open Go.RowKit
set_option linter.unusedVariables false
theorem Try.infoSl13 : (Try.prog.info? 31).map (fun i => (i.zero, i.size, i.bytes)) = some (some (.slice none 0 0), 1, 24) := by kernel_rfl
def sl13 : Value → Nat
  | .slice _ n _ => n
  | _ => 0
theorem lf13_pair {sz : Nat → Int} {qk : Nat → Bool} {n : Nat} {s : Int} : ∀ c, (lf13 sz qk n s c).Pairwise (· < ·)
  | 0 => List.pairwise_lt_range
  | c + 1 => gs13_pair (lf13_pair c) _
/-- Who waits behind c cabins, who gets into cabin k, and how many cabins come. -/
def lfQ (l : List Gro) (s : Int) (c : Nat) : List Nat := lf13 (szQ l) (qkQ l) l.length s c
def whQ (l : List Gro) (s : Int) (k : Nat) : List Nat := whoL13 l s (lfQ l s k)
noncomputable def ndQ (l : List Gro) (s : Int) : Nat := if asQ l s then nd13 (szQ l) (qkQ l) l.length s else 0
theorem lfQ_len (l : List Gro) (s : Int) : ∀ c, (lfQ l s c).length ≤ l.length
  | 0 => by simp [lfQ, lf13]
  | c + 1 => Nat.le_trans (out13_le (lf13 (szQ l) (qkQ l) l.length s c)) (lfQ_len l s c)
theorem ret_vb13 {g : Value} {a b : Bool} (h : a = b) : Ending.returned (.tuple #[g, .bool a]) = .returned (.tuple #[g, .bool b]) := by rw [h]
set_option maxRecDepth 100000 in
set_option maxHeartbeats 4000000 in
theorem cabinsFor_c (v : Value) (l : List Gro) (s : Int) (w : World) (hr : Rs w v l.length (gros l)) (hn : l.length ≤ 1048576) :
    Calls Try.prog 51 #[v, .int .i64 s] w fun e w' => ∃ g vs, e = .returned (.tuple #[g, .bool (asQ l s)]) ∧ vs.length = ndQ l s ∧ w'.ownsRow w.heap.size 31 1 g (ndQ l s) vs ∧ (∀ k, k < ndQ l s → w'.ownsRow w.heap.size 3 1 (nv13 vs k) (whQ l s k).length (intVs (nIs (whQ l s k)))) ∧ Below w.heap.size w w' := by
  obtain ⟨i0, hi, hz0, hz1, hz2⟩ := info_parts Try.infoSl13
  have E0 := Lib.hid (doFit_c v l s w hr hn)
  have HR : Hid (∀ W, Below w.heap.size w W → Rs W v l.length (gros l)) := Lib.hid (fun W h => hr.below h rfl)
  obtain ⟨va, vc, hva⟩ := hr.shape
  clear hr
  cases hb : asQ l s with
  | false =>
    rw [hb] at E0
    have HND : Hid (ndQ l s = 0) := Lib.hid (by unfold ndQ; rw [hb]; rfl)
    clear hb HR
    subst hva
    go_enter Try.func51, Try.ntmps51
    go_wp2_with fail
    refine (E0.out).mono ?_
    rintro e w1 ⟨rfl, b1⟩
    have HB1 := Lib.hid b1
    have hs1 := b1.size
    clear b1
    go_wp2
    go_ret2
    rw [HND.out]
    exact ⟨_, [], rfl, rfl, World.ownsRow_made w1 #[] 0 hs1 (by decide) rfl, fun k hk => by omega, HB1.out.alloc hs1 _⟩
  | true =>
    rw [hb] at E0
    have hl12 : l.length ≤ 12 := is_len (as_is hb)
    obtain ⟨hs1, hs10⟩ := as_s hb
    have HND : Hid (∀ c, lfQ l s c = [] → (∀ j, j < c → lfQ l s j ≠ []) → ndQ l s = c) := Lib.hid (fun c h1 h2 => by
      unfold ndQ
      rw [hb, if_pos rfl]
      exact nd13_eq ⟨h1, h2⟩)
    have HLT : Hid (∀ c, lfQ l s c ≠ [] → (lfQ l s (c + 1)).length < (lfQ l s c).length) := Lib.hid (fun c h => out13_lt h fun i hi => as_fit hb i (lf13_sub c hi))
    have HF : Hid (∀ c W u, Below w.heap.size w W → Rd W u (intVs (nIs (lfQ l s c))) → _) := Lib.hid (fun c W u (h : Below w.heap.size w W) hu => filledWith_c v u l (lfQ l s c) s W (HR.out W h) hu hl12 (by have := lfQ_len l s c; omega) (fun i hi => lf13_sub c hi) (lf13_pair c) ⟨by omega, hs10⟩ (is_bd (as_is hb)))
    have HLE : Hid (∀ c, (lfQ l s c).length ≤ 12 ∧ (whQ l s c).length ≤ 12) := Lib.hid (fun c => by
      have h1 := lfQ_len l s c
      have h2 := gs13_le (lfQ l s c) (inL13 (szQ l) (qkQ l) s (lfQ l s c)) (lfQ l s c).length
      exact ⟨by omega, by unfold whQ whoL13; omega⟩)
    have HRE : Hid (∀ c, (nIs (lfQ l s c)).filter (fun x => !(nIs (whQ l s c)).contains x) = nIs (lfQ l s (c + 1))) := Lib.hid (fun c => rest13 (lf13_nodup c))
    have HZ : Hid (lfQ l s 0 = List.range l.length) := Lib.hid rfl
    have HWQ : Hid (∀ c, whoL13 l s (lfQ l s c) = whQ l s c) := Lib.hid (fun c => rfl)
    have HIW : Hid (∀ W, Below w.heap.size w W → _) := Lib.hid (fun W (h : Below w.heap.size w W) => iwhereG_c v l W (HR.out W h) hn)
    clear hb HR
    generalize ndQ l s = N at *
    generalize lfQ l s = lf at *
    generalize whQ l s = wh at *
    subst hva
    go_enter Try.func51, Try.ntmps51
    go_wp2_with fail
    refine (E0.out).mono ?_
    rintro e w1 ⟨rfl, b1⟩
    have HB1 := Lib.hid b1
    have hsz1 := b1.size
    clear b1
    go_upto_region 4 with fail
    have HB2 : Hid (Below w.heap.size w (w1.alloc (.cells #[] 31))) := Lib.hid (HB1.out.alloc hsz1 _)
    have HO2 : Hid ((w1.alloc (.cells #[] 31)).ownsRow w.heap.size 31 1 (.slice (some ⟨w1.heap.size, 0, none⟩) 0 0) 0 []) := Lib.hid (World.ownsRow_made w1 #[] 0 hsz1 (by decide) rfl)
    have hz2' : (w1.alloc (.cells #[] 31)).heap.size = w1.heap.size + 1 := by simp
    generalize w1.alloc (.cells #[] 31) = w2 at *
    go_wp2_with fail
    refine (HIW.out _ HB2.out).mono ?_
    rintro e w3 ⟨g3, rfl, o3, b3⟩
    have HC3 : Hid (CabI w.heap.size w3 (.slice (some ⟨w1.heap.size, 0, none⟩) 0 0) g3 [] wh (lf 0)) := Lib.hid ⟨own_below HO2.out b3, own_mono (by rw [HZ.out, List.length_range]; exact o3) HB2.out.size, fun k hk => by simp at hk, fun k hk => by simp at hk, fun k hk => by simp at hk, (apt_new HO2.out o3 (Nat.le_refl _)).symm⟩
    have HB3 := Lib.hid (HB2.out.trans (b3.mono HB2.out.size))
    clear o3 b3 hz2'
    go_wp2
    go_loopw [6, 7] (fun cab wait wr => ∃ vs : List Value, Hid (CabI w.heap.size wr cab wait vs wh (lf vs.length)) ∧ Hid (∀ j, j < vs.length → lf j ≠ []) ∧ Hid ((lf vs.length).length + vs.length ≤ l.length) ∧ Hid (Below w.heap.size w wr)) (fun _ wait _ => sl13 wait)
    case atStart => exact ⟨[], HC3, Lib.hid (fun j h => by simp at h), Lib.hid (by rw [show ([] : List Value).length = 0 from rfl, HZ.out]; simp), HB3⟩
    case round =>
      obtain ⟨vs, hcab, hne, hvl, hbel⟩ := hrel
      have hbs := hbel.out.size
      obtain ⟨hle1, hle2⟩ := HLE.out vs.length
      by_cases h0 : lf vs.length = []
      · have hNC := HND.out vs.length h0 hne.out
        have ho := hcab.out.ow
        rw [h0] at ho
        obtain ⟨a, cap, hw⟩ := (Rs.of_own ho).zero
        subst hw
        clear ho h0 hle1 hle2
        go_wp2
        go_ret2
        subst hNC
        exact ⟨_, vs, rfl, rfl, hcab.out.oc, fun k hk => hcab.out.ro k hk, hbel.out⟩
      · have hpos : 0 < (lf vs.length).length := List.length_pos_iff.2 h0
        have ho := hcab.out.ow
        have HFC := Lib.hid (HF.out vs.length wr _ hbel.out (Rd.of_own ho))
        rcases own_form ho with ⟨hn0, _⟩ | ⟨gw, capw, hw, _, hgw, hnc, hcm⟩
        · omega
        · have hne2 : Hid (∀ j, j < vs.length + 1 → lf j ≠ []) := Lib.hid (fun j hj => by
            by_cases e : j = vs.length
            · rw [e]; exact h0
            · exact hne.out j (by omega))
          have hlt := HLT.out vs.length h0
          have hRE := HRE.out vs.length
          rw [HWQ.out vs.length] at HFC
          subst hw
          clear ho h0
          have t1 : decide ((0 : Int) < ((lf vs.length).length : Int)) = true := by simp; omega
          generalize hLC : lf vs.length = LC at *
          have HLC := Lib.hid hLC
          clear hLC
          go_wp2_with fail
          refine (HFC.out).mono ?_
          rintro e w4 ⟨fv, rfl, of4, b4⟩
          have HC4 := Lib.hid (hcab.out.below b4)
          have HB4 := Lib.hid (hbel.out.trans (b4.mono hbs))
          have ha1 := Lib.hid (apt_new hcab.out.oc of4 (Nat.le_refl _))
          have ha2 := Lib.hid (apt_new hcab.out.ow of4 (Nat.le_refl _))
          have hs4 := HB4.out.size
          have hs44 := b4.size
          have OF4 : Hid (w4.ownsRow w.heap.size 3 1 fv (wh vs.length).length (intVs (nIs (wh vs.length)))) := Lib.hid (own_mono of4 hbs)
          obtain ⟨fa, fc, hfv⟩ := (Rs.of_own of4).shape
          subst hfv
          clear of4 b4
          go_upto_region 7 with fail
          have HP5 : Hid ((w4.alloc (.cells #[.slice fa (wh vs.length).length fc] 31)).heap[w4.heap.size]? = some (.cells #[.slice fa (wh vs.length).length fc] 31 (0, 0))) := Lib.hid (heap_alloc_new _ _)
          have HC5 := Lib.hid (HC4.out.alloc (.cells #[.slice fa (wh vs.length).length fc] 31))
          have HB5 := Lib.hid (HB4.out.alloc hs4 (.cells #[.slice fa (wh vs.length).length fc] 31))
          have OF5 := Lib.hid (OF4.out.alloc (.cells #[.slice fa (wh vs.length).length fc] 31))
          have hz5 : w4.heap.size < (w4.alloc (.cells #[.slice fa (wh vs.length).length fc] 31)).heap.size := by simp
          have HCB4 : Hid (∀ b, Value.ownBlock (.slice fa (wh vs.length).length fc) = some b → b < w4.heap.size) := Lib.hid (fun b hb => (OF4.out.lt b hb).2)
          have HCW4 : Hid (gw < w4.heap.size) := Lib.hid (by omega)
          have HCC4 : Hid (∀ b, Value.ownBlock _ = some b → b < w4.heap.size) := Lib.hid (fun b hb => (HC4.out.oc.lt b hb).2)
          generalize w4.alloc (.cells #[.slice fa (wh vs.length).length fc] 31) = w5 at *
          have HC6 := Lib.hid (HC5.out.alloc (.cells #[.slice fa (wh vs.length).length fc] 31))
          have HB6 := Lib.hid (HB5.out.alloc (by omega) (.cells #[.slice fa (wh vs.length).length fc] 31))
          have OF6 := Lib.hid (OF5.out.alloc (.cells #[.slice fa (wh vs.length).length fc] 31))
          have HP6 : Hid ((w5.alloc (.cells #[.slice fa (wh vs.length).length fc] 31)).heap[w4.heap.size]? = some (.cells #[.slice fa (wh vs.length).length fc] 31 (0, 0))) := Lib.hid ((heap_alloc_old w5 _ (by omega)).trans HP5.out)
          have c5 : w5.cell? ⟨w4.heap.size, 0, none⟩ = some (.slice fa (wh vs.length).length fc) := cell_of_row _ _ 0 _ _ _ HP5.out
          have hvl12 : vs.length ≤ 12 := by have := hvl.out; omega
          clear HC4 HB4 OF4
          go_wp2_with (at_builtin; go_loud (refine wpList_append_any _ rfl _ _ 56 rfl w.heap.size 31 i0 (.slice none 0 0) 1 24 Try.underlying56 hi hz0 hz1 hz2 rfl (by decide) _ vs.length vs rfl (HC6.out.oc) (some ⟨w5.heap.size, 0, none⟩) 1 1 [.slice fa (wh vs.length).length fc] rfl rfl (fun _ => ⟨_, rfl, cell_one_new _ _ _⟩) (by simp [Value.oneCell']) (by unfold maxLen; omega) (by omega) (by simp; omega) ?_; intro cab7 w7 hown7 hgrow7 hat7; have HC7 := Lib.hid (HC6.out.push OF6.out ha1.out ha2.out hgrow7 hown7 hat7); have HB7 := Lib.hid (HB6.out.grown hgrow7 (by simp; omega) (fun k hk => (HC6.out.oc.lt k hk).1)); have HP7 : Hid (w7.heap[w4.heap.size]? = some (.cells #[.slice fa (wh vs.length).length fc] 31 (0, 0))) := Lib.hid ((hgrow7.block w4.heap.size (by simp; omega) (fun e => by have := HCC4.out _ e.symm; omega)).trans HP6.out); have OF7 := Lib.hid (own_apt OF6.out hgrow7 ha1.out); clear hown7 hgrow7 hat7))
          have HD := Lib.hid (delC13_c _ _ (nIs LC) (nIs (wh vs.length)) w4.heap.size w.heap.size w.heap.size w7 (by rw [nIs_len]; exact HC7.out.ow) (by rw [nIs_len]; omega) (by rw [nIs_len]; omega) (cell_of_row _ _ 0 _ _ _ HP7.out) (by rw [nIs_len]; exact OF7.out) (by rw [nIs_len]; omega) (fun e => by simp [Value.ownBlock] at e; have := HCW4.out; omega) ha2.out)
          rw [hRE, nIs_len] at HD
          refine (HD.out).mono ?_
          rintro e w8 ⟨wait8, rfl, o8, g8, k8⟩
          have HC8 := Lib.hid (HC7.out.del g8 o8 k8)
          have HB8 := Lib.hid (HB7.out.grown g8 HB7.out.size (fun k hk => (HC7.out.ow.lt k hk).1))
          obtain ⟨wa8, wc8, hw8⟩ := (Rs.of_own o8).shape
          subst hw8
          have HLN : Hid ((vs ++ [Value.slice fa (wh vs.length).length fc]).length = vs.length + 1) := Lib.hid (by simp)
          have HVN : Hid ((lf (vs.length + 1)).length + (vs.length + 1) ≤ l.length) := Lib.hid (by have := hvl.out; omega)
          clear o8 g8 k8 HD HC7 HB7 OF7
          go_wp2
          go_roundw
          case rel => exact ⟨vs ++ [Value.slice fa (wh vs.length).length fc], by rw [HLN.out]; exact HC8, by rw [HLN.out]; exact hne2, by rw [HLN.out]; exact HVN, HB8⟩
          case measure => exact hlt
end Go.Proofs.Ytkjdkfoeolcnkaa
