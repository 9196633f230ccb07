/- RopeVerdict: the program's and the specification's answer as one function. Condition: sizes. -/
import Derived.Test.YteglekfiannncaaStrengthC
import Derived.Deep.AppendLies
namespace Go.Proofs.Yteglekfiannncaa
open Go.RowKit
set_option linter.unusedVariables false
def replaceB : ByteArray := ⟨#[114, 101, 112, 108, 97, 99, 101]⟩
def watchB : ByteArray := ⟨#[119, 97, 116, 99, 104]⟩
def goodB : ByteArray := ⟨#[103, 111, 111, 100]⟩
/-- More than a twentieth of all wires in some window. -/
def tmB (k : RK) (l : List Dmg) (len : Int) : Bool := decide (allK k < 20 * (mst l len (-1) l.length).2)
noncomputable def vdV (k : RK) (l : List Dmg) : ByteArray := if good k l then (if tmB k l 10 then replaceB else if tmB k l 100 then watchB else goodB) else ⟨#[]⟩
theorem vd_no {k : RK} {l : List Dmg} (h : good k l = false) : vdV k l = ⟨#[]⟩ := by simp [vdV, h]
theorem vd_r {k : RK} {l : List Dmg} (h : good k l = true) (g : tmB k l 10 = true) : vdV k l = replaceB := by simp [vdV, h, g]
theorem vd_w {k : RK} {l : List Dmg} (h : good k l = true) (g : tmB k l 10 = false) (f : tmB k l 100 = true) : vdV k l = watchB := by simp [vdV, h, g, f]
theorem vd_g {k : RK} {l : List Dmg} (h : good k l = true) (g : tmB k l 10 = false) (f : tmB k l 100 = false) : vdV k l = goodB := by simp [vdV, h, g, f]
theorem ret_s {a b : ByteArray} {p q : Bool} (h : a = b) (g : p = q) : Ending.returned (.tuple #[.string a, .bool p]) = .returned (.tuple #[.string b, .bool q]) := by rw [h, g]
theorem take_filter (p : Dmg → Bool) (l : List Dmg) (j : Nat) (h : j < l.length) : (l.take (j + 1)).filter p = (l.take j).filter p ++ (if p (gth l j) then [gth l j] else []) := by
  rw [take_gth l j h, List.filter_append]
  congr 1
  rw [List.filter_cons]
  simp
set_option maxRecDepth 100000 in
set_option maxHeartbeats 4000000 in
theorem damagesOfStrand_c (v : Value) (l : List Dmg) (st : Int) (w : World) (hr : Rs w v l.length (dmgs l)) (hn : l.length ≤ 15) :
    Calls Try.prog 136 #[v, .int .i64 st] w fun e w' => ∃ g, e = .returned g ∧ w'.ownsRow w.heap.size 55 3 g (l.filter (fun d => d.s == st)).length (dmgs (l.filter (fun d => d.s == st))) ∧ Below w.heap.size w w' := by
  obtain ⟨i0, hi, hz0, hz1, hz2⟩ := info_parts Try.infoDmg
  obtain ⟨ao, a, oa, ca, rfl, hao, hat⟩ := hr.form_Dmg
  have HA := Lib.hid hao
  have HL := Lib.hid hat
  clear hr hao hat
  go_enter Try.func136, Try.ntmps136
  go_wp2
  go_loopw [5, 11] (fun ow i wr => ∃ j : Nat, j ≤ l.length ∧ i = .int .i64 j ∧ wr.ownsRow w.heap.size 55 3 ow ((l.take j).filter (fun d => d.s == st)).length (dmgs ((l.take j).filter (fun d => d.s == st))) ∧ Below w.heap.size w wr) (fun _ i _ => l.length - (intOf i).toNat)
  case atStart => exact ⟨0, by omega, rfl, World.ownsRow_made w #[] 0 (Nat.le_refl _) (by decide) rfl, (Below.refl _ _).alloc (Nat.le_refl _) _⟩
  case round =>
    obtain ⟨j, hj, rfl, hown, hbel⟩ := hrel
    have hbs := hbel.size
    by_cases hlt : j < l.length
    · obtain ⟨rfl, hla, hlm⟩ := HA.out (by omega)
      obtain ⟨c0, c1, c2⟩ := (HL.out.below hbel hla) j hlt
      have hkl : ((l.take j).filter (fun d => d.s == st)).length ≤ 15 := Nat.le_trans (List.length_filter_le _ _) (by rw [List.length_take]; omega)
      have HT := Lib.hid (take_filter (fun d => d.s == st) l j hlt)
      generalize gth l j = D at *
      generalize (l.take j).filter (fun d => d.s == st) = F at *
      cases hs : (D.s == st) with
      | false =>
        have HTT : Hid ((l.take (j + 1)).filter (fun d => d.s == st) = F) := Lib.hid (by rw [HT.out, hs]; simp)
        clear HT
        go_wp2
        go_roundw
        case rel => exact ⟨j + 1, by omega, by go_num, by rw [HTT.out]; exact hown.alloc _, hbel.alloc hbel.size _⟩
        case measure => simp [intOf]; omega
      | true =>
        have HTT : Hid ((l.take (j + 1)).filter (fun d => d.s == st) = F ++ [D]) := Lib.hid (by rw [HT.out, hs]; simp)
        clear HT
        have hown2 := hown.alloc (.cells #[.int .i64 D.a, .int .i64 D.s, .int .i64 D.w] 55)
        go_wp2_with (at_builtin; refine wpList_append_own _ rfl _ _ 48 rfl w.heap.size 55 i0 (.agg #[.int .i64 0, .int .i64 0, .int .i64 0]) 3 24 Try.underlying48 hi hz0 hz1 hz2 rfl (by decide) _ _ _ rfl (hown2.alloc _) ⟨wr.heap.size + 1, 0, none⟩ 1 1 [.int .i64 D.a, .int .i64 D.s, .int .i64 D.w] rfl rfl (World.news_of_block (cs := #[.int .i64 D.a, .int .i64 D.s, .int .i64 D.w]) (t := 55) (fr := (0, 0)) (by simpa using heap_alloc_new (wr.alloc (.cells #[.int .i64 D.a, .int .i64 D.s, .int .i64 D.w] 55)) (.cells #[.int .i64 D.a, .int .i64 D.s, .int .i64 D.w] 55))) (by simp [Value.oneCell']) (by unfold maxLen; omega) (by omega) (by simp; omega) ?_; intro v' w3 hown' hgrow _)
        go_roundw
        case rel => exact ⟨j + 1, by omega, by go_num, by rw [HTT.out, dmgs_append, dmgs_one, List.length_append]; exact hown', ((hbel.alloc hbel.size _).alloc (by simp; omega) _).grown hgrow (by simp; omega) (fun j hj => (hown.lt j hj).1)⟩
        case measure => simp [intOf]; omega
    · obtain rfl : j = l.length := by omega
      rw [List.take_length] at hown
      go_wp2
      go_ret
      exact ⟨_, rfl, hown, hbel⟩
set_option maxRecDepth 100000 in
set_option maxHeartbeats 4000000 in
theorem tooMany_c (k : RK) (v : Value) (l : List Dmg) (len : Int) (w : World) (hr : Rs w v l.length (dmgs l)) (hg : Good k l) (hl : 1 ≤ len ∧ len ≤ 100000) :
    Calls Try.prog 112 #[.agg #[.int .i64 k.i, .int .i64 k.s, .int .i64 k.w, .int .i64 k.g, .int .i64 k.p], v, .int .i64 len] w fun e w' => e = .returned (.bool (tmB k l len)) ∧ Below w.heap.size w w' := by
  have HR := Lib.hid hr
  have EA := Lib.hid (fun W => allWires_c k W hg.kind)
  have HM := Lib.hid (fun W h => mostBroken_c v l len W h hg.srt hl)
  have hab := allK_bd hg.kind
  have hmb := mst_bd hg.srt len (-1) l.length
  have hd : tmB k l len = decide (allK k < 20 * (mst l len (-1) l.length).2) := rfl
  have HBX := Lib.hid (box_RK w k 47 _ rfl)
  clear hr hg
  generalize (mst l len (-1) l.length).2 = M at *
  generalize (mst l len (-1) l.length).1 = M1 at *
  generalize allK k = AL at *
  have e1 : IntKind.i64.wrap (100 * M) = 100 * M := IntWalk.i64_in _ (by omega)
  have e2 : IntKind.i64.wrap (5 * AL) = 5 * AL := IntWalk.i64_in _ (by omega)
  have HD : Hid (decide (5 * AL < 100 * M) = tmB k l len) := Lib.hid (by
    rw [hd]
    by_cases h : AL < 20 * M
    · rw [decide_eq_true h, decide_eq_true (by omega)]
    · rw [decide_eq_false h, decide_eq_false (by omega)])
  clear hd
  go_enter Try.func112, Try.ntmps112
  go_wp2_with fail
  have HT : Hid (Below w.heap.size w (w.alloc (.cells #[.int .i64 k.i, .int .i64 k.s, .int .i64 k.w, .int .i64 k.g, .int .i64 k.p] 47))) := Lib.hid ((Below.refl _ _).alloc (Nat.le_refl _) _)
  have hs0 : (w.alloc (.cells #[.int .i64 k.i, .int .i64 k.s, .int .i64 k.w, .int .i64 k.g, .int .i64 k.p] 47)).heap.size = w.heap.size + 1 := by simp
  generalize w.alloc (.cells #[.int .i64 k.i, .int .i64 k.s, .int .i64 k.w, .int .i64 k.g, .int .i64 k.p] 47) = W0 at *
  refine (HM.out _ (HR.out.below HT.out rfl)).mono ?_
  rintro e w1 ⟨rfl, b1⟩
  have HB1 : Hid (Below (w.heap.size + 1) W0 w1) := Lib.hid (by rw [← hs0]; exact b1)
  have HT1 : Hid (Below w.heap.size w w1) := Lib.hid (HT.out.trans (b1.mono (by omega)))
  clear b1
  obtain ⟨k0, k1, k2, k3, k4⟩ := HBX.out _ HB1.out
  go_wp2_with fail
  refine (EA.out _).mono ?_
  rintro e w2 ⟨rfl, b2⟩
  go_wp2
  go_ret
  exact ⟨ret_b HD.out, HT1.out.trans (b2.mono HT1.out.size)⟩
/-- Half of a strand is more than a twentieth of the rope. -/
theorem strand_no {k : RK} {l : List Dmg} (hg : Good k l) (h : tmB k l 10 = false) {n : Int} (hn : n ≤ (mst l 10 (-1) l.length).2) : ¬ k.w < 2 * n := by
  have := allK_bd hg.kind
  unfold tmB at h
  simp at h
  omega
set_option maxRecDepth 100000 in
set_option maxHeartbeats 4000000 in
theorem strandHalf_c (k : RK) (v : Value) (l : List Dmg) (w : World) (hr : Rs w v l.length (dmgs l)) (hg : Good k l) (h : tmB k l 10 = false) :
    Calls Try.prog 113 #[.agg #[.int .i64 k.i, .int .i64 k.s, .int .i64 k.w, .int .i64 k.g, .int .i64 k.p], v] w fun e w' => e = .returned (.bool false) ∧ Below w.heap.size w w' := by
  have HR := Lib.hid hr
  have HG := Lib.hid hg
  have HH := Lib.hid h
  have hab := allK_bd hg.kind
  have h15 := hg.len
  have HBX := Lib.hid (box_RK w k 47 _ rfl)
  clear hr hg h
  go_enter Try.func113, Try.ntmps113
  go_wp2
  have HT : Hid (Below w.heap.size w (w.alloc (.cells #[.int .i64 k.i, .int .i64 k.s, .int .i64 k.w, .int .i64 k.g, .int .i64 k.p] 47))) := Lib.hid ((Below.refl _ _).alloc (Nat.le_refl _) _)
  have hs0 : (w.alloc (.cells #[.int .i64 k.i, .int .i64 k.s, .int .i64 k.w, .int .i64 k.g, .int .i64 k.p] 47)).heap.size = w.heap.size + 1 := by simp
  generalize w.alloc (.cells #[.int .i64 k.i, .int .i64 k.s, .int .i64 k.w, .int .i64 k.g, .int .i64 k.p] 47) = W0 at *
  go_loopw [10] (fun i wr => ∃ j : Nat, (j : Int) ≤ k.s ∧ i = .int .i64 j ∧ Hid (Below (w.heap.size + 1) W0 wr)) (fun i _ => (k.s - intOf i).toNat)
  case atStart => exact ⟨0, by omega, rfl, Lib.hid (Below.refl _ _)⟩
  case round =>
    obtain ⟨j, hj, rfl, hbl⟩ := hrel
    by_cases hlt : (j : Int) < k.s
    · have HTr : Hid (Below w.heap.size w wr) := Lib.hid (HT.out.trans (hbl.out.mono (by omega)))
      have hwr := hbl.out.size
      have HF := Lib.hid (HG.out.srt.filter (fun d => d.s == (j : Int)))
      have HNo := Lib.hid (strand_no HG.out HH.out (mst_filter HG.out.srt 10 (-1) (fun d => d.s == (j : Int))))
      have hmb := mst_bd HF.out 10 (-1) (l.filter (fun d => d.s == (j : Int))).length
      go_wp2_with fail
      refine (damagesOfStrand_c v l (j : Int) _ (HR.out.below HTr.out rfl) h15).mono ?_
      rintro e w2 ⟨g, rfl, og, b2⟩
      have HB2 : Hid (Below (w.heap.size + 1) W0 w2) := Lib.hid (hbl.out.trans (b2.mono (by omega)))
      have OG := Lib.hid og
      clear b2 og
      have HM := Lib.hid (fun W h => mostBroken_c g (l.filter (fun d => d.s == (j : Int))) 10 W h HF.out (by omega))
      generalize l.filter (fun d => d.s == (j : Int)) = FL at *
      generalize (mst FL 10 (-1) FL.length).2 = M at *
      generalize (mst FL 10 (-1) FL.length).1 = M1 at *
      go_wp2_with fail
      refine (HM.out _ (Rs.of_own OG.out)).mono ?_
      rintro e w3 ⟨rfl, b3⟩
      have HB3 : Hid (Below (w.heap.size + 1) W0 w3) := Lib.hid (HB2.out.trans (b3.mono (by have := HB2.out.size; omega)))
      clear b3 HM
      obtain ⟨k0, k1, k2, k3, k4⟩ := HBX.out _ HB3.out
      have e1 : IntKind.i64.wrap (2 * M) = 2 * M := IntWalk.i64_in _ (by omega)
      have hno : ¬ k.w < 2 * M := by have := HNo.out; omega
      clear hmb
      go_wp2
      go_roundw
      case rel => exact ⟨j + 1, by omega, by go_num, HB3⟩
      case measure => simp [intOf] <;> omega
    · go_wp2
      go_ret
      exact ⟨rfl, HT.out.trans (hbl.out.mono (by omega))⟩
set_option maxRecDepth 100000 in
set_option maxHeartbeats 4000000 in
theorem implRopeVerdict_c (k : RK) (v : Value) (l : List Dmg)  (w : World) (hr : Rs w v l.length (dmgs l)) (hn : l.length ≤ 1048576)  :
    Calls Try.prog 49 #[.agg #[.int .i64 k.i, .int .i64 k.s, .int .i64 k.w, .int .i64 k.g, .int .i64 k.p], v] w fun e w' => e = .returned (.tuple #[.string (vdV k l), .bool (good k l)]) ∧ Below w.heap.size w w' := by
  have HR := Lib.hid hr
  clear hr
  go_enter Try.func49, Try.ntmps49
  go_wp2_with fail
  have HBX := Lib.hid (box_RK w k 47 _ rfl)
  have HT : Hid (Below w.heap.size w (w.alloc (.cells #[.int .i64 k.i, .int .i64 k.s, .int .i64 k.w, .int .i64 k.g, .int .i64 k.p] 47))) := Lib.hid ((Below.refl _ _).alloc (Nat.le_refl _) _)
  have hs0 : (w.alloc (.cells #[.int .i64 k.i, .int .i64 k.s, .int .i64 k.w, .int .i64 k.g, .int .i64 k.p] 47)).heap.size = w.heap.size + 1 := by simp
  generalize w.alloc (.cells #[.int .i64 k.i, .int .i64 k.s, .int .i64 k.w, .int .i64 k.g, .int .i64 k.p] 47) = W0 at *
  refine (implAreDamages_c k _ l _ (HR.out.below HT.out rfl) hn).mono ?_
  rintro e w1 ⟨rfl, b1⟩
  have HB1 : Hid (Below (w.heap.size + 1) W0 w1) := Lib.hid (by rw [← hs0]; exact b1)
  have HT1 : Hid (Below w.heap.size w w1) := Lib.hid (HT.out.trans (b1.mono (by omega)))
  clear b1
  cases hg : good k l with
  | false =>
    have HGB := Lib.hid hg
    have HN := Lib.hid (vd_no hg)
    go_wp2
    go_ret2
    exact ⟨ret_s HN.out.symm HGB.out.symm, HT1.out⟩
  | true =>
    have HGB := Lib.hid hg
    have HG := Lib.hid (good_yes hg)
    clear hg
    obtain ⟨k0, k1, k2, k3, k4⟩ := HBX.out _ HB1.out
    go_wp2_with fail
    refine (tooMany_c k v l 10 _ (HR.out.below HT1.out rfl) HG.out (by omega)).mono ?_
    rintro e w3 ⟨rfl, b3⟩
    have HB3 : Hid (Below (w.heap.size + 1) W0 w3) := Lib.hid (HB1.out.trans (b3.mono (by have := HB1.out.size; omega)))
    have HT3 : Hid (Below w.heap.size w w3) := Lib.hid (HT1.out.trans (b3.mono HT1.out.size))
    clear b3 k0 k1 k2 k3 k4
    cases ht : tmB k l 10 with
    | true =>
      have HV := Lib.hid (vd_r HGB.out ht)
      clear ht
      go_wp2
      go_ret2
      exact ⟨ret_s HV.out.symm HGB.out.symm, HT3.out⟩
    | false =>
      have HT10 := Lib.hid ht
      clear ht
      obtain ⟨k0, k1, k2, k3, k4⟩ := HBX.out _ HB3.out
      go_wp2_with fail
      refine (strandHalf_c k v l _ (HR.out.below HT3.out rfl) HG.out HT10.out).mono ?_
      rintro e w4 ⟨rfl, b4⟩
      have HB4 : Hid (Below (w.heap.size + 1) W0 w4) := Lib.hid (HB3.out.trans (b4.mono (by have := HB3.out.size; omega)))
      have HT4 : Hid (Below w.heap.size w w4) := Lib.hid (HT3.out.trans (b4.mono HT3.out.size))
      clear b4 k0 k1 k2 k3 k4
      obtain ⟨k0, k1, k2, k3, k4⟩ := HBX.out _ HB4.out
      go_wp2_with fail
      refine (tooMany_c k v l 100 _ (HR.out.below HT4.out rfl) HG.out (by omega)).mono ?_
      rintro e w5 ⟨rfl, b5⟩
      have HT5 : Hid (Below w.heap.size w w5) := Lib.hid (HT4.out.trans (b5.mono HT4.out.size))
      clear b5
      cases ht : tmB k l 100 with
      | true =>
        have HV := Lib.hid (vd_w HGB.out HT10.out ht)
        clear ht
        go_wp2
        go_ret2
        exact ⟨ret_s HV.out.symm HGB.out.symm, HT5.out⟩
      | false =>
        have HV := Lib.hid (vd_g HGB.out HT10.out ht)
        clear ht
        go_wp2
        go_ret2
        exact ⟨ret_s HV.out.symm HGB.out.symm, HT5.out⟩
set_option maxRecDepth 100000 in
set_option maxHeartbeats 4000000 in
theorem specRopeVerdict_c (k : RK) (v : Value) (l : List Dmg)  (w : World) (hr : Rs w v l.length (dmgs l)) (hn : l.length ≤ 1048576)  :
    Calls Try.prog 50 #[.agg #[.int .i64 k.i, .int .i64 k.s, .int .i64 k.w, .int .i64 k.g, .int .i64 k.p], v] w fun e w' => e = .returned (.tuple #[.string (vdV k l), .bool (good k l)]) ∧ Below w.heap.size w w' := by
  have HR := Lib.hid hr
  clear hr
  go_enter Try.func50, Try.ntmps50
  go_wp2_with fail
  have HBX := Lib.hid (box_RK w k 47 _ rfl)
  have HT : Hid (Below w.heap.size w (w.alloc (.cells #[.int .i64 k.i, .int .i64 k.s, .int .i64 k.w, .int .i64 k.g, .int .i64 k.p] 47))) := Lib.hid ((Below.refl _ _).alloc (Nat.le_refl _) _)
  have hs0 : (w.alloc (.cells #[.int .i64 k.i, .int .i64 k.s, .int .i64 k.w, .int .i64 k.g, .int .i64 k.p] 47)).heap.size = w.heap.size + 1 := by simp
  generalize w.alloc (.cells #[.int .i64 k.i, .int .i64 k.s, .int .i64 k.w, .int .i64 k.g, .int .i64 k.p] 47) = W0 at *
  refine (l3Good_c k _ l _ (HR.out.below HT.out rfl) hn).mono ?_
  rintro e w1 ⟨rfl, b1⟩
  have HB1 : Hid (Below (w.heap.size + 1) W0 w1) := Lib.hid (by rw [← hs0]; exact b1)
  have HT1 : Hid (Below w.heap.size w w1) := Lib.hid (HT.out.trans (b1.mono (by omega)))
  clear b1
  cases hg : good k l with
  | false =>
    have HGB := Lib.hid hg
    have HN := Lib.hid (vd_no hg)
    go_wp2
    go_ret2
    exact ⟨ret_s HN.out.symm HGB.out.symm, HT1.out⟩
  | true =>
    have HGB := Lib.hid hg
    have HG := Lib.hid (good_yes hg)
    clear hg
    have hab := allK_bd HG.out.kind
    have hal : k.s * k.w = allK k := rfl
    have HM10 := Lib.hid (fun W h => l3Most_c v l 10 (-1) W h HG.out.srt (by omega))
    have HM100 := Lib.hid (fun W h => l3Most_c v l 100 (-1) W h HG.out.srt (by omega))
    have hm1 := mst_bd HG.out.srt 10 (-1) l.length
    have hm2 := mst_bd HG.out.srt 100 (-1) l.length
    have hd1 : tmB k l 10 = decide (allK k < 20 * (mst l 10 (-1) l.length).2) := rfl
    have hd2 : tmB k l 100 = decide (allK k < 20 * (mst l 100 (-1) l.length).2) := rfl
    have HNo : Hid (tmB k l 10 = false → ∀ n, n ≤ (mst l 10 (-1) l.length).2 → ¬ k.w < 2 * n) := Lib.hid (fun h n hn => strand_no HG.out h hn)
    have HSt : Hid (∀ st, (mst l 10 st l.length).2 ≤ (mst l 10 (-1) l.length).2) := Lib.hid (fun st => mst_strand HG.out.srt 10 st)
    have HSb : Hid (∀ st, 0 ≤ (mst l 10 st l.length).2 ∧ (mst l 10 st l.length).2 ≤ 600) := Lib.hid (fun st => mst_bd HG.out.srt 10 st l.length)
    have HMs : Hid (∀ st W, Rs W v l.length (dmgs l) → _) := Lib.hid (fun st W h => l3Most_c v l 10 st W h HG.out.srt (by omega))
    generalize (mst l 10 (-1) l.length).2 = M at *
    generalize (mst l 10 (-1) l.length).1 = M1 at *
    generalize (mst l 100 (-1) l.length).2 = N at *
    generalize (mst l 100 (-1) l.length).1 = N1 at *
    generalize allK k = AL at *
    have e1 : IntKind.i64.wrap (k.s * k.w) = AL := by rw [hal]; exact IntWalk.i64_in _ (by omega)
    have e2 : IntKind.i64.wrap (20 * M) = 20 * M := IntWalk.i64_in _ (by omega)
    have e3 : IntKind.i64.wrap (20 * N) = 20 * N := IntWalk.i64_in _ (by omega)
    clear hal
    have HD1 := Lib.hid hd1
    have HD2 := Lib.hid hd2
    clear hd1 hd2
    obtain ⟨k0, k1, k2, k3, k4⟩ := HBX.out _ HB1.out
    go_wp2_with fail
    refine (HM10.out _ (HR.out.below HT1.out rfl)).mono ?_
    rintro e w3 ⟨rfl, b3⟩
    have HB3 : Hid (Below (w.heap.size + 1) W0 w3) := Lib.hid (HB1.out.trans (b3.mono (by have := HB1.out.size; omega)))
    have HT3 : Hid (Below w.heap.size w w3) := Lib.hid (HT1.out.trans (b3.mono HT1.out.size))
    clear b3 k0 k1 k2 k3 k4 HM10
    go_wp2_with fail
    refine (HM100.out _ (HR.out.below HT3.out rfl)).mono ?_
    rintro e w4 ⟨rfl, b4⟩
    have HB4 : Hid (Below (w.heap.size + 1) W0 w4) := Lib.hid (HB3.out.trans (b4.mono (by have := HB3.out.size; omega)))
    clear b4 HM100
    go_wp2_with fail
    go_loopw [11] (fun i wr => ∃ j : Nat, (j : Int) ≤ k.s ∧ i = .int .i64 j ∧ Hid (Below (w.heap.size + 1) W0 wr) ∧ (0 < j → ¬ AL < 20 * M)) (fun i _ => (k.s - intOf i).toNat)
    case atStart => exact ⟨0, by omega, rfl, HB4, fun h => by omega⟩
    case round =>
      obtain ⟨j, hj, rfl, hbl, hjm⟩ := hrel
      have HTr : Hid (Below w.heap.size w wr) := Lib.hid (HT.out.trans (hbl.out.mono (by omega)))
      have hwr := hbl.out.size
      obtain ⟨k0, k1, k2, k3, k4⟩ := HBX.out _ hbl.out
      by_cases hlt : (j : Int) < k.s
      · have hsb := HSb.out (j : Int)
        have hst := HSt.out (j : Int)
        have HM := Lib.hid (HMs.out (j : Int) wr (HR.out.below HTr.out rfl))
        generalize (mst l 10 (j : Int) l.length).2 = Q at *
        generalize (mst l 10 (j : Int) l.length).1 = Q1 at *
        have e4 : IntKind.i64.wrap (2 * Q) = 2 * Q := IntWalk.i64_in _ (by omega)
        go_wp2_with fail
        refine HM.out.mono ?_
        rintro e w5 ⟨rfl, b5⟩
        have HB5 : Hid (Below (w.heap.size + 1) W0 w5) := Lib.hid (hbl.out.trans (b5.mono (by omega)))
        have HT5 : Hid (Below w.heap.size w w5) := Lib.hid (HTr.out.trans (b5.mono HTr.out.size))
        clear b5 k0 k1 k2 k3 k4 HM hsb
        obtain ⟨k0, k1, k2, k3, k4⟩ := HBX.out _ HB5.out
        by_cases hrep : AL < 20 * M
        · have HV := Lib.hid (vd_r HGB.out (by rw [HD1.out]; exact decide_eq_true hrep))
          by_cases hq : k.w < 2 * Q
          · go_wp2
            go_ret2
            exact ⟨ret_s HV.out.symm HGB.out.symm, HT5.out⟩
          · go_wp2
            go_ret2
            exact ⟨ret_s HV.out.symm HGB.out.symm, HT5.out⟩
        · have hq := HNo.out (by rw [HD1.out]; exact decide_eq_false hrep) Q hst
          clear hst hjm
          go_wp2
          go_roundw
          case rel => exact ⟨j + 1, by omega, by go_num, HB5, fun _ => by omega⟩
          case measure => simp [intOf] <;> omega
      · have hrep := hjm (by omega)
        clear hjm k0 k1 k2 k3 k4
        obtain ⟨k0, k1, k2, k3, k4⟩ := HBX.out _ hbl.out
        have HF1 := Lib.hid (show tmB k l 10 = false by rw [HD1.out]; exact decide_eq_false hrep)
        by_cases hN : AL < 20 * N
        · have HV := Lib.hid (vd_w HGB.out HF1.out (by rw [HD2.out]; exact decide_eq_true hN))
          go_wp2
          go_ret2
          exact ⟨ret_s HV.out.symm HGB.out.symm, HTr.out⟩
        · have HV := Lib.hid (vd_g HGB.out HF1.out (by rw [HD2.out]; exact decide_eq_false hN))
          go_wp2
          go_ret2
          exact ⟨ret_s HV.out.symm HGB.out.symm, HTr.out⟩
end Go.Proofs.Yteglekfiannncaa
