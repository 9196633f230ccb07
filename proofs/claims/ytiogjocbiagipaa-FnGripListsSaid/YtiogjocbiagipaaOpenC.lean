/- OpenGrip: the program's and the specification's answer as one function. Condition: sizes. -/
import Derived.Test.YtiogjocbiagipaaSetG
namespace Go.Proofs.Ytiogjocbiagipaa
open Go.RowKit
set_option linter.unusedVariables false
/-- A grip that was opened once more and slipped by t. -/
def ogG (k : Grp) (t : Int) : Grp := ⟨k.i, k.s, k.w + t, k.g + 1, k.p⟩
noncomputable def ogIn (l : List Grp) (n t : Int) : Bool := giOk l n && inR t 0 99
noncomputable def ogOk (l : List Grp) (n t : Int) : Bool := ogIn l n t && isG (ogG (gth l (idxN l n)) t)
noncomputable def ogR (l : List Grp) (n t : Int) : List Grp := if ogOk l n t then l.set (idxN l n) (ogG (gth l (idxN l n)) t) else []
theorem ogR_len (l : List Grp) (n t : Int) : (ogR l n t).length ≤ l.length := by unfold ogR; split <;> simp
theorem og_no {l : List Grp} {n t : Int} (h : ogIn l n t = false) : ogOk l n t = false ∧ ogR l n t = [] := by
  have : ogOk l n t = false := by simp [ogOk, h]
  exact ⟨this, by simp [ogR, this]⟩
theorem og_yes {l : List Grp} {n t : Int} (h : ogIn l n t = true) : ogOk l n t = isG (ogG (gth l (idxN l n)) t) ∧ ogR l n t = if isG (ogG (gth l (idxN l n)) t) then l.set (idxN l n) (ogG (gth l (idxN l n)) t) else [] := by
  have : ogOk l n t = isG (ogG (gth l (idxN l n)) t) := by simp [ogOk, h]
  exact ⟨this, by rw [ogR, this]⟩
theorem gi_yes {l : List Grp} {n : Int} (h : giOk l n = true) : GrpV l ∧ grpL l = true ∧ idxN l n < l.length ∧ giV l n = (idxN l n : Int) ∧ idxV l n = (idxN l n : Int) := by
  unfold giOk at h
  rw [Bool.and_eq_true, decide_eq_true_eq] at h
  have e : idxV l n = (idxN l n : Int) := by unfold idxV; rw [if_pos h.2]
  exact ⟨grpL_yes h.1, h.1, h.2, by unfold giV; rw [if_pos h.1, e], e⟩
set_option maxRecDepth 100000 in
set_option maxHeartbeats 4000000 in
theorem implOpenGrip_c (v : Value) (l : List Grp) (n t : Int) (w : World) (hr : Rs w v l.length (grps l)) (hn : l.length ≤ 1048576) (hwn : (Lit.int .i64 n).wf = true) (hwt : (Lit.int .i64 t).wf = true) :
    Calls Try.prog 38 #[v, .int .i64 n, .int .i64 t] w fun e w' => ∃ g, e = .returned (.tuple #[g, .bool (ogOk l n t)]) ∧ w'.ownsRow w.heap.size 25 5 g (ogR l n t).length (grps (ogR l n t)) ∧ Below w.heap.size w w' := by
  have HR := Lib.hid hr
  have hd : ogIn l n t = (giOk l n && inR t 0 99) := rfl
  clear hr hwn hwt
  have E0 := Lib.hid (fun W h => gripIndex_c v l n W h hn)
  have E1 := Lib.hid (fun W => within_c t 0 99 W)
  cases hg : giOk l n with
  | false =>
    rw [hg] at E0 hd
    have HN := Lib.hid (og_no (l := l) (n := n) (t := t) (by rw [hd]; rfl))
    clear hg hd E1
    go_enter Try.func38, Try.ntmps38
    go_wp2_with fail
    refine (E0.out _ HR.out).mono ?_
    rintro e w1 ⟨rfl, b1⟩
    have HT := Lib.hid b1
    clear b1
    go_wp2
    go_ret2
    exact ⟨_, ret_v HN.out.1.symm, by rw [HN.out.2]; exact World.ownsRow_made _ #[] 0 HT.out.size (by decide) rfl, HT.out.alloc HT.out.size _⟩
  | true =>
    cases hm : inR t 0 99 with
    | false =>
      rw [hg] at E0
      rw [hm] at E1
      rw [hg, hm] at hd
      have HN := Lib.hid (og_no (l := l) (n := n) (t := t) (by rw [hd]; rfl))
      clear hg hm hd
      go_enter Try.func38, Try.ntmps38
      go_wp2_with fail
      refine (E0.out _ HR.out).mono ?_
      rintro e w1 ⟨rfl, b1⟩
      go_wp2_with fail
      refine (E1.out _).mono ?_
      rintro e w2 ⟨rfl, rfl⟩
      have HT := Lib.hid b1
      clear b1
      go_wp2
      go_ret2
      exact ⟨_, ret_v HN.out.1.symm, by rw [HN.out.2]; exact World.ownsRow_made _ #[] 0 HT.out.size (by decide) rfl, HT.out.alloc HT.out.size _⟩
    | true =>
      obtain ⟨hV, hL, hix, hgv, hiv⟩ := gi_yes hg
      rw [hg, hgv] at E0
      rw [hm] at E1
      rw [hg, hm] at hd
      have ht := (inR_iff t 0 99).1 hm
      have HY := Lib.hid (og_yes (l := l) (n := n) (t := t) (by rw [hd]; rfl))
      have hok := (isG_iff _).1 (hV.ok (idxN l n) hix).1
      have h12 := hV.len
      have HIX := Lib.hid hix
      obtain ⟨ao, a, oa, ca, rfl, hao, hat⟩ := HR.out.form_Grp
      obtain ⟨rfl, hla, hlm⟩ := hao (by omega)
      have HC := Lib.hid (fun (W : World) (hW : Below w.heap.size w W) => (hat.below hW hla) (idxN l n) hix)
      unfold ogG at HY
      generalize gth l (idxN l n) = D at *
      generalize idxN l n = k at *
      have k1 : (0 : Int) ≤ (k : Int) := by omega
      have k2 : ¬ (k : Int) < 0 := by omega
      have k3 : (k : Int) < (l.length : Int) := by omega
      have e1 : IntKind.i64.wrap (D.g + 1) = D.g + 1 := IntWalk.i64_in _ (by omega)
      have e2 : IntKind.i64.wrap (D.w + t) = D.w + t := IntWalk.i64_in _ (by omega)
      clear hg hm hd hL hgv hiv hV hat hao hix
      go_enter Try.func38, Try.ntmps38
      go_wp2_with fail
      refine (E0.out _ HR.out).mono ?_
      rintro e w1 ⟨rfl, b1⟩
      go_wp2_with fail
      refine (E1.out _).mono ?_
      rintro e w2 ⟨rfl, rfl⟩
      have HT := Lib.hid b1
      clear b1
      obtain ⟨c0, c1, c2, c3, c4⟩ := HC.out _ HT.out
      have HBL := Lib.hid (HT.out.alloc HT.out.size (.cells #[.int .i64 D.i, .int .i64 D.s, .int .i64 (D.w + t), .int .i64 (D.g + 1), .int .i64 D.p] 25))
      go_wp2_with fail
      generalize w2.alloc (.cells #[.int .i64 D.i, .int .i64 D.s, .int .i64 (D.w + t), .int .i64 (D.g + 1), .int .i64 D.p] 25) = WB at *
      refine (withGrip_c _ l k ⟨D.i, D.s, D.w + t, D.g + 1, D.p⟩ WB (HR.out.below HBL.out rfl) h12 HIX.out).mono ?_
      rintro e w5 ⟨gg, rfl, o5, b5⟩
      have HB5 := Lib.hid (HBL.out.trans (b5.mono HBL.out.size))
      have HO5 := Lib.hid (own_mono o5 HBL.out.size)
      clear o5 b5 c0 c1 c2 c3 c4
      go_wp2
      go_ret2
      refine ⟨_, ret_v HY.out.1.symm, ?_, HB5.out⟩
      rw [HY.out.2]
      exact HO5.out
set_option maxRecDepth 100000 in
set_option maxHeartbeats 4000000 in
theorem specOpenGrip_c (v : Value) (l : List Grp) (n t : Int) (w : World) (hr : Rs w v l.length (grps l)) (hn : l.length ≤ 1048576) (hwn : (Lit.int .i64 n).wf = true) (hwt : (Lit.int .i64 t).wf = true) :
    Calls Try.prog 39 #[v, .int .i64 n, .int .i64 t] w fun e w' => ∃ g, e = .returned (.tuple #[g, .bool (ogOk l n t)]) ∧ w'.ownsRow w.heap.size 25 5 g (ogR l n t).length (grps (ogR l n t)) ∧ Below w.heap.size w w' := by
  have HR := Lib.hid hr
  have hd : ogIn l n t = (giOk l n && inR t 0 99) := rfl
  clear hr hwn hwt
  have E0 := Lib.hid (fun W h => l7Find_c v l n W h hn)
  have E1 := Lib.hid (fun W h => l7Good_c v l W h hn)
  have E2 := Lib.hid (fun W => l1In_c t 0 99 W)
  have hgd : giOk l n = (grpL l && decide (0 ≤ idxV l n)) := by rw [idxV_nn]; rfl
  cases hk : grpL l with
  | false =>
    rw [hk] at E1 hgd
    have HN := Lib.hid (og_no (l := l) (n := n) (t := t) (by rw [hd, hgd]; rfl))
    generalize idxV l n = I at *
    clear hk hd hgd E2
    go_enter Try.func39, Try.ntmps39
    go_wp2_with fail
    refine (E0.out _ HR.out).mono ?_
    rintro e w1 ⟨rfl, b1⟩
    go_wp2_with fail
    refine (E1.out _ (HR.out.below b1 rfl)).mono ?_
    rintro e w2 ⟨rfl, b2⟩
    have HT := Lib.hid (b1.trans (b2.mono b1.size))
    clear b1 b2
    go_wp2
    go_ret2
    exact ⟨_, ret_v HN.out.1.symm, by rw [HN.out.2]; exact World.ownsRow_made _ #[] 0 HT.out.size (by decide) rfl, HT.out.alloc HT.out.size _⟩
  | true =>
    by_cases hI : 0 ≤ idxV l n
    · skip
      cases hm : inR t 0 99 with
      | false =>
        rw [hk] at E1
        rw [hm] at E2 hd
        have HN := Lib.hid (og_no (l := l) (n := n) (t := t) (by rw [hd]; simp))
        generalize idxV l n = I at *
        have t1 : decide (I < 0) = false := by simp; omega
        clear hk hm hd hgd
        go_enter Try.func39, Try.ntmps39
        go_wp2_with fail
        refine (E0.out _ HR.out).mono ?_
        rintro e w1 ⟨rfl, b1⟩
        go_wp2_with fail
        refine (E1.out _ (HR.out.below b1 rfl)).mono ?_
        rintro e w2 ⟨rfl, b2⟩
        have HT := Lib.hid (b1.trans (b2.mono b1.size))
        clear b1 b2
        go_wp2_with fail
        refine (E2.out _).mono ?_
        rintro e w3 ⟨rfl, rfl⟩
        go_wp2
        go_ret2
        exact ⟨_, ret_v HN.out.1.symm, by rw [HN.out.2]; exact World.ownsRow_made _ #[] 0 HT.out.size (by decide) rfl, HT.out.alloc HT.out.size _⟩
      | true =>
        have hg : giOk l n = true := by rw [hgd, hk]; simpa using hI
        obtain ⟨hV, hL, hix, hgv, hiv⟩ := gi_yes hg
        rw [hiv] at E0
        rw [hk] at E1
        rw [hm] at E2
        rw [hg, hm] at hd
        clear hk hgd hI
        have ht := (inR_iff t 0 99).1 hm
        have HY := Lib.hid (og_yes (l := l) (n := n) (t := t) (by rw [hd]; rfl))
        have HGS := Lib.hid (grpL_set hV hix (x := ogG (gth l (idxN l n)) t) rfl)
        have hok := (isG_iff _).1 (hV.ok (idxN l n) hix).1
        have h12 := hV.len
        have HIX := Lib.hid hix
        obtain ⟨ao, a, oa, ca, rfl, hao, hat⟩ := HR.out.form_Grp
        obtain ⟨rfl, hla, hlm⟩ := hao (by omega)
        have HC := Lib.hid (fun (W : World) (hW : Below w.heap.size w W) => (hat.below hW hla) (idxN l n) hix)
        unfold ogG at HY HGS
        generalize gth l (idxN l n) = D at *
        generalize idxN l n = k at *
        have k1 : (0 : Int) ≤ (k : Int) := by omega
        have k2 : ¬ (k : Int) < 0 := by omega
        have k3 : (k : Int) < (l.length : Int) := by omega
        have e1 : IntKind.i64.wrap (D.g + 1) = D.g + 1 := IntWalk.i64_in _ (by omega)
        have e2 : IntKind.i64.wrap (D.w + t) = D.w + t := IntWalk.i64_in _ (by omega)
        clear hg hm hd hL hgv hiv hV hat hao hix
        go_enter Try.func39, Try.ntmps39
        go_wp2_with fail
        refine (E0.out _ HR.out).mono ?_
        rintro e w1 ⟨rfl, b1⟩
        go_wp2_with fail
        refine (E1.out _ (HR.out.below b1 rfl)).mono ?_
        rintro e w2 ⟨rfl, b2⟩
        have HT := Lib.hid (b1.trans (b2.mono b1.size))
        clear b1 b2
        go_wp2_with fail
        refine (E2.out _).mono ?_
        rintro e w3 ⟨rfl, rfl⟩
        obtain ⟨c0, c1, c2, c3, c4⟩ := HC.out _ HT.out
        have HBL := Lib.hid (HT.out.alloc HT.out.size (.cells #[.int .i64 D.i, .int .i64 D.s, .int .i64 (D.w + t), .int .i64 (D.g + 1), .int .i64 D.p] 25))
        go_wp2_with fail
        generalize w3.alloc (.cells #[.int .i64 D.i, .int .i64 D.s, .int .i64 (D.w + t), .int .i64 (D.g + 1), .int .i64 D.p] 25) = WB at *
        refine (l7With_c _ l k ⟨D.i, D.s, D.w + t, D.g + 1, D.p⟩ WB (HR.out.below HBL.out rfl) h12 HIX.out).mono ?_
        rintro e w5 ⟨gg, rfl, o5, b5⟩
        have HB5 := Lib.hid (HBL.out.trans (b5.mono HBL.out.size))
        have HO5 := Lib.hid (own_mono o5 HBL.out.size)
        clear o5 b5 c0 c1 c2 c3 c4
        rw [HGS.out] at HO5 ⊢
        go_wp2
        go_ret2
        refine ⟨_, ret_v HY.out.1.symm, ?_, HB5.out⟩
        rw [HY.out.2]
        exact HO5.out
    · skip
      have HN := Lib.hid (og_no (l := l) (n := n) (t := t) (by rw [hd, hgd, hk]; simp [hI]))
      rw [hk] at E1
      generalize idxV l n = I at *
      have t1 : decide (I < 0) = true := by simp; omega
      clear hk hd hgd E2
      go_enter Try.func39, Try.ntmps39
      go_wp2_with fail
      refine (E0.out _ HR.out).mono ?_
      rintro e w1 ⟨rfl, b1⟩
      go_wp2_with fail
      refine (E1.out _ (HR.out.below b1 rfl)).mono ?_
      rintro e w2 ⟨rfl, b2⟩
      have HT := Lib.hid (b1.trans (b2.mono b1.size))
      clear b1 b2
      go_wp2
      go_ret2
      exact ⟨_, ret_v HN.out.1.symm, by rw [HN.out.2]; exact World.ownsRow_made _ #[] 0 HT.out.size (by decide) rfl, HT.out.alloc HT.out.size _⟩
end Go.Proofs.Ytiogjocbiagipaa
