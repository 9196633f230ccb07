/- TestGrip: the program's and the specification's answer as one function. Condition: sizes. -/
import Derived.Test.YtiogjocbiagipaaOpenC
namespace Go.Proofs.Ytiogjocbiagipaa
open Go.RowKit
set_option linter.unusedVariables false
noncomputable def tgIn (l : List Grp) (n d : Int) : Bool := giOk l n && decide ((gth l (idxN l n)).p ≤ d)
noncomputable def tgOk (l : List Grp) (n f d : Int) : Bool := tgIn l n d && isG ⟨n, f, 0, 0, d⟩
noncomputable def tgR (l : List Grp) (n f d : Int) : List Grp := if tgOk l n f d then l.set (idxN l n) ⟨n, f, 0, 0, d⟩ else []
theorem tgR_len (l : List Grp) (n f d : Int) : (tgR l n f d).length ≤ l.length := by unfold tgR; split <;> simp
theorem tg_no {l : List Grp} {n f d : Int} (h : tgIn l n d = false) : tgOk l n f d = false ∧ tgR l n f d = [] := by
  have : tgOk l n f d = false := by simp [tgOk, h]
  exact ⟨this, by simp [tgR, this]⟩
theorem tg_yes {l : List Grp} {n f d : Int} (h : tgIn l n d = true) : tgOk l n f d = isG ⟨n, f, 0, 0, d⟩ ∧ tgR l n f d = if isG ⟨n, f, 0, 0, d⟩ then l.set (idxN l n) ⟨n, f, 0, 0, d⟩ else [] := by
  have : tgOk l n f d = isG ⟨n, f, 0, 0, d⟩ := by simp [tgOk, h]
  exact ⟨this, by rw [tgR, this]⟩
set_option maxRecDepth 100000 in
set_option maxHeartbeats 4000000 in
theorem implTestGrip_c (v : Value) (l : List Grp) (n f d : Int) (w : World) (hr : Rs w v l.length (grps l)) (hn : l.length ≤ 1048576) (hwn : (Lit.int .i64 n).wf = true) (hwf : (Lit.int .i64 f).wf = true) (hwd : (Lit.int .i64 d).wf = true) :
    Calls Try.prog 25 #[v, .int .i64 n, .int .i64 f, .int .i64 d] w fun e w' => ∃ g, e = .returned (.tuple #[g, .bool (tgOk l n f d)]) ∧ w'.ownsRow w.heap.size 25 5 g (tgR l n f d).length (grps (tgR l n f d)) ∧ Below w.heap.size w w' := by
  have HR := Lib.hid hr
  have hd : tgIn l n d = (giOk l n && decide ((gth l (idxN l n)).p ≤ d)) := rfl
  clear hr hwn hwf hwd
  have E0 := Lib.hid (fun W h => gripIndex_c v l n W h hn)
  cases hg : giOk l n with
  | false =>
    rw [hg] at E0 hd
    have HN := Lib.hid (tg_no (l := l) (n := n) (f := f) (d := d) (by rw [hd]; rfl))
    clear hg hd
    go_enter Try.func25, Try.ntmps25
    go_wp2_with fail
    refine (E0.out _ HR.out).mono ?_
    rintro e w1 ⟨rfl, b1⟩
    have HT := Lib.hid b1
    clear b1
    go_wp2
    go_ret2
    exact ⟨_, ret_v HN.out.1.symm, by rw [HN.out.2]; exact World.ownsRow_made _ #[] 0 HT.out.size (by decide) rfl, HT.out.alloc HT.out.size _⟩
  | true =>
    obtain ⟨hV, hL, hix, hgv, hiv⟩ := gi_yes hg
    rw [hg, hgv] at E0
    rw [hg] at hd
    have hni := idxN_at hix
    have HY := Lib.hid (fun (h : tgIn l n d = true) => tg_yes (l := l) (n := n) (f := f) (d := d) h)
    have HNN := Lib.hid (fun (h : tgIn l n d = false) => tg_no (l := l) (n := n) (f := f) (d := d) h)
    rw [hd] at HY HNN
    have h12 := hV.len
    have HIX := Lib.hid hix
    obtain ⟨ao, a, oa, ca, rfl, hao, hat⟩ := HR.out.form_Grp
    obtain ⟨rfl, hla, hlm⟩ := hao (by omega)
    have HC := Lib.hid (fun (W : World) (hW : Below w.heap.size w W) => (hat.below hW hla) (idxN l n) hix)
    clear hni
    generalize gth l (idxN l n) = D at *
    generalize idxN l n = k at *
    have k1 : (0 : Int) ≤ (k : Int) := by omega
    have k2 : ¬ (k : Int) < 0 := by omega
    have k3 : (k : Int) < (l.length : Int) := by omega
    clear hg hd hL hgv hiv hV hat hao hix
    by_cases hday : d < D.p
    · have t1 : decide (d < D.p) = true := by simpa using hday
      have HN := Lib.hid (HNN.out (by simp; omega))
      clear hday HY HNN
      go_enter Try.func25, Try.ntmps25
      go_wp2_with fail
      refine (E0.out _ HR.out).mono ?_
      rintro e w1 ⟨rfl, b1⟩
      have HT := Lib.hid b1
      clear b1
      obtain ⟨c0, c1, c2, c3, c4⟩ := HC.out _ HT.out
      go_wp2
      go_ret2
      exact ⟨_, ret_v HN.out.1.symm, by rw [HN.out.2]; exact World.ownsRow_made _ #[] 0 HT.out.size (by decide) rfl, HT.out.alloc HT.out.size _⟩
    · have t1 : decide (d < D.p) = false := by simpa using hday
      have HY := Lib.hid (HY.out (by simp; omega))
      clear hday HNN
      go_enter Try.func25, Try.ntmps25
      go_wp2_with fail
      refine (E0.out _ HR.out).mono ?_
      rintro e w1 ⟨rfl, b1⟩
      have HT := Lib.hid b1
      clear b1
      obtain ⟨c0, c1, c2, c3, c4⟩ := HC.out _ HT.out
      go_wp2_with fail
      refine (withGrip_c _ l k ⟨n, f, 0, 0, d⟩ _ (HR.out.below HT.out rfl) h12 HIX.out).mono ?_
      rintro e w5 ⟨gg, rfl, o5, b5⟩
      have HB5 := Lib.hid (HT.out.trans (b5.mono HT.out.size))
      have HO5 := Lib.hid (own_mono o5 HT.out.size)
      clear o5 b5 c0 c1 c2 c3 c4
      go_wp2
      go_ret2
      refine ⟨_, ret_v HY.out.1.symm, ?_, HB5.out⟩
      rw [HY.out.2]
      exact HO5.out
set_option maxRecDepth 100000 in
set_option maxHeartbeats 4000000 in
theorem specTestGrip_c (v : Value) (l : List Grp) (n f d : Int) (w : World) (hr : Rs w v l.length (grps l)) (hn : l.length ≤ 1048576) (hwn : (Lit.int .i64 n).wf = true) (hwf : (Lit.int .i64 f).wf = true) (hwd : (Lit.int .i64 d).wf = true) :
    Calls Try.prog 26 #[v, .int .i64 n, .int .i64 f, .int .i64 d] w fun e w' => ∃ g, e = .returned (.tuple #[g, .bool (tgOk l n f d)]) ∧ w'.ownsRow w.heap.size 25 5 g (tgR l n f d).length (grps (tgR l n f d)) ∧ Below w.heap.size w w' := by
  have HR := Lib.hid hr
  have hd : tgIn l n d = (giOk l n && decide ((gth l (idxN l n)).p ≤ d)) := rfl
  clear hr hwn hwf hwd
  have E0 := Lib.hid (fun W h => l7Find_c v l n W h hn)
  have E1 := Lib.hid (fun W h => l7Good_c v l W h hn)
  have hgd : giOk l n = (grpL l && decide (0 ≤ idxV l n)) := by rw [idxV_nn]; rfl
  cases hk : grpL l with
  | false =>
    rw [hk] at E1 hgd
    have HN := Lib.hid (tg_no (l := l) (n := n) (f := f) (d := d) (by rw [hd, hgd]; rfl))
    generalize idxV l n = I at *
    clear hk hd hgd
    go_enter Try.func26, Try.ntmps26
    go_wp2_with fail
    refine (E0.out _ HR.out).mono ?_
    rintro e w1 ⟨rfl, b1⟩
    go_wp2_with fail
    refine (E1.out _ (HR.out.below b1 rfl)).mono ?_
    rintro e w2 ⟨rfl, b2⟩
    have HT := Lib.hid (b1.trans (b2.mono b1.size))
    clear b1 b2
    go_wp2
    go_ret2
    exact ⟨_, ret_v HN.out.1.symm, by rw [HN.out.2]; exact World.ownsRow_made _ #[] 0 HT.out.size (by decide) rfl, HT.out.alloc HT.out.size _⟩
  | true =>
    by_cases hI : 0 ≤ idxV l n
    · skip
      have hg : giOk l n = true := by rw [hgd, hk]; simpa using hI
      obtain ⟨hV, hL, hix, hgv, hiv⟩ := gi_yes hg
      rw [hiv] at E0
      rw [hk] at E1
      rw [hg] at hd
      clear hk hgd hI
      have hni := idxN_at hix
      have HGS := Lib.hid (grpL_set hV hix (x := ⟨n, f, 0, 0, d⟩) hni.symm)
      have HY := Lib.hid (fun (h : tgIn l n d = true) => tg_yes (l := l) (n := n) (f := f) (d := d) h)
      have HNN := Lib.hid (fun (h : tgIn l n d = false) => tg_no (l := l) (n := n) (f := f) (d := d) h)
      rw [hd] at HY HNN
      have h12 := hV.len
      have HIX := Lib.hid hix
      obtain ⟨ao, a, oa, ca, rfl, hao, hat⟩ := HR.out.form_Grp
      obtain ⟨rfl, hla, hlm⟩ := hao (by omega)
      have HC := Lib.hid (fun (W : World) (hW : Below w.heap.size w W) => (hat.below hW hla) (idxN l n) hix)
      clear hni
      generalize gth l (idxN l n) = D at *
      generalize idxN l n = k at *
      have k1 : (0 : Int) ≤ (k : Int) := by omega
      have k2 : ¬ (k : Int) < 0 := by omega
      have k3 : (k : Int) < (l.length : Int) := by omega
      clear hg hd hL hgv hiv hV hat hao hix
      by_cases hday : d < D.p
      · have t1 : decide (d < D.p) = true := by simpa using hday
        have HN := Lib.hid (HNN.out (by simp; omega))
        clear hday HY HNN
        go_enter Try.func26, Try.ntmps26
        go_wp2_with fail
        refine (E0.out _ HR.out).mono ?_
        rintro e w1 ⟨rfl, b1⟩
        go_wp2_with fail
        refine (E1.out _ (HR.out.below b1 rfl)).mono ?_
        rintro e w2 ⟨rfl, b2⟩
        have HT := Lib.hid (b1.trans (b2.mono b1.size))
        clear b1 b2
        obtain ⟨c0, c1, c2, c3, c4⟩ := HC.out _ HT.out
        go_wp2
        go_ret2
        exact ⟨_, ret_v HN.out.1.symm, by rw [HN.out.2]; exact World.ownsRow_made _ #[] 0 HT.out.size (by decide) rfl, HT.out.alloc HT.out.size _⟩
      · have t1 : decide (d < D.p) = false := by simpa using hday
        have HY := Lib.hid (HY.out (by simp; omega))
        clear hday HNN
        go_enter Try.func26, Try.ntmps26
        go_wp2_with fail
        refine (E0.out _ HR.out).mono ?_
        rintro e w1 ⟨rfl, b1⟩
        go_wp2_with fail
        refine (E1.out _ (HR.out.below b1 rfl)).mono ?_
        rintro e w2 ⟨rfl, b2⟩
        have HT := Lib.hid (b1.trans (b2.mono b1.size))
        clear b1 b2
        obtain ⟨c0, c1, c2, c3, c4⟩ := HC.out _ HT.out
        go_wp2_with fail
        refine (l7With_c _ l k ⟨n, f, 0, 0, d⟩ _ (HR.out.below HT.out rfl) h12 HIX.out).mono ?_
        rintro e w5 ⟨gg, rfl, o5, b5⟩
        have HB5 := Lib.hid (HT.out.trans (b5.mono HT.out.size))
        have HO5 := Lib.hid (own_mono o5 HT.out.size)
        clear o5 b5 c0 c1 c2 c3 c4
        rw [HGS.out] at HO5 ⊢
        go_wp2
        go_ret2
        refine ⟨_, ret_v HY.out.1.symm, ?_, HB5.out⟩
        rw [HY.out.2]
        exact HO5.out
    · skip
      have HN := Lib.hid (tg_no (l := l) (n := n) (f := f) (d := d) (by rw [hd, hgd, hk]; simp [hI]))
      rw [hk] at E1
      generalize idxV l n = I at *
      have t1 : decide (I < 0) = true := by simp; omega
      clear hk hd hgd
      go_enter Try.func26, Try.ntmps26
      go_wp2_with fail
      refine (E0.out _ HR.out).mono ?_
      rintro e w1 ⟨rfl, b1⟩
      go_wp2_with fail
      refine (E1.out _ (HR.out.below b1 rfl)).mono ?_
      rintro e w2 ⟨rfl, b2⟩
      have HT := Lib.hid (b1.trans (b2.mono b1.size))
      clear b1 b2
      go_wp2
      go_ret2
      exact ⟨_, ret_v HN.out.1.symm, by rw [HN.out.2]; exact World.ownsRow_made _ #[] 0 HT.out.size (by decide) rfl, HT.out.alloc HT.out.size _⟩
end Go.Proofs.Ytiogjocbiagipaa
