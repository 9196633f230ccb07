/- Two profiles joined: the program's and the specification's answer as one function. Condition: sizes. -/
import Derived.Test.YtklfipmjdhkkiaaProfQ
import Derived.Deep.QuietTactic
import Derived.BigQuiet
namespace Go.Proofs.Ytklfipmjdhkkiaa
open Go.RowKit
set_option linter.unusedVariables false
theorem q9_prof (v : Value) (l : List Int) (b : Bool) (w : World) (hr : Rd w v (intVs l)) (hn : l.length ≤ 1048576) (h : p9V l = b) (n : Nat) :
    Calls Try.prog 23 #[v] (w.drewN n) fun e w'' => e = .returned (.bool b) ∧ ∃ m, w'' = w.drewN m :=
  (implIsProfile_q v l _ (hr.drewN n) hn).mono fun _ _ ⟨he, hw⟩ => ⟨by rw [← h]; exact he, n, hw⟩
theorem q9_good (v : Value) (l : List Int) (b : Bool) (w : World) (hr : Rd w v (intVs l)) (hn : l.length ≤ 1048576) (h : p9V l = b) (n : Nat) :
    Calls Try.prog 46 #[v] (w.drewN n) fun e w'' => e = .returned (.bool b) ∧ ∃ m, w'' = w.drewN m :=
  (l9Good_q v l _ (hr.drewN n) hn).mono fun _ _ ⟨he, hw⟩ => ⟨by rw [← h]; exact he, n, hw⟩
theorem own_cap {w : World} {B : Nat} {e : TypeId} {size n : Nat} {v : Value} {xs : List Value} (h : w.ownsRow B e size v n xs) : ∀ ao m c, v = .slice ao m c → m ≤ c := by
  intro ao m c hv
  rcases own_form h with ⟨_, rfl⟩ | ⟨g, cap, rfl, _, _, hc, _⟩
  · cases hv; exact Nat.le_refl _
  · cases hv; exact hc
theorem jn_no1 {a b : List Int} (h : p9V a = false) : jnOk a b = false ∧ jnR a b = [] := by
  have : jnOk a b = false := by simp [jnOk, jnIn, h]
  exact ⟨this, by simp [jnR, this]⟩
theorem jn_no2 {a b : List Int} (h : p9V b = false) : jnOk a b = false ∧ jnR a b = [] := by
  have : jnOk a b = false := by simp [jnOk, jnIn, h]
  exact ⟨this, by simp [jnR, this]⟩
theorem jn_no3 {a b : List Int} (h : (a.getD (a.length - 1) 0 == b.getD 0 0) = false) : jnOk a b = false ∧ jnR a b = [] := by
  have : jnOk a b = false := by unfold jnOk jnIn; rw [h]; simp
  exact ⟨this, by simp [jnR, this]⟩
theorem jn_in {a b : List Int} (h : p9V a = true) (g : p9V b = true) (e : (a.getD (a.length - 1) 0 == b.getD 0 0) = true) : jnIn a b = true := by unfold jnIn; rw [h, g, e]; rfl
theorem jnR_yes {a b : List Int} (h : jnOk a b = true) : jnR a b = a ++ b.drop 1 := by simp [jnR, h]
theorem jnR_no {a b : List Int} (h : jnOk a b = false) : jnR a b = [] := by simp [jnR, h]
theorem jn_dec {a b : List Int} (h : jnIn a b = true) : jnOk a b = decide (a.length + b.length ≤ 31) := by simp [jnOk, h]
theorem drop_one {l : List Int} (h : l.length = 1) : l.drop 1 = [] := List.eq_nil_of_length_eq_zero (by rw [List.length_drop, h])

set_option maxRecDepth 100000 in
set_option maxHeartbeats 4000000 in
theorem implJoinProfiles_c (va : Value) (a : List Int) (vb : Value) (b : List Int) (w : World) (hra : Rd w va (intVs a)) (hna : a.length ≤ 1048576) (hrb : Rd w vb (intVs b)) (hcb : ∀ ao m c, vb = .slice ao m c → m ≤ c) (hnb : b.length ≤ 1048576) :
    Calls Try.prog 15 #[va, vb] w fun e w' => ∃ g, e = .returned (.tuple #[g, .bool (jnOk a b)]) ∧ w'.ownsRow w.heap.size 3 1 g (jnR a b).length (intVs (jnR a b)) ∧ Below w.heap.size w w' := by
  obtain ⟨i0, hi, hz0, hz1, hz2⟩ := info_parts Try.infoIntR
  have HRA := Lib.hid hra
  have HRB := Lib.hid hrb
  obtain ⟨aa, ba, oa, ca, rfl, haa, hata⟩ := hra.formR
  obtain ⟨ab, bb, ob, cb, rfl, hab, hatb⟩ := hrb.formR
  have hcap := hcb _ _ _ rfl
  have HAA := Lib.hid haa
  have HLA := Lib.hid hata
  have HAB := Lib.hid hab
  have HLB := Lib.hid hatb
  clear hra hrb haa hata hab hatb hcb
  cases hk : p9V a with
  | false =>
    have HX := Lib.hid (jn_no1 (b := b) hk)
    have HKA := Lib.hid hk
    clear hk
    go_enter Try.func15, Try.ntmps15
    go_wp2_with fail
    have HQA := Lib.hid (q9_prof _ a _ w HRA.out hna HKA.out)
    go_quiet ((first | (go_at_call 23; with_reducible exact HQA.out _) | fail))
    go_wp2
    go_ret2
    exact ⟨_, ret_vR HX.out.1.symm, by rw [HX.out.2]; exact World.ownsRow_made _ #[] 0 (by first | exact Nat.le_refl _ | simp) (by decide) rfl, (below_drewN (Below.refl _ _) _).alloc (by first | exact Nat.le_refl _ | simp) _⟩
  | true =>
    cases hm : p9V b with
    | false =>
      have HX := Lib.hid (jn_no2 (a := a) hm)
      have HKA := Lib.hid hk
      have HKB := Lib.hid hm
      clear hk hm
      go_enter Try.func15, Try.ntmps15
      go_wp2_with fail
      have HQA := Lib.hid (q9_prof _ a _ w HRA.out hna HKA.out)
      have HQB := Lib.hid (q9_prof _ b _ w HRB.out hnb HKB.out)
      go_quiet ((first | (go_at_call 23; with_reducible exact HQA.out _) | (go_at_call 23; with_reducible exact HQB.out _) | fail))
      go_wp2
      go_ret2
      exact ⟨_, ret_vR HX.out.1.symm, by rw [HX.out.2]; exact World.ownsRow_made _ #[] 0 (by first | exact Nat.le_refl _ | simp) (by decide) rfl, (below_drewN (Below.refl _ _) _).alloc (by first | exact Nat.le_refl _ | simp) _⟩
    | true =>
      have HPA := Lib.hid ((p9V_iff a).1 hk)
      have HPB := Lib.hid ((p9V_iff b).1 hm)
      obtain ⟨hla1, hla30⟩ := HPA.out.1
      obtain ⟨hlb1, hlb30⟩ := HPB.out.1
      obtain ⟨rfl, haw, _⟩ := HAA.out (by omega)
      obtain ⟨rfl, hbw, _⟩ := HAB.out (by omega)
      have ca0 := HLA.out (a.length - 1) (by omega)
      have cb0 := HLB.out 0 (by omega)
      rw [Nat.add_zero] at cb0
      obtain ⟨p1, p2, p3⟩ := pred_in a.length (by omega) (by omega)
      have t1 : (a.length : Int) - 1 < (a.length : Int) := by omega
      have t2 : (0 : Int) < (b.length : Int) := by omega
      have t3 : 0 < b.length := by omega
      have t4 : (1 : Int) ≤ (a.length : Int) := by omega
      have t5 : (1 : Int) ≤ (b.length : Int) := by omega
      have t6 : (0 : Int) < (a.length : Int) := by omega
      cases he : (a.getD (a.length - 1) 0 == b.getD 0 0) with
      | false =>
        have HX := Lib.hid (jn_no3 he)
        have HKA := Lib.hid hk
        have HKB := Lib.hid hm
        clear hk hm
        generalize a.getD (a.length - 1) 0 = X at *
        generalize b.getD 0 0 = Y at *
        have t9 : (X != Y) = true := by rw [bne, he]; rfl
        go_enter Try.func15, Try.ntmps15
        go_wp2_with fail
        have HQA := Lib.hid (q9_prof _ a _ w HRA.out hna HKA.out)
        have HQB := Lib.hid (q9_prof _ b _ w HRB.out hnb HKB.out)
        go_quiet ((first | (go_at_call 23; with_reducible exact HQA.out _) | (go_at_call 23; with_reducible exact HQB.out _) | fail))
        clear ca0 cb0
        go_wp2
        go_ret2
        exact ⟨_, ret_vR HX.out.1.symm, by rw [HX.out.2]; exact World.ownsRow_made _ #[] 0 (by first | exact Nat.le_refl _ | simp) (by decide) rfl, (below_drewN (Below.refl _ _) _).alloc (by first | exact Nat.le_refl _ | simp) _⟩
      | true =>
        have HI := Lib.hid (jn_in hk hm he)
        have HD := Lib.hid (jn_dec HI.out)
        have HP9 := Lib.hid (jn_p9 HI.out)
        have HKA := Lib.hid hk
        have HKB := Lib.hid hm
        clear hk hm
        generalize a.getD (a.length - 1) 0 = X at *
        generalize b.getD 0 0 = Y at *
        have t9 : (X != Y) = false := by rw [bne, he]; rfl
        have HDL : Hid ((a ++ b.drop 1).length = a.length + (b.length - 1)) := Lib.hid (by simp)
        have hld : (intVs (b.drop 1)).length = (b.length - 1) * 1 := by simp [intVs]
        have HS3 : Hid (∀ W, Below w.heap.size w W → 0 < (b.length - 1) → ∃ ad : Addr, ((some ⟨bb, ob + 1, none⟩) : Option Addr) = some ad ∧ ∀ z u, (intVs (b.drop 1))[z]? = some u → W.cell? (ad.add z) = some u) := Lib.hid (fun W h _ => ⟨⟨bb, ob + 1, none⟩, rfl, fun z u hu => by
          have hz : z < (b.drop 1).length := by have := (List.getElem?_eq_some_iff.1 hu).1; simpa [intVs] using this
          rw [int_at hz] at hu; cases hu
          rw [gs_addr, show ob + 1 + z = ob + (z + 1) by omega]
          refine (h.cell (p := ⟨bb, ob + (z + 1), none⟩) hbw).trans ?_
          have h2 := HLB.out (z + 1) (by simp at hz; omega)
          rw [h2]; congr 2
          simp [List.getD]⟩)
        have H1b := Lib.hid (iv_cellR (b.drop 1))
        have HD1 := Lib.hid (fun h : b.length = 1 => drop_one h)
        have HNB : Hid (∀ n, n = b.length → n = b.length) := Lib.hid (fun _ h => h)
        by_cases hb1 : 1 < b.length
        · skip
          have hnb1 : ¬ cb = 1 := by omega
          go_enter Try.func15, Try.ntmps15
          go_wp2_with fail
          have HQA := Lib.hid (q9_prof _ a _ w HRA.out hna HKA.out)
          have HQB := Lib.hid (q9_prof _ b _ w HRB.out hnb HKB.out)
          go_quiet ((first | (go_at_call 23; with_reducible exact HQA.out _) | (go_at_call 23; with_reducible exact HQB.out _) | fail))
          clear ca0 cb0
          go_wp2_with fail
          generalize hW0 : w.drewN nq = W0 at *
          have HT0 : Hid (Below w.heap.size w W0) := Lib.hid (by rw [← hW0]; exact below_drewN (Below.refl _ _) _)
          have hz0s : W0.heap.size = w.heap.size := by rw [← hW0]; rfl
          clear hW0
          have HRW := Lib.hid (fun W (hW : Below W0.heap.size W0 W) => HRA.out.below (HT0.out.trans (hW.mono HT0.out.size)) rfl)
          have HBW := Lib.hid (fun W (hW : Below W0.heap.size W0 W) => HT0.out.trans (hW.mono HT0.out.size))
          have HKS : Hid (∀ W, Below W0.heap.size W0 W → Below W0.heap.size W0 W ∧ True) := Lib.hid (fun W h => ⟨h, trivial⟩)
          go_region_held3 (fun w' => Below W0.heap.size W0 w' ∧ True)
            (exact HKS.out _ (by (first | exact (Below.refl _ _).drew | exact Below.refl _ _ | exact bt2 | (go_split_ands; refine Below.grown ?_ hgrow2 (Below.size (B := W0.heap.size) ?_) (fun y hy => (hown1'.lt y hy).1) <;> assumption) | fail)))
            (first
              | (refine step_append_any _ (by rfl) _ _ _ (by rfl) W0.heap.size 3 i0 (.int .i64 0) 1 8 Try.underlying24 hi hz0 hz1 hz2 rfl (by omega) v1 _ _ (by rfl) hown1 (some ⟨bb, ob + 1, none⟩) (b.length - 1) (cb - 1) (intVs (b.drop 1)) (by rfl) hld (HS3.out _ (HBW.out _ bt2)) H1b.out (by unfold maxLen; omega) (by omega) (by first | exact bt2.size | omega | fail) ?_; have hown1' := hown1; intro v2 wC hown2 hgrow2 hat2)
              | (go_at_call 43; refine (cloneR_c _ a _ (HRW.out _ (by first | exact Below.refl _ _ | exact (Below.refl _ _).drew | fail)) hna).mono ?_; rintro e W2 ⟨g, rfl, o2, b2⟩; have hown1 : W2.ownsRow W0.heap.size 3 1 g a.length (intVs a) := o2; have bt2 : Below W0.heap.size W0 W2 := (Below.refl _ _).drew.trans b2; obtain ⟨v1, hv1⟩ : ∃ v1, v1 = g := ⟨g, rfl⟩; subst hv1)
              | fail)
          have HBD : Hid (Below W0.heap.size W0 wC) := Lib.hid (by first | exact bt2.grown hgrow2 bt2.size (fun y hy => (hown1'.lt y hy).1) | (go_split_ands; assumption))
          have HTD := Lib.hid (HBW.out _ HBD.out)
          have HO3 : Hid (wC.ownsRow w.heap.size 3 1 v2 (a.length + (b.length - 1)) (intVs (a ++ b.drop 1))) := Lib.hid (by rw [show intVs (a ++ b.drop 1) = intVs a ++ intVs (b.drop 1) by simp [intVs]]; exact own_mono hown2 (by omega))
          clear hown2 hown1 hgrow2 hat2 b2 bt2 o2
          have HO4 := HO3
          have HLL : Hid ((a.length + (b.length - 1)) = (a ++ b.drop 1).length) := Lib.hid (by rw [HDL.out])
          have EP := Lib.hid (implIsProfile_q v2 (a ++ b.drop 1) wC (Rd.of_own HO4.out) (by rw [HDL.out]; omega))
          rw [HP9.out] at EP
          cases hok : jnOk a b with
          | false =>
            have HN := Lib.hid (jnR_no hok)
            have HOK := Lib.hid hok
            rw [hok] at EP
            clear hok
            go_wp2_with fail
            refine EP.out.mono ?_
            rintro e w5 ⟨rfl, rfl⟩
            go_wp2
            go_ret2
            exact ⟨_, ret_vR HOK.out.symm, by rw [HN.out]; exact World.ownsRow_made _ #[] 0 HTD.out.size (by decide) rfl, HTD.out.alloc HTD.out.size _⟩
          | true =>
            have HN := Lib.hid (jnR_yes hok)
            have HOK := Lib.hid hok
            rw [hok] at EP
            clear hok
            go_wp2_with fail
            refine EP.out.mono ?_
            rintro e w5 ⟨rfl, rfl⟩
            go_wp2
            go_ret2
            exact ⟨_, ret_vR HOK.out.symm, by rw [HN.out, ← HLL.out]; exact HO4.out, HTD.out⟩
        · have hb1 : b.length = 1 := by omega
          by_cases hc1 : cb = 1
          · skip
            obtain rfl := hc1
            have HB1 := Lib.hid hb1
            clear hb1
            go_enter Try.func15, Try.ntmps15
            go_wp2_with fail
            have HQA := Lib.hid (q9_prof _ a _ w HRA.out hna HKA.out)
            have HQB := Lib.hid (q9_prof _ b _ w HRB.out hnb HKB.out)
            go_quiet ((first | (go_at_call 23; with_reducible exact HQA.out _) | (go_at_call 23; with_reducible exact HQB.out _) | fail))
            clear ca0 cb0
            have hb1 := HB1.out
            go_wp2_with fail
            generalize hW0 : w.drewN nq = W0 at *
            have HT0 : Hid (Below w.heap.size w W0) := Lib.hid (by rw [← hW0]; exact below_drewN (Below.refl _ _) _)
            have hz0s : W0.heap.size = w.heap.size := by rw [← hW0]; rfl
            clear hW0
            have HRW := Lib.hid (fun W (hW : Below W0.heap.size W0 W) => HRA.out.below (HT0.out.trans (hW.mono HT0.out.size)) rfl)
            have HBW := Lib.hid (fun W (hW : Below W0.heap.size W0 W) => HT0.out.trans (hW.mono HT0.out.size))
            have HKS : Hid (∀ W, Below W0.heap.size W0 W → Below W0.heap.size W0 W ∧ True) := Lib.hid (fun W h => ⟨h, trivial⟩)
            go_region_held3 (fun w' => Below W0.heap.size W0 w' ∧ True)
              (exact HKS.out _ (by (first | exact (Below.refl _ _).drew | exact Below.refl _ _ | exact bt2 | (go_split_ands; refine Below.grown ?_ hgrow2 (Below.size (B := W0.heap.size) ?_) (fun y hy => (hown1'.lt y hy).1) <;> assumption) | fail)))
              (first
                | (refine step_append_any _ (by rfl) _ _ _ (by rfl) W0.heap.size 3 i0 (.int .i64 0) 1 8 Try.underlying24 hi hz0 hz1 hz2 rfl (by omega) v1 _ _ (by rfl) hown1 (some ⟨bb, ob, none⟩) 0 0 [] (by rfl) rfl (fun h => by omega) (by simp) (by unfold maxLen; omega) (by omega) (by first | exact bt2.size | omega | fail) ?_; have hown1' := hown1; intro v2 wC hown2 hgrow2 hat2)
                | (go_at_call 43; refine (cloneR_c _ a _ (HRW.out _ (by first | exact Below.refl _ _ | exact (Below.refl _ _).drew | fail)) hna).mono ?_; rintro e W2 ⟨g, rfl, o2, b2⟩; have hown1 : W2.ownsRow W0.heap.size 3 1 g a.length (intVs a) := o2; have bt2 : Below W0.heap.size W0 W2 := (Below.refl _ _).drew.trans b2; obtain ⟨v1, hv1⟩ : ∃ v1, v1 = g := ⟨g, rfl⟩; subst hv1)
                | fail)
            have HBD : Hid (Below W0.heap.size W0 wC) := Lib.hid (by first | exact bt2.grown hgrow2 bt2.size (fun y hy => (hown1'.lt y hy).1) | (go_split_ands; assumption))
            have HTD := Lib.hid (HBW.out _ HBD.out)
            have HO3 : Hid (wC.ownsRow w.heap.size 3 1 v2 (a.length + 0) (intVs a)) := Lib.hid (by have h := own_mono hown2 (show w.heap.size ≤ W0.heap.size by omega); rw [List.append_nil] at h; exact h)
            clear hown2 hown1 hgrow2 hat2 b2 bt2 o2
            have HO4 : Hid (wC.ownsRow w.heap.size 3 1 v2 (a.length + 0) (intVs (a ++ b.drop 1))) := Lib.hid (by rw [HD1.out hb1, List.append_nil]; exact HO3.out)
            have HLL : Hid ((a.length + 0) = (a ++ b.drop 1).length) := Lib.hid (by rw [HDL.out]; omega)
            have EP := Lib.hid (implIsProfile_q v2 (a ++ b.drop 1) wC (Rd.of_own HO4.out) (by rw [HDL.out]; omega))
            rw [HP9.out] at EP
            cases hok : jnOk a b with
            | false =>
              have HN := Lib.hid (jnR_no hok)
              have HOK := Lib.hid hok
              rw [hok] at EP
              clear hok
              go_wp2_with fail
              refine EP.out.mono ?_
              rintro e w5 ⟨rfl, rfl⟩
              go_wp2
              go_ret2
              exact ⟨_, ret_vR HOK.out.symm, by rw [HN.out]; exact World.ownsRow_made _ #[] 0 HTD.out.size (by decide) rfl, HTD.out.alloc HTD.out.size _⟩
            | true =>
              have HN := Lib.hid (jnR_yes hok)
              have HOK := Lib.hid hok
              rw [hok] at EP
              clear hok
              go_wp2_with fail
              refine EP.out.mono ?_
              rintro e w5 ⟨rfl, rfl⟩
              go_wp2
              go_ret2
              exact ⟨_, ret_vR HOK.out.symm, by rw [HN.out, ← HLL.out]; exact HO4.out, HTD.out⟩
          · have hc2 : 1 < cb := by omega
            have HB1 := Lib.hid hb1
            clear hb1
            go_enter Try.func15, Try.ntmps15
            go_wp2_with fail
            have HQA := Lib.hid (q9_prof _ a _ w HRA.out hna HKA.out)
            have HQB := Lib.hid (q9_prof _ b _ w HRB.out hnb HKB.out)
            go_quiet ((first | (go_at_call 23; with_reducible exact HQA.out _) | (go_at_call 23; with_reducible exact HQB.out _) | fail))
            clear ca0 cb0
            have hb1 := HB1.out
            go_wp2_with fail
            generalize hW0 : w.drewN nq = W0 at *
            have HT0 : Hid (Below w.heap.size w W0) := Lib.hid (by rw [← hW0]; exact below_drewN (Below.refl _ _) _)
            have hz0s : W0.heap.size = w.heap.size := by rw [← hW0]; rfl
            clear hW0
            have HRW := Lib.hid (fun W (hW : Below W0.heap.size W0 W) => HRA.out.below (HT0.out.trans (hW.mono HT0.out.size)) rfl)
            have HBW := Lib.hid (fun W (hW : Below W0.heap.size W0 W) => HT0.out.trans (hW.mono HT0.out.size))
            have HKS : Hid (∀ W, Below W0.heap.size W0 W → Below W0.heap.size W0 W ∧ True) := Lib.hid (fun W h => ⟨h, trivial⟩)
            go_region_held3 (fun w' => Below W0.heap.size W0 w' ∧ True)
              (exact HKS.out _ (by (first | exact (Below.refl _ _).drew | exact Below.refl _ _ | exact bt2 | (go_split_ands; refine Below.grown ?_ hgrow2 (Below.size (B := W0.heap.size) ?_) (fun y hy => (hown1'.lt y hy).1) <;> assumption) | fail)))
              (first
                | (refine step_append_any _ (by rfl) _ _ _ (by rfl) W0.heap.size 3 i0 (.int .i64 0) 1 8 Try.underlying24 hi hz0 hz1 hz2 rfl (by omega) v1 _ _ (by rfl) hown1 (some ⟨bb, ob + 1, none⟩) 0 (cb - 1) [] (by rfl) rfl (fun h => by omega) (by simp) (by unfold maxLen; omega) (by omega) (by first | exact bt2.size | omega | fail) ?_; have hown1' := hown1; intro v2 wC hown2 hgrow2 hat2)
                | (go_at_call 43; refine (cloneR_c _ a _ (HRW.out _ (by first | exact Below.refl _ _ | exact (Below.refl _ _).drew | fail)) hna).mono ?_; rintro e W2 ⟨g, rfl, o2, b2⟩; have hown1 : W2.ownsRow W0.heap.size 3 1 g a.length (intVs a) := o2; have bt2 : Below W0.heap.size W0 W2 := (Below.refl _ _).drew.trans b2; obtain ⟨v1, hv1⟩ : ∃ v1, v1 = g := ⟨g, rfl⟩; subst hv1)
                | fail)
            have HBD : Hid (Below W0.heap.size W0 wC) := Lib.hid (by first | exact bt2.grown hgrow2 bt2.size (fun y hy => (hown1'.lt y hy).1) | (go_split_ands; assumption))
            have HTD := Lib.hid (HBW.out _ HBD.out)
            have HO3 : Hid (wC.ownsRow w.heap.size 3 1 v2 (a.length + 0) (intVs a)) := Lib.hid (by have h := own_mono hown2 (show w.heap.size ≤ W0.heap.size by omega); rw [List.append_nil] at h; exact h)
            clear hown2 hown1 hgrow2 hat2 b2 bt2 o2
            have HO4 : Hid (wC.ownsRow w.heap.size 3 1 v2 (a.length + 0) (intVs (a ++ b.drop 1))) := Lib.hid (by rw [HD1.out hb1, List.append_nil]; exact HO3.out)
            have HLL : Hid ((a.length + 0) = (a ++ b.drop 1).length) := Lib.hid (by rw [HDL.out]; omega)
            have EP := Lib.hid (implIsProfile_q v2 (a ++ b.drop 1) wC (Rd.of_own HO4.out) (by rw [HDL.out]; omega))
            rw [HP9.out] at EP
            cases hok : jnOk a b with
            | false =>
              have HN := Lib.hid (jnR_no hok)
              have HOK := Lib.hid hok
              rw [hok] at EP
              clear hok
              go_wp2_with fail
              refine EP.out.mono ?_
              rintro e w5 ⟨rfl, rfl⟩
              go_wp2
              go_ret2
              exact ⟨_, ret_vR HOK.out.symm, by rw [HN.out]; exact World.ownsRow_made _ #[] 0 HTD.out.size (by decide) rfl, HTD.out.alloc HTD.out.size _⟩
            | true =>
              have HN := Lib.hid (jnR_yes hok)
              have HOK := Lib.hid hok
              rw [hok] at EP
              clear hok
              go_wp2_with fail
              refine EP.out.mono ?_
              rintro e w5 ⟨rfl, rfl⟩
              go_wp2
              go_ret2
              exact ⟨_, ret_vR HOK.out.symm, by rw [HN.out, ← HLL.out]; exact HO4.out, HTD.out⟩
set_option maxRecDepth 100000 in
set_option maxHeartbeats 4000000 in
theorem specJoinProfiles_c (va : Value) (a : List Int) (vb : Value) (b : List Int) (w : World) (hra : Rd w va (intVs a)) (hna : a.length ≤ 1048576) (hrb : Rd w vb (intVs b)) (hcb : ∀ ao m c, vb = .slice ao m c → m ≤ c) (hnb : b.length ≤ 1048576) :
    Calls Try.prog 16 #[va, vb] w fun e w' => ∃ g, e = .returned (.tuple #[g, .bool (jnOk a b)]) ∧ w'.ownsRow w.heap.size 3 1 g (jnR a b).length (intVs (jnR a b)) ∧ Below w.heap.size w w' := by
  obtain ⟨i0, hi, hz0, hz1, hz2⟩ := info_parts Try.infoIntR
  have HRA := Lib.hid hra
  have HRB := Lib.hid hrb
  obtain ⟨aa, ba, oa, ca, rfl, haa, hata⟩ := hra.formR
  obtain ⟨ab, bb, ob, cb, rfl, hab, hatb⟩ := hrb.formR
  have hcap := hcb _ _ _ rfl
  have HAA := Lib.hid haa
  have HLA := Lib.hid hata
  have HAB := Lib.hid hab
  have HLB := Lib.hid hatb
  clear hra hrb haa hata hab hatb hcb
  cases hk : p9V a with
  | false =>
    have HX := Lib.hid (jn_no1 (b := b) hk)
    have HKA := Lib.hid hk
    clear hk
    go_enter Try.func16, Try.ntmps16
    go_wp2_with fail
    have HQA := Lib.hid (q9_good _ a _ w HRA.out hna HKA.out)
    go_quiet ((first | (go_at_call 46; with_reducible exact HQA.out _) | fail))
    go_wp2
    go_ret2
    exact ⟨_, ret_vR HX.out.1.symm, by rw [HX.out.2]; exact World.ownsRow_made _ #[] 0 (by first | exact Nat.le_refl _ | simp) (by decide) rfl, (below_drewN (Below.refl _ _) _).alloc (by first | exact Nat.le_refl _ | simp) _⟩
  | true =>
    cases hm : p9V b with
    | false =>
      have HX := Lib.hid (jn_no2 (a := a) hm)
      have HKA := Lib.hid hk
      have HKB := Lib.hid hm
      clear hk hm
      go_enter Try.func16, Try.ntmps16
      go_wp2_with fail
      have HQA := Lib.hid (q9_good _ a _ w HRA.out hna HKA.out)
      have HQB := Lib.hid (q9_good _ b _ w HRB.out hnb HKB.out)
      go_quiet ((first | (go_at_call 46; with_reducible exact HQA.out _) | (go_at_call 46; with_reducible exact HQB.out _) | fail))
      go_wp2
      go_ret2
      exact ⟨_, ret_vR HX.out.1.symm, by rw [HX.out.2]; exact World.ownsRow_made _ #[] 0 (by first | exact Nat.le_refl _ | simp) (by decide) rfl, (below_drewN (Below.refl _ _) _).alloc (by first | exact Nat.le_refl _ | simp) _⟩
    | true =>
      have HPA := Lib.hid ((p9V_iff a).1 hk)
      have HPB := Lib.hid ((p9V_iff b).1 hm)
      obtain ⟨hla1, hla30⟩ := HPA.out.1
      obtain ⟨hlb1, hlb30⟩ := HPB.out.1
      obtain ⟨rfl, haw, _⟩ := HAA.out (by omega)
      obtain ⟨rfl, hbw, _⟩ := HAB.out (by omega)
      have ca0 := HLA.out (a.length - 1) (by omega)
      have cb0 := HLB.out 0 (by omega)
      rw [Nat.add_zero] at cb0
      obtain ⟨p1, p2, p3⟩ := pred_in a.length (by omega) (by omega)
      have t1 : (a.length : Int) - 1 < (a.length : Int) := by omega
      have t2 : (0 : Int) < (b.length : Int) := by omega
      have t3 : 0 < b.length := by omega
      have t4 : (1 : Int) ≤ (a.length : Int) := by omega
      have t5 : (1 : Int) ≤ (b.length : Int) := by omega
      have t6 : (0 : Int) < (a.length : Int) := by omega
      have q1 : IntKind.i64.wrap ((a.length : Int) + (b.length : Int)) = (a.length : Int) + (b.length : Int) := IntWalk.i64_in _ (by omega)
      have q2 : IntKind.i64.wrap ((a.length : Int) + (b.length : Int) - 1) = (a.length : Int) + (b.length : Int) - 1 := IntWalk.i64_in _ (by omega)
      cases he : (a.getD (a.length - 1) 0 == b.getD 0 0) with
      | false =>
        have HX := Lib.hid (jn_no3 he)
        have HKA := Lib.hid hk
        have HKB := Lib.hid hm
        clear hk hm
        generalize a.getD (a.length - 1) 0 = X at *
        generalize b.getD 0 0 = Y at *
        have t9 : (X != Y) = true := by rw [bne, he]; rfl
        go_enter Try.func16, Try.ntmps16
        go_wp2_with fail
        have HQA := Lib.hid (q9_good _ a _ w HRA.out hna HKA.out)
        have HQB := Lib.hid (q9_good _ b _ w HRB.out hnb HKB.out)
        go_quiet ((first | (go_at_call 46; with_reducible exact HQA.out _) | (go_at_call 46; with_reducible exact HQB.out _) | fail))
        clear ca0 cb0
        go_wp2
        go_ret2
        exact ⟨_, ret_vR HX.out.1.symm, by rw [HX.out.2]; exact World.ownsRow_made _ #[] 0 (by first | exact Nat.le_refl _ | simp) (by decide) rfl, (below_drewN (Below.refl _ _) _).alloc (by first | exact Nat.le_refl _ | simp) _⟩
      | true =>
        have HI := Lib.hid (jn_in hk hm he)
        have HD := Lib.hid (jn_dec HI.out)
        have HP9 := Lib.hid (jn_p9 HI.out)
        have HKA := Lib.hid hk
        have HKB := Lib.hid hm
        clear hk hm
        generalize a.getD (a.length - 1) 0 = X at *
        generalize b.getD 0 0 = Y at *
        have t9 : (X != Y) = false := by rw [bne, he]; rfl
        have HDL : Hid ((a ++ b.drop 1).length = a.length + (b.length - 1)) := Lib.hid (by simp)
        have hld : (intVs (b.drop 1)).length = (b.length - 1) * 1 := by simp [intVs]
        have HS3 : Hid (∀ W, Below w.heap.size w W → 0 < (b.length - 1) → ∃ ad : Addr, ((some ⟨bb, ob + 1, none⟩) : Option Addr) = some ad ∧ ∀ z u, (intVs (b.drop 1))[z]? = some u → W.cell? (ad.add z) = some u) := Lib.hid (fun W h _ => ⟨⟨bb, ob + 1, none⟩, rfl, fun z u hu => by
          have hz : z < (b.drop 1).length := by have := (List.getElem?_eq_some_iff.1 hu).1; simpa [intVs] using this
          rw [int_at hz] at hu; cases hu
          rw [gs_addr, show ob + 1 + z = ob + (z + 1) by omega]
          refine (h.cell (p := ⟨bb, ob + (z + 1), none⟩) hbw).trans ?_
          have h2 := HLB.out (z + 1) (by simp at hz; omega)
          rw [h2]; congr 2
          simp [List.getD]⟩)
        have H1b := Lib.hid (iv_cellR (b.drop 1))
        have HD1 := Lib.hid (fun h : b.length = 1 => drop_one h)
        have HNB : Hid (∀ n, n = b.length → n = b.length) := Lib.hid (fun _ h => h)
        by_cases h31 : a.length + b.length ≤ 31
        · have HOK : Hid (jnOk a b = true) := Lib.hid (by rw [HD.out]; simpa using h31)
          have HN := Lib.hid (jnR_yes HOK.out)
          have t7 : decide ((30 : Int) < (a.length : Int) + (b.length : Int) - 1) = false := by simp; omega
          have t8 : ¬ (30 : Int) < (a.length : Int) + (b.length : Int) - 1 := by omega
          by_cases hb1 : 1 < b.length
          · skip
            have hnb1 : ¬ cb = 1 := by omega
            go_enter Try.func16, Try.ntmps16
            go_wp2_with fail
            have HQA := Lib.hid (q9_good _ a _ w HRA.out hna HKA.out)
            have HQB := Lib.hid (q9_good _ b _ w HRB.out hnb HKB.out)
            go_quiet ((first | (go_at_call 46; with_reducible exact HQA.out _) | (go_at_call 46; with_reducible exact HQB.out _) | fail))
            clear ca0 cb0
            go_wp2_with fail
            generalize hW0 : w.drewN nq = W0 at *
            have HT0 : Hid (Below w.heap.size w W0) := Lib.hid (by rw [← hW0]; exact below_drewN (Below.refl _ _) _)
            have hz0s : W0.heap.size = w.heap.size := by rw [← hW0]; rfl
            clear hW0
            have HRW := Lib.hid (fun W (hW : Below W0.heap.size W0 W) => HRA.out.below (HT0.out.trans (hW.mono HT0.out.size)) rfl)
            have HBW := Lib.hid (fun W (hW : Below W0.heap.size W0 W) => HT0.out.trans (hW.mono HT0.out.size))
            have HKS : Hid (∀ W, Below W0.heap.size W0 W → Below W0.heap.size W0 W ∧ True) := Lib.hid (fun W h => ⟨h, trivial⟩)
            go_region_held3 (fun w' => Below W0.heap.size W0 w' ∧ True)
              (exact HKS.out _ (by (first | exact (Below.refl _ _).drew | exact Below.refl _ _ | exact bt2 | (go_split_ands; refine Below.grown ?_ hgrow2 (Below.size (B := W0.heap.size) ?_) (fun y hy => (hown1'.lt y hy).1) <;> assumption) | fail)))
              (first
                | (refine step_append_any _ (by rfl) _ _ _ (by rfl) W0.heap.size 3 i0 (.int .i64 0) 1 8 Try.underlying24 hi hz0 hz1 hz2 rfl (by omega) v1 _ _ (by rfl) hown1 (some ⟨bb, ob + 1, none⟩) (b.length - 1) (cb - 1) (intVs (b.drop 1)) (by rfl) hld (HS3.out _ (HBW.out _ bt2)) H1b.out (by unfold maxLen; omega) (by omega) (by first | exact bt2.size | omega | fail) ?_; have hown1' := hown1; intro v2 wC hown2 hgrow2 hat2)
                | (go_at_call 49; refine (ownR_c _ a _ (HRW.out _ (by first | exact Below.refl _ _ | exact (Below.refl _ _).drew | fail)) hna).mono ?_; rintro e W2 ⟨g, rfl, o2, _, b2⟩; have hown1 : W2.ownsRow W0.heap.size 3 1 g a.length (intVs a) := o2; have bt2 : Below W0.heap.size W0 W2 := (Below.refl _ _).drew.trans b2; obtain ⟨v1, hv1⟩ : ∃ v1, v1 = g := ⟨g, rfl⟩; subst hv1)
                | fail)
            have HBD : Hid (Below W0.heap.size W0 wC) := Lib.hid (by first | exact bt2.grown hgrow2 bt2.size (fun y hy => (hown1'.lt y hy).1) | (go_split_ands; assumption))
            have HTD := Lib.hid (HBW.out _ HBD.out)
            have HO3 : Hid (wC.ownsRow w.heap.size 3 1 v2 (a.length + (b.length - 1)) (intVs (a ++ b.drop 1))) := Lib.hid (by rw [show intVs (a ++ b.drop 1) = intVs a ++ intVs (b.drop 1) by simp [intVs]]; exact own_mono hown2 (by omega))
            clear hown2 hown1 hgrow2 hat2 b2 bt2 o2
            have HO4 := HO3
            have HLL : Hid ((a.length + (b.length - 1)) = (a ++ b.drop 1).length) := Lib.hid (by rw [HDL.out])
            go_wp2
            go_ret2
            exact ⟨_, ret_vR HOK.out.symm, by rw [HN.out, ← HLL.out]; exact HO4.out, HTD.out⟩
          · have hb1 : b.length = 1 := by omega
            by_cases hc1 : cb = 1
            · skip
              obtain rfl := hc1
              have HB1 := Lib.hid hb1
              clear hb1
              go_enter Try.func16, Try.ntmps16
              go_wp2_with fail
              have HQA := Lib.hid (q9_good _ a _ w HRA.out hna HKA.out)
              have HQB := Lib.hid (q9_good _ b _ w HRB.out hnb HKB.out)
              go_quiet ((first | (go_at_call 46; with_reducible exact HQA.out _) | (go_at_call 46; with_reducible exact HQB.out _) | fail))
              clear ca0 cb0
              have hb1 := HB1.out
              go_wp2_with fail
              generalize hW0 : w.drewN nq = W0 at *
              have HT0 : Hid (Below w.heap.size w W0) := Lib.hid (by rw [← hW0]; exact below_drewN (Below.refl _ _) _)
              have hz0s : W0.heap.size = w.heap.size := by rw [← hW0]; rfl
              clear hW0
              have HRW := Lib.hid (fun W (hW : Below W0.heap.size W0 W) => HRA.out.below (HT0.out.trans (hW.mono HT0.out.size)) rfl)
              have HBW := Lib.hid (fun W (hW : Below W0.heap.size W0 W) => HT0.out.trans (hW.mono HT0.out.size))
              have HKS : Hid (∀ W, Below W0.heap.size W0 W → Below W0.heap.size W0 W ∧ True) := Lib.hid (fun W h => ⟨h, trivial⟩)
              go_region_held3 (fun w' => Below W0.heap.size W0 w' ∧ True)
                (exact HKS.out _ (by (first | exact (Below.refl _ _).drew | exact Below.refl _ _ | exact bt2 | (go_split_ands; refine Below.grown ?_ hgrow2 (Below.size (B := W0.heap.size) ?_) (fun y hy => (hown1'.lt y hy).1) <;> assumption) | fail)))
                (first
                  | (refine step_append_any _ (by rfl) _ _ _ (by rfl) W0.heap.size 3 i0 (.int .i64 0) 1 8 Try.underlying24 hi hz0 hz1 hz2 rfl (by omega) v1 _ _ (by rfl) hown1 (some ⟨bb, ob, none⟩) 0 0 [] (by rfl) rfl (fun h => by omega) (by simp) (by unfold maxLen; omega) (by omega) (by first | exact bt2.size | omega | fail) ?_; have hown1' := hown1; intro v2 wC hown2 hgrow2 hat2)
                  | (go_at_call 49; refine (ownR_c _ a _ (HRW.out _ (by first | exact Below.refl _ _ | exact (Below.refl _ _).drew | fail)) hna).mono ?_; rintro e W2 ⟨g, rfl, o2, _, b2⟩; have hown1 : W2.ownsRow W0.heap.size 3 1 g a.length (intVs a) := o2; have bt2 : Below W0.heap.size W0 W2 := (Below.refl _ _).drew.trans b2; obtain ⟨v1, hv1⟩ : ∃ v1, v1 = g := ⟨g, rfl⟩; subst hv1)
                  | fail)
              have HBD : Hid (Below W0.heap.size W0 wC) := Lib.hid (by first | exact bt2.grown hgrow2 bt2.size (fun y hy => (hown1'.lt y hy).1) | (go_split_ands; assumption))
              have HTD := Lib.hid (HBW.out _ HBD.out)
              have HO3 : Hid (wC.ownsRow w.heap.size 3 1 v2 (a.length + 0) (intVs a)) := Lib.hid (by have h := own_mono hown2 (show w.heap.size ≤ W0.heap.size by omega); rw [List.append_nil] at h; exact h)
              clear hown2 hown1 hgrow2 hat2 b2 bt2 o2
              have HO4 : Hid (wC.ownsRow w.heap.size 3 1 v2 (a.length + 0) (intVs (a ++ b.drop 1))) := Lib.hid (by rw [HD1.out hb1, List.append_nil]; exact HO3.out)
              have HLL : Hid ((a.length + 0) = (a ++ b.drop 1).length) := Lib.hid (by rw [HDL.out]; omega)
              go_wp2
              go_ret2
              exact ⟨_, ret_vR HOK.out.symm, by rw [HN.out, ← HLL.out]; exact HO4.out, HTD.out⟩
            · have hc2 : 1 < cb := by omega
              have HB1 := Lib.hid hb1
              clear hb1
              go_enter Try.func16, Try.ntmps16
              go_wp2_with fail
              have HQA := Lib.hid (q9_good _ a _ w HRA.out hna HKA.out)
              have HQB := Lib.hid (q9_good _ b _ w HRB.out hnb HKB.out)
              go_quiet ((first | (go_at_call 46; with_reducible exact HQA.out _) | (go_at_call 46; with_reducible exact HQB.out _) | fail))
              clear ca0 cb0
              have hb1 := HB1.out
              go_wp2_with fail
              generalize hW0 : w.drewN nq = W0 at *
              have HT0 : Hid (Below w.heap.size w W0) := Lib.hid (by rw [← hW0]; exact below_drewN (Below.refl _ _) _)
              have hz0s : W0.heap.size = w.heap.size := by rw [← hW0]; rfl
              clear hW0
              have HRW := Lib.hid (fun W (hW : Below W0.heap.size W0 W) => HRA.out.below (HT0.out.trans (hW.mono HT0.out.size)) rfl)
              have HBW := Lib.hid (fun W (hW : Below W0.heap.size W0 W) => HT0.out.trans (hW.mono HT0.out.size))
              have HKS : Hid (∀ W, Below W0.heap.size W0 W → Below W0.heap.size W0 W ∧ True) := Lib.hid (fun W h => ⟨h, trivial⟩)
              go_region_held3 (fun w' => Below W0.heap.size W0 w' ∧ True)
                (exact HKS.out _ (by (first | exact (Below.refl _ _).drew | exact Below.refl _ _ | exact bt2 | (go_split_ands; refine Below.grown ?_ hgrow2 (Below.size (B := W0.heap.size) ?_) (fun y hy => (hown1'.lt y hy).1) <;> assumption) | fail)))
                (first
                  | (refine step_append_any _ (by rfl) _ _ _ (by rfl) W0.heap.size 3 i0 (.int .i64 0) 1 8 Try.underlying24 hi hz0 hz1 hz2 rfl (by omega) v1 _ _ (by rfl) hown1 (some ⟨bb, ob + 1, none⟩) 0 (cb - 1) [] (by rfl) rfl (fun h => by omega) (by simp) (by unfold maxLen; omega) (by omega) (by first | exact bt2.size | omega | fail) ?_; have hown1' := hown1; intro v2 wC hown2 hgrow2 hat2)
                  | (go_at_call 49; refine (ownR_c _ a _ (HRW.out _ (by first | exact Below.refl _ _ | exact (Below.refl _ _).drew | fail)) hna).mono ?_; rintro e W2 ⟨g, rfl, o2, _, b2⟩; have hown1 : W2.ownsRow W0.heap.size 3 1 g a.length (intVs a) := o2; have bt2 : Below W0.heap.size W0 W2 := (Below.refl _ _).drew.trans b2; obtain ⟨v1, hv1⟩ : ∃ v1, v1 = g := ⟨g, rfl⟩; subst hv1)
                  | fail)
              have HBD : Hid (Below W0.heap.size W0 wC) := Lib.hid (by first | exact bt2.grown hgrow2 bt2.size (fun y hy => (hown1'.lt y hy).1) | (go_split_ands; assumption))
              have HTD := Lib.hid (HBW.out _ HBD.out)
              have HO3 : Hid (wC.ownsRow w.heap.size 3 1 v2 (a.length + 0) (intVs a)) := Lib.hid (by have h := own_mono hown2 (show w.heap.size ≤ W0.heap.size by omega); rw [List.append_nil] at h; exact h)
              clear hown2 hown1 hgrow2 hat2 b2 bt2 o2
              have HO4 : Hid (wC.ownsRow w.heap.size 3 1 v2 (a.length + 0) (intVs (a ++ b.drop 1))) := Lib.hid (by rw [HD1.out hb1, List.append_nil]; exact HO3.out)
              have HLL : Hid ((a.length + 0) = (a ++ b.drop 1).length) := Lib.hid (by rw [HDL.out]; omega)
              go_wp2
              go_ret2
              exact ⟨_, ret_vR HOK.out.symm, by rw [HN.out, ← HLL.out]; exact HO4.out, HTD.out⟩
        · have HOK : Hid (jnOk a b = false) := Lib.hid (by rw [HD.out]; simpa using h31)
          have HN := Lib.hid (jnR_no HOK.out)
          have HX : Hid (jnOk a b = false ∧ jnR a b = []) := Lib.hid ⟨HOK.out, HN.out⟩
          have t7 : decide ((30 : Int) < (a.length : Int) + (b.length : Int) - 1) = true := by simp; omega
          have t8 : (30 : Int) < (a.length : Int) + (b.length : Int) - 1 := by omega
          go_enter Try.func16, Try.ntmps16
          go_wp2_with fail
          have HQA := Lib.hid (q9_good _ a _ w HRA.out hna HKA.out)
          have HQB := Lib.hid (q9_good _ b _ w HRB.out hnb HKB.out)
          go_quiet ((first | (go_at_call 46; with_reducible exact HQA.out _) | (go_at_call 46; with_reducible exact HQB.out _) | fail))
          clear ca0 cb0
          go_wp2
          go_ret2
          exact ⟨_, ret_vR HX.out.1.symm, by rw [HX.out.2]; exact World.ownsRow_made _ #[] 0 (by first | exact Nat.le_refl _ | simp) (by decide) rfl, (below_drewN (Below.refl _ _) _).alloc (by first | exact Nat.le_refl _ | simp) _⟩
end Go.Proofs.Ytklfipmjdhkkiaa
