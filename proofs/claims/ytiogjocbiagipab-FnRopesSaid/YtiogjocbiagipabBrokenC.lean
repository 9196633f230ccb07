/- BrokenWires: the program's and the specification's answer as one function. Condition: sizes. -/
import Derived.Test.YtiogjocbiagipabMostW
import Derived.Test.YtiogjocbiagipabAreDmgW
import Derived.Test.YtiogjocbiagipabWeightC
namespace Go.Proofs.Ytiogjocbiagipab
open Go.RowKit
set_option linter.unusedVariables false
noncomputable def bwOk (k : RK) (l : List Dmg) (fr len : Int) : Bool := good k l && inR fr 0 3000 && inR len 1 3000
noncomputable def bwV (k : RK) (l : List Dmg) (fr len : Int) : Int := if bwOk k l fr len then brk l fr len (-1) else 0
theorem bw_no {k : RK} {l : List Dmg} {fr len : Int} (h : good k l = false ∨ inR fr 0 3000 = false ∨ inR len 1 3000 = false) : bwV k l fr len = 0 ∧ bwOk k l fr len = false := by
  have : bwOk k l fr len = false := by unfold bwOk; rcases h with h | h | h <;> simp [h]
  exact ⟨by simp [bwV, this], this⟩
theorem bw_yes {k : RK} {l : List Dmg} {fr len : Int} (h1 : good k l = true) (h2 : inR fr 0 3000 = true) (h3 : inR len 1 3000 = true) : bwV k l fr len = brk l fr len (-1) ∧ bwOk k l fr len = true := by
  have : bwOk k l fr len = true := by simp [bwOk, h1, h2, h3]
  exact ⟨by simp [bwV, this], this⟩
theorem l3Length_c (x : Int) (w : World) :
    Calls Try.prog 56 #[.int .i64 x] w fun e w' => e = .returned (.bool (inR x 1 3000)) ∧ w' = w := by
  go_enter Try.func56, Try.ntmps56
  go_wp2_with fail
  refine (l1In_c x 1 3000 _).mono ?_
  rintro e w1 ⟨rfl, rfl⟩
  go_wp2
  go_ret
  exact ⟨rfl, rfl⟩
set_option maxRecDepth 100000 in
set_option maxHeartbeats 4000000 in
theorem specBrokenWires_c (k : RK) (v : Value) (l : List Dmg) (fr len : Int) (w : World) (hr : Rs w v l.length (dmgs l)) (hn : l.length ≤ 1048576) (hf0 : (Lit.int .i64 fr).wf = true) (hl0 : (Lit.int .i64 len).wf = true) :
    Calls Try.prog 18 #[.agg #[.int .i64 k.i, .int .i64 k.s, .int .i64 k.w, .int .i64 k.g, .int .i64 k.p], v, .int .i64 fr, .int .i64 len] w fun e w' => e = .returned (.tuple #[.int .i64 (bwV k l fr len), .bool (bwOk k l fr len)]) ∧ Below w.heap.size w w' := by
  have HR := Lib.hid hr
  clear hr
  go_enter Try.func18, Try.ntmps18
  go_wp2_with fail
  have HBX := Lib.hid (box_RK w k 25 _ rfl)
  have HT : Hid (Below w.heap.size w (w.alloc (.cells #[.int .i64 k.i, .int .i64 k.s, .int .i64 k.w, .int .i64 k.g, .int .i64 k.p] 25))) := Lib.hid ((Below.refl _ _).alloc (Nat.le_refl _) _)
  have hs0 : (w.alloc (.cells #[.int .i64 k.i, .int .i64 k.s, .int .i64 k.w, .int .i64 k.g, .int .i64 k.p] 25)).heap.size = w.heap.size + 1 := by simp
  generalize w.alloc (.cells #[.int .i64 k.i, .int .i64 k.s, .int .i64 k.w, .int .i64 k.g, .int .i64 k.p] 25) = W0 at *
  refine (l3Good_c k _ l _ (HR.out.below HT.out rfl) hn).mono ?_
  rintro e w1 ⟨rfl, b1⟩
  have HB1 : Hid (Below (w.heap.size + 1) W0 w1) := Lib.hid (by rw [← hs0]; exact b1)
  have HT1 : Hid (Below w.heap.size w w1) := Lib.hid (HT.out.trans (b1.mono (by omega)))
  clear b1
  cases hg : good k l with
  | false =>
    have HN := Lib.hid (bw_no (k := k) (l := l) (fr := fr) (len := len) (.inl hg))
    go_wp2
    go_ret2
    exact ⟨ret_p HN.out.1.symm HN.out.2.symm, HT1.out⟩
  | true =>
    go_wp2_with fail
    refine (l2Place_c fr _).mono ?_
    rintro e w2 ⟨rfl, rfl⟩
    cases hf : inR fr 0 3000 with
    | false =>
      have HN := Lib.hid (bw_no (k := k) (l := l) (fr := fr) (len := len) (.inr (.inl hf)))
      go_wp2
      go_ret2
      exact ⟨ret_p HN.out.1.symm HN.out.2.symm, HT1.out⟩
    | true =>
      go_wp2_with fail
      refine (l3Length_c len _).mono ?_
      rintro e w2 ⟨rfl, rfl⟩
      cases hl : inR len 1 3000 with
      | false =>
        have HN := Lib.hid (bw_no (k := k) (l := l) (fr := fr) (len := len) (.inr (.inr hl)))
        go_wp2
        go_ret2
        exact ⟨ret_p HN.out.1.symm HN.out.2.symm, HT1.out⟩
      | true =>
        have HY := Lib.hid (bw_yes hg hf hl)
        have HG := Lib.hid (good_yes hg).srt
        rw [inR_iff] at hf hl
        clear hg
        go_wp2_with fail
        refine (l3Broken_c v l fr len (-1) _ (HR.out.below HT1.out rfl) HG.out (by omega) (by omega)).mono ?_
        rintro e w3 ⟨rfl, b3⟩
        go_wp2
        go_ret2
        exact ⟨ret_p HY.out.1.symm HY.out.2.symm, HT1.out.trans (b3.mono HT1.out.size)⟩
set_option maxRecDepth 100000 in
set_option maxHeartbeats 4000000 in
theorem implBrokenWires_c (k : RK) (v : Value) (l : List Dmg) (fr len : Int) (w : World) (hr : Rs w v l.length (dmgs l)) (hn : l.length ≤ 1048576) (hf0 : (Lit.int .i64 fr).wf = true) (hl0 : (Lit.int .i64 len).wf = true) :
    Calls Try.prog 16 #[.agg #[.int .i64 k.i, .int .i64 k.s, .int .i64 k.w, .int .i64 k.g, .int .i64 k.p], v, .int .i64 fr, .int .i64 len] w fun e w' => e = .returned (.tuple #[.int .i64 (bwV k l fr len), .bool (bwOk k l fr len)]) ∧ Below w.heap.size w w' := by
  have HR := Lib.hid hr
  clear hr
  go_enter Try.func16, Try.ntmps16
  go_wp2_with fail
  have HBX := Lib.hid (box_RK w k 25 _ rfl)
  have HT : Hid (Below w.heap.size w (w.alloc (.cells #[.int .i64 k.i, .int .i64 k.s, .int .i64 k.w, .int .i64 k.g, .int .i64 k.p] 25))) := Lib.hid ((Below.refl _ _).alloc (Nat.le_refl _) _)
  have hs0 : (w.alloc (.cells #[.int .i64 k.i, .int .i64 k.s, .int .i64 k.w, .int .i64 k.g, .int .i64 k.p] 25)).heap.size = w.heap.size + 1 := by simp
  generalize w.alloc (.cells #[.int .i64 k.i, .int .i64 k.s, .int .i64 k.w, .int .i64 k.g, .int .i64 k.p] 25) = W0 at *
  refine (implAreDamages_c k _ l _ (HR.out.below HT.out rfl) hn).mono ?_
  rintro e w1 ⟨rfl, b1⟩
  have HB1 : Hid (Below (w.heap.size + 1) W0 w1) := Lib.hid (by rw [← hs0]; exact b1)
  have HT1 : Hid (Below w.heap.size w w1) := Lib.hid (HT.out.trans (b1.mono (by omega)))
  clear b1
  cases hg : good k l with
  | false =>
    have HN := Lib.hid (bw_no (k := k) (l := l) (fr := fr) (len := len) (.inl hg))
    go_wp2
    go_ret2
    exact ⟨ret_p HN.out.1.symm HN.out.2.symm, HT1.out⟩
  | true =>
    go_wp2_with fail
    refine (within_c fr 0 3000 _).mono ?_
    rintro e w2 ⟨rfl, rfl⟩
    cases hf : inR fr 0 3000 with
    | false =>
      have HN := Lib.hid (bw_no (k := k) (l := l) (fr := fr) (len := len) (.inr (.inl hf)))
      go_wp2
      go_ret2
      exact ⟨ret_p HN.out.1.symm HN.out.2.symm, HT1.out⟩
    | true =>
      go_wp2_with fail
      refine (within_c len 1 3000 _).mono ?_
      rintro e w2 ⟨rfl, rfl⟩
      cases hl : inR len 1 3000 with
      | false =>
        have HN := Lib.hid (bw_no (k := k) (l := l) (fr := fr) (len := len) (.inr (.inr hl)))
        go_wp2
        go_ret2
        exact ⟨ret_p HN.out.1.symm HN.out.2.symm, HT1.out⟩
      | true =>
        have HY := Lib.hid (bw_yes hg hf hl)
        have HS := Lib.hid (good_yes hg).srt
        have h15 := HS.out.len
        rw [inR_iff] at hf hl
        clear hg
        obtain ⟨ao, a, oa, ca, rfl, hao, hat⟩ := HR.out.form_Dmg
        have HA := Lib.hid hao
        have HL := Lib.hid hat
        obtain ⟨X, hX⟩ : ∃ X, X = fr + len := ⟨_, rfl⟩
        obtain ⟨Y, hY⟩ : ∃ Y, Y = fr + len - 1 := ⟨_, rfl⟩
        have w1 : IntKind.i64.wrap (fr + len) = X := by rw [hX]; exact IntWalk.i64_in _ (by omega)
        have w2 : IntKind.i64.wrap (X - 1) = Y := by rw [hX, hY]; exact IntWalk.i64_in _ (by omega)
        have HWv : Hid (∀ d, win fr len (-1) d = inR d.a fr Y) := Lib.hid (fun d => by rw [hY]; simp [win, inW, ofS])
        clear hao hat hX hY hf hl
        go_wp2
        go_loopw [10, 29] (fun s i wr => ∃ j : Nat, j ≤ l.length ∧ i = .int .i64 j ∧ s = .int .i64 (sumW (win fr len (-1)) (l.take j)) ∧ Hid (Below w.heap.size w wr)) (fun _ i _ => l.length - (intOf i).toNat)
        case atStart => exact ⟨0, Nat.zero_le _, rfl, by simp [sumW], HT1⟩
        case round =>
          obtain ⟨j, hj, rfl, rfl, hbl⟩ := hrel
          have hszr := hbl.out.size
          by_cases hlt : j < l.length
          · obtain ⟨rfl, hla, hlm⟩ := HA.out (by omega)
            obtain ⟨c0, c1, c2⟩ := (HL.out.below hbl.out hla) j hlt
            have hlaw : a < wr.heap.size := by omega
            have hb1 := sumW_bd HS.out (win fr len (-1)) j hj
            have hb2 := HS.out.bd j hlt
            have HT := Lib.hid (sumW_take (win fr len (-1)) l j hlt)
            rw [HWv.out] at HT
            have E1 := Lib.hid (fun W => within_c (gth l j).a fr Y W)
            generalize gth l j = D at *
            generalize sumW (win fr len (-1)) (l.take j) = S at *
            have w3 : IntKind.i64.wrap (S + D.w) = S + D.w := IntWalk.i64_in _ (by omega)
            generalize inR D.a fr Y = B1 at *
            go_wp2_with fail
            refine (E1.out _).mono ?_
            rintro e w2 ⟨rfl, rfl⟩
            cases B1 with
            | false =>
              go_wp2
              go_roundw
              case rel => exact ⟨j + 1, by omega, by go_num, by rw [HT.out]; simp, Lib.hid (hbl.out.alloc hszr _)⟩
              case measure => simp [intOf]; omega
            | true =>
              go_wp2
              go_roundw
              case rel => exact ⟨j + 1, by omega, by go_num, by rw [HT.out]; simp, Lib.hid (hbl.out.alloc hszr _)⟩
              case measure => simp [intOf]; omega
          · obtain rfl : j = l.length := by omega
            go_wp2
            go_ret2
            exact ⟨ret_p (by rw [sumW_all, HY.out.1]; rfl) HY.out.2.symm, hbl.out⟩
end Go.Proofs.Ytiogjocbiagipab
