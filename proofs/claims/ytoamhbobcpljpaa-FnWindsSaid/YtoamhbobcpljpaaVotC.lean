/- Sensors: valid lists, the search for a wrong one, the copy without the broken ones, and impl.VoteOf. Condition: sizes. -/
import Derived.Test.YtoamhbobcpljpaaVotMath
import Derived.Test.YtoamhbobcpljpaaShelfD
namespace Go.Proofs.Ytoamhbobcpljpaa
open Go.RowKit Go.Sort Go.Shelf
set_option linter.unusedVariables false
theorem ret_i12 {a b : Int} (h : a = b) : Ending.returned (.int .i64 a) = .returned (.int .i64 b) := by rw [h]
theorem wrong12_c (x : Int) (w : World) :
    Calls Try.prog 68 #[.int .i64 x] w fun e w' => e = .returned (.bool (!inR x (-1) 60)) ∧ w' = w := by
  have E0 := Lib.hid (fun W => isWind_c x W)
  by_cases h : x = -1
  · have t1 : (x != -1) = false := by simp [h]
    have HX : Hid (false = (!inR x (-1) 60)) := Lib.hid (by rw [h]; rfl)
    clear h
    go_enter Try.func68, Try.ntmps68
    go_wp2
    go_ret
    exact ⟨ret_b HX.out, rfl⟩
  · have t1 : (x != -1) = true := by simp [h]
    have HX : Hid ((!inR x 0 60) = (!inR x (-1) 60)) := Lib.hid (by
      congr 1
      rw [Bool.eq_iff_iff, inR_iff, inR_iff]; omega)
    clear h
    go_enter Try.func68, Try.ntmps68
    go_wp2_with fail
    refine (E0.out _).mono ?_
    rintro e w1 ⟨rfl, rfl⟩
    go_wp2
    go_ret
    exact ⟨ret_b HX.out, rfl⟩
theorem clo70_c (x : Int) (w : World) :
    Calls Try.prog 70 #[.int .i64 x] w fun e w' => e = .returned (.bool (decide (x = -1))) ∧ ∃ q, w' = w.drewN q := by
  go_enter Try.func70, Try.ntmps70
  go_wp2
  go_ret
  exact ⟨ret_b (by by_cases h : x = -1 <;> simp [h]), 0, rfl⟩
set_option maxRecDepth 100000 in
set_option maxHeartbeats 2000000 in
theorem idx12_c (v : Value) (l : List Int) (w : World) (hr : Rd w v (intVs l)) (hn : l.length ≤ 1048576) :
    Calls Try.prog 83 #[v, .func (.func 68) #[] #[]] w fun e w' => e = .returned (.int .i64 (idxF (fun x => !inR x (-1) 60) l)) ∧ Below w.heap.size w w' := by
  obtain ⟨ao, a, oa, ca, rfl, hao, hat⟩ := hr.formR
  have HA := Lib.hid hao
  have HL := Lib.hid hat
  clear hr hao hat
  go_enter Try.func83, Try.ntmps83
  go_wp2
  go_loopw [8] (fun i wr => ∃ k : Nat, k ≤ l.length ∧ i = .int .i64 k ∧ Hid (Below w.heap.size w wr) ∧ Hid (∀ j, j < k → (!inR (l.getD j 0) (-1) 60) = false)) (fun i _ => l.length - (intOf i).toNat)
  case atStart => exact ⟨0, by omega, rfl, Lib.hid (Below.refl _ _), Lib.hid (fun j h => by omega)⟩
  case round =>
    obtain ⟨k, hk, rfl, hbel, hno⟩ := hrel
    by_cases hlt : k < l.length
    · obtain ⟨rfl, hla, hlm⟩ := HA.out (by omega)
      have c0 := (HL.out.below hbel.out hla) k hlt
      have HIS := Lib.hid (fun h : (!inR (l.getD k 0) (-1) 60) = true => idxF_hit (q := fun x => !inR x (-1) 60) hlt hno.out h)
      have HNO : Hid ((!inR (l.getD k 0) (-1) 60) = false → ∀ j, j < k + 1 → (!inR (l.getD j 0) (-1) 60) = false) := Lib.hid (fun h j hj => by
        by_cases e : j = k
        · subst e; exact h
        · exact hno.out j (by omega))
      have HC := Lib.hid (fun W => wrong12_c (l.getD k 0) W)
      generalize l.getD k 0 = D at *
      generalize (!inR D (-1) 60) = b at *
      go_wp2_with fail
      refine (HC.out _).mono ?_
      rintro e w1 ⟨rfl, rfl⟩
      cases b with
      | true =>
        have HX := Lib.hid (HIS.out rfl).symm
        go_wp2
        go_ret
        exact ⟨ret_i12 HX.out, hbel.out⟩
      | false =>
        have HN2 := Lib.hid (HNO.out rfl)
        go_wp2
        go_roundw
        case rel => exact ⟨k + 1, by omega, by go_num, hbel, HN2⟩
        case measure => simp [intOf]; omega
    · obtain rfl : k = l.length := by omega
      have HX : Hid (-1 = idxF (fun x => !inR x (-1) 60) l) := Lib.hid (idxF_none hno.out).symm
      go_wp2
      go_ret
      exact ⟨ret_i12 HX.out, hbel.out⟩
set_option maxRecDepth 100000 in
set_option maxHeartbeats 2000000 in
theorem has12_c (v : Value) (l : List Int) (w : World) (hr : Rd w v (intVs l)) (hn : l.length ≤ 1048576) :
    Calls Try.prog 69 #[v, .func (.func 68) #[] #[]] w fun e w' => e = .returned (.bool (l.any fun x => !inR x (-1) 60)) ∧ Below w.heap.size w w' := by
  have E0 := Lib.hid (fun W h => idx12_c v l W h hn)
  have HR := Lib.hid hr
  have HX := Lib.hid (idxF_any (fun x => !inR x (-1) 60) l)
  clear hr
  generalize idxF (fun x => !inR x (-1) 60) l = F at *
  go_enter Try.func69, Try.ntmps69
  go_wp2_with fail
  refine (E0.out _ HR.out).mono ?_
  rintro e w1 ⟨rfl, b1⟩
  go_wp2
  go_ret
  exact ⟨ret_b HX.out, b1⟩
theorem enters70 : ∀ args w, (callFunc 70 args).run Try.prog w = .ok (.enter 70 args) w := enters_of Try.func70 (by kernel_rfl) rfl
theorem delI_c (v : Value) (zs : List Int) (w : World) (B : Nat) (ho : w.ownsRow B 3 1 v zs.length (intVs zs)) (h0 : 0 < zs.length) (hn : zs.length ≤ 12) :
    Calls Try.prog 71 #[v, .func (.func 70) #[] #[]] w fun e w' => ∃ v', e = .returned v' ∧ w'.ownsRow B 3 1 v' (zs.filter fun x => !decide (x = -1)).length (intVs (zs.filter fun x => !decide (x = -1))) ∧ w.grownBy w' v.ownBlock := by
  rcases ho.2 with ⟨rfl, h⟩ | ⟨g, cap, cur, rfl, hbase, hb, h1, h2, h3, h4⟩
  · omega
  · have hc := AnyE.slices_DeleteFunc Try.delI (Value.int .i64) (fun _ => rfl) (fun x => decide (x = -1)) 70 #[] enters70 (0 : Int) Try.zeroValue3 g 0 cap zs.toArray w (fun W x _ => clo70_c x W) (fun n os dk x _ => clo70_c x _) (holds_of_blockI hb (by rw [Nat.mul_one] at h4; exact h4)) (by simp; omega) (by simpa using h1)
    refine (show Calls Try.prog 71 _ w _ from hc).mono ?_
    rintro e w' ⟨he, q, rfl⟩
    have hf : (zs.filter fun x => !decide (x = -1)).length ≤ zs.length := List.length_filter_le _ _
    refine ⟨_, he, ?_, ?_⟩
    · have hh := heap_sortedI (w := w) (n := q) (os := #[]) ((zs.filter fun x => !decide (x = -1)) ++ List.replicate (zs.toArray.size - (zs.filter fun x => !decide (x = -1)).length) 0).toArray hb
      rw [Go.Sort.grow_empty] at hh
      have ht := take_putCellsI cur ((zs.filter fun x => !decide (x = -1)) ++ List.replicate (zs.toArray.size - (zs.filter fun x => !decide (x = -1)).length) 0) (by simp [h3]; omega)
      have ht2 := congrArg (List.take (zs.filter fun x => !decide (x = -1)).length) ht
      rw [List.take_take, ← List.map_take, List.take_left' rfl, Nat.min_eq_left (by simp)] at ht2
      exact ⟨by simp [intVs], .inr ⟨g, cap, _, rfl, hbase, hh, by omega, h2, by simp [putCells, h3], by rw [Nat.mul_one]; exact ht2⟩⟩
    · have hg := grownBy_sortedI (w := w) (g := g) (n := q) (os := #[]) ((zs.filter fun x => !decide (x = -1)) ++ List.replicate (zs.toArray.size - (zs.filter fun x => !decide (x = -1)).length) 0).toArray
      rw [Go.Sort.grow_empty] at hg
      exact hg
set_option maxRecDepth 100000 in
set_option maxHeartbeats 2000000 in
theorem l12Sensors_c (v : Value) (l : List Int) (w : World) (hr : Rd w v (intVs l)) (hn : l.length ≤ 1048576) :
    Calls Try.prog 74 #[v] w fun e w' => e = .returned (.bool (snL l)) ∧ Below w.heap.size w w' := by
  have E1 := Lib.hid (fun W => l1In_c (l.length : Int) 1 5 W)
  obtain ⟨ao, a, oa, ca, rfl, hao, hat⟩ := hr.formR
  have HA := Lib.hid hao
  have HL := Lib.hid hat
  clear hr hao hat
  go_enter Try.func74, Try.ntmps74
  go_wp2
  go_loopw [3] (fun i wr => ∃ k : Nat, k ≤ l.length ∧ i = .int .i64 k ∧ Hid (Below w.heap.size w wr) ∧ Hid (∀ j, j < k → inR (l.getD j 0) (-1) 60 = true)) (fun i _ => l.length - (intOf i).toNat)
  case atStart => exact ⟨0, by omega, rfl, Lib.hid (Below.refl _ _), Lib.hid (fun j h => by omega)⟩
  case round =>
    obtain ⟨k, hk, rfl, hbel, hno⟩ := hrel
    by_cases hlt : k < l.length
    · obtain ⟨rfl, hla, hlm⟩ := HA.out (by omega)
      have c0 := (HL.out.below hbel.out hla) k hlt
      have HIS := Lib.hid (fun h : inR (l.getD k 0) (-1) 60 = false => snL_bad hlt h)
      have HNO : Hid (inR (l.getD k 0) (-1) 60 = true → ∀ j, j < k + 1 → inR (l.getD j 0) (-1) 60 = true) := Lib.hid (fun h j hj => by
        by_cases e : j = k
        · subst e; exact h
        · exact hno.out j (by omega))
      have HC := Lib.hid (fun W => l1In_c (l.getD k 0) (-1) 60 W)
      generalize l.getD k 0 = D at *
      generalize inR D (-1) 60 = b at *
      go_wp2_with fail
      refine (HC.out _).mono ?_
      rintro e w1 ⟨rfl, rfl⟩
      cases b with
      | false =>
        have HX := Lib.hid (HIS.out rfl).symm
        go_wp2
        go_ret
        exact ⟨ret_b HX.out, hbel.out⟩
      | true =>
        have HN2 := Lib.hid (HNO.out rfl)
        go_wp2
        go_roundw
        case rel => exact ⟨k + 1, by omega, by go_num, hbel, HN2⟩
        case measure => simp [intOf]; omega
    · obtain rfl : k = l.length := by omega
      have HX : Hid (inR (l.length : Int) 1 5 = snL l) := Lib.hid (by
        cases e : inR (l.length : Int) 1 5 with
        | true => exact (snL_good e hno.out).symm
        | false => exact (snL_len e).symm)
      go_wp2_with fail
      refine (E1.out _).mono ?_
      rintro e w1 ⟨rfl, rfl⟩
      go_wp2
      go_ret
      exact ⟨ret_b HX.out, hbel.out⟩
set_option maxRecDepth 100000 in
set_option maxHeartbeats 4000000 in
theorem implVoteOf_c (v : Value) (l : List Int) (w : World) (hr : Rd w v (intVs l)) (hn : l.length ≤ 1048576) :
    Calls Try.prog 29 #[v] w fun e w' => e = .returned (.tuple #[.int .i64 (voV l), .bool (snL l)]) ∧ Below w.heap.size w w' := by
  have HN := Lib.hid (vo_no (l := l))
  have HY := Lib.hid (vo_yes (l := l))
  have HSA := Lib.hid (snL_any (l := l))
  have HSI := Lib.hid (snL_iff l)
  have HWD := Lib.hid (wk_del (l := l))
  have hwl := wk_le l
  have HF := Lib.hid (vt_few (l := l))
  have HM := Lib.hid (vt_many (l := l))
  have E0 := Lib.hid (fun W => within_c (l.length : Int) 1 5 W)
  have E1 := Lib.hid (fun W h => has12_c v l W h hn)
  have E2 := Lib.hid (fun W h => cloneR_c v l W h hn)
  have HSL := Lib.hid (snL_len (l := l))
  have HR := Lib.hid hr
  obtain ⟨ao, a, oa, ca, rfl, hao, hat⟩ := hr.formR
  clear hr hao hat
  cases h0 : inR (l.length : Int) 1 5 with
  | false =>
    rw [h0] at E0
    have HO := Lib.hid (HSL.out h0)
    clear h0
    go_enter Try.func29, Try.ntmps29
    go_wp2_with fail
    refine (E0.out _).mono ?_
    rintro e w1 ⟨rfl, rfl⟩
    go_wp2
    go_ret2
    exact ⟨ret_ib9 (by rw [HN.out HO.out]) HO.out.symm, Below.refl _ _⟩
  | true =>
    have hsa := HSA.out h0
    rw [h0] at E0
    clear h0
    generalize (l.any fun x => !inR x (-1) 60) = b1 at *
    cases b1 with
    | true =>
      have HO : Hid (snL l = false) := Lib.hid (by rw [hsa]; rfl)
      clear hsa
      go_enter Try.func29, Try.ntmps29
      go_wp2_with fail
      refine (E0.out _).mono ?_
      rintro e w1 ⟨rfl, rfl⟩
      go_wp2_with fail
      refine (E1.out _ HR.out).mono ?_
      rintro e w2 ⟨rfl, t2⟩
      go_wp2
      go_ret2
      exact ⟨ret_ib9 (by rw [HN.out HO.out]) HO.out.symm, t2⟩
    | false =>
      have HO : Hid (snL l = true) := Lib.hid (by rw [hsa]; rfl)
      clear hsa
      have hl := (HSI.out.1 HO.out).1
      have hwd := HWD.out HO.out
      have HYY := Lib.hid (HY.out HO.out)
      go_enter Try.func29, Try.ntmps29
      go_wp2_with fail
      refine (E0.out _).mono ?_
      rintro e w1 ⟨rfl, rfl⟩
      go_wp2_with fail
      refine (E1.out _ HR.out).mono ?_
      rintro e w2 ⟨rfl, t2⟩
      have T2 := Lib.hid t2
      clear t2
      go_wp2_with fail
      refine (E2.out _ (HR.out.below T2.out rfl)).mono ?_
      rintro e w3 ⟨g, rfl, og, t3⟩
      have T3 := Lib.hid (T2.out.trans (t3.mono T2.out.size))
      have OG := Lib.hid (own_mono og T2.out.size)
      clear t3 og
      go_wp2_with fail
      refine (delI_c g l _ w1.heap.size OG.out (by omega) (by omega)).mono ?_
      rintro e w4 ⟨g4, rfl, o4, hg4⟩
      rw [hwd] at o4
      have T4 := Lib.hid (T3.out.grown hg4 T3.out.size (fun j hj => (OG.out.lt j hj).1))
      have O4 := Lib.hid o4
      obtain ⟨a4, b4, o4', c4, rfl, hA4, hB4⟩ := (Rd.of_own o4).formR
      have HA4 := Lib.hid hA4
      clear hg4 o4 hwd OG hA4 hB4
      generalize hW : wkL l = W at *
      by_cases h2 : 2 * W.length < l.length
      · have t2 : decide (2 * (W.length : Int) < (l.length : Int)) = true := by simp; omega
        have HV : Hid (voV l = 60) := Lib.hid (by rw [HYY.out, HF.out h2])
        have q1 : IntKind.i64.wrap (2 * (W.length : Int)) = 2 * (W.length : Int) := IntWalk.i64_in _ (by omega)
        clear h2 hW
        go_wp2
        go_ret2
        exact ⟨ret_ib9 HV.out.symm HO.out.symm, T4.out⟩
      · have t2 : decide (2 * (W.length : Int) < (l.length : Int)) = false := by simp; omega
        have HV : Hid (voV l = (srt W).getD (W.length / 2) 0) := Lib.hid (by rw [HYY.out, HM.out h2])
        have q1 : IntKind.i64.wrap (2 * (W.length : Int)) = 2 * (W.length : Int) := IntWalk.i64_in _ (by omega)
        have hW5 : W.length ≤ 5 := by omega
        have hW0 : 0 < W.length := by omega
        obtain ⟨rfl, _, _⟩ := HA4.out hW0
        clear h2 hW HA4
        go_wp2_with fail
        refine (sortI_c _ W _ w1.heap.size O4.out (by omega)).mono ?_
        rintro e w5 ⟨rfl, o5, hg5⟩
        have T5 := Lib.hid (T4.out.grown hg5 T4.out.size (fun j hj => (O4.out.lt j hj).1))
        have hsl := srt_len W
        rw [← hsl] at o5
        obtain ⟨a5, b5, f5, c5, hv5, h5, hat5⟩ := (Rd.of_own o5).formR
        rw [hsl] at hv5 h5
        cases hv5
        obtain ⟨e5, hb5, hm5⟩ := h5 hW0
        cases e5
        have c0 := hat5 (W.length / 2) (by rw [hsl]; omega)
        have hq : Int.tdiv (W.length : Int) 2 = ((W.length / 2 : Nat) : Int) := by rw [Int.tdiv_eq_ediv_of_nonneg (by omega)]; omega
        have hq2 : W.length / 2 < W.length := by omega
        generalize (srt W).getD (W.length / 2) 0 = X at *
        clear hg5 o5 hat5 hsl
        go_wp2
        go_ret2
        exact ⟨ret_ib9 HV.out.symm HO.out.symm, T5.out⟩
end Go.Proofs.Ytoamhbobcpljpaa
