/- FewestCabins, the specification's. Condition: sizes. -/
import Derived.Test.YtiogjocbiagipabDoorCabFewI
import Derived.Test.YtiogjocbiagipabDoorOrdF
import Derived.Test.YtiogjocbiagipabDoorPutC
namespace Go.Proofs.YtiogjocbiagipabDoor
open Go.RowKit Go.Sort
set_option linter.unusedVariables false
theorem nin_srt {q : List Cab} (h : q.Pairwise (fun a c : Cab => a.i ≠ c.i)) {k : Nat} (hk : k < q.length) (s : Cab → Bool) : (gth q k).i ∉ srt (nums ((q.take k).filter s)) := by
  intro hm
  have h1 := (srt_perm _).mem_iff.1 hm
  obtain ⟨c, hc, he⟩ := List.mem_map.1 h1
  obtain ⟨i, hil, rfl⟩ := mem_gth (List.mem_filter.1 hc).1
  rw [List.length_take] at hil
  rw [gth_take (by omega)] at he
  exact pair_gth h (show i < k by omega) hk he
theorem ordA_nums {l : List Cab} (hl : Cabs l) : (ordA false l).Pairwise (fun a c : Cab => a.i ≠ c.i) :=
  (ordA_perm false l).symm.pairwise (hl.pair.imp (fun h => by omega)) (fun h => h.symm)
set_option maxRecDepth 100000 in
set_option maxHeartbeats 4000000 in
theorem specFewestCabins_c (v : Value) (l : List Cab) (m : Int) (w : World) (hr : Rs w v l.length (cabs l)) (hn : l.length ≤ 1048576) (hw : (Lit.int .i64 m).wf = true) :
    Calls Tryd.prog 29 #[v, .int .i64 m] w fun e w' => ∃ g, e = .returned (.tuple #[g, .bool (fwOk l m)]) ∧ w'.ownsRow w.heap.size 3 1 g (fwR l m).length (intVs (fwR l m)) ∧ Below w.heap.size w w' := by
  have E0 := Lib.hid (fun W h => l5Good_c v l W h hn)
  have E1 := Lib.hid (fun W => l1In_c m 0 200 W)
  have hd : fwIn l m = (cabL l && inR m 0 200) := rfl
  have HR := Lib.hid (Rs.below hr ((Below.refl _ _).alloc (Nat.le_refl _) (.cells #[] 3)) rfl)
  have HO := Lib.hid (World.ownsRow_made w #[] 0 (base := w.heap.size) (e := 3) (size := 1) (Nat.le_refl _) (by decide) rfl)
  have HT := Lib.hid ((Below.refl w.heap.size w).alloc (Nat.le_refl _) (.cells #[] 3))
  clear hr hw
  cases hk : cabL l with
  | false =>
    rw [hk] at E0 hd
    have HN := Lib.hid (fw_no (l := l) (m := m) (by rw [hd]; rfl))
    clear hk hd E1
    go_enter Tryd.func29, Tryd.ntmps29
    go_wp2_with fail
    refine (E0.out _ HR.out).mono ?_
    rintro e w1 ⟨rfl, b1⟩
    go_wp2
    go_ret2
    exact ⟨_, by rw [HN.out.1]; rfl, by rw [HN.out.2]; exact own_below HO.out b1, HT.out.trans (b1.mono HT.out.size)⟩
  | true =>
    cases hm : inR m 0 200 with
    | false =>
      rw [hk] at E0
      rw [hm] at E1
      rw [hk, hm] at hd
      have HN := Lib.hid (fw_no (l := l) (m := m) (by rw [hd]; rfl))
      clear hk hm hd
      go_enter Tryd.func29, Tryd.ntmps29
      go_wp2_with fail
      refine (E0.out _ HR.out).mono ?_
      rintro e w1 ⟨rfl, b1⟩
      go_wp2_with fail
      refine (E1.out _).mono ?_
      rintro e w2 ⟨rfl, rfl⟩
      go_wp2
      go_ret2
      exact ⟨_, by rw [HN.out.1]; rfl, by rw [HN.out.2]; exact own_below HO.out b1, HT.out.trans (b1.mono HT.out.size)⟩
    | true =>
      have HC := Lib.hid (cabL_yes hk)
      have h12 := HC.out.len
      obtain ⟨hm0, hm1⟩ := (inR_iff m 0 200).1 hm
      rw [hk] at E0
      rw [hm] at E1
      rw [hk, hm] at hd
      have HD : Hid (fwIn l m = true) := Lib.hid (by rw [hd]; rfl)
      clear hk hm hd
      go_enter Tryd.func29, Tryd.ntmps29
      go_wp2_with fail
      refine (E0.out _ HR.out).mono ?_
      rintro e w1 ⟨rfl, b1⟩
      go_wp2_with fail
      refine (E1.out _).mono ?_
      rintro e w2 ⟨rfl, rfl⟩
      go_wp2_with fail
      refine (l5Order_f v l _ (HR.out.below b1 rfl) h12).mono ?_
      rintro e w3 ⟨og, rfl, o3, b3⟩
      have HB3 := Lib.hid (HT.out.trans ((b1.trans (b3.mono b1.size)).mono HT.out.size))
      have HO3 := Lib.hid (own_below (own_below HO.out b1) b3)
      have hol := ordA_len false l
      have HND := Lib.hid (ordA_nums HC.out)
      have HRD : Hid (rdy l = (ordA false l).filter (inSt 0)) := Lib.hid rfl
      have HSE := Lib.hid (rdy_seats HC.out)
      have HQS : Hid (∀ c ∈ ordA false l, 1 ≤ c.s ∧ c.s ≤ 16) := Lib.hid (fun c hc => HC.out.seats ((ordA_perm false l).mem_iff.1 hc))
      have HFY := Lib.hid (fun h => fw_yes (l := l) (m := m) HD.out h)
      have HFN := Lib.hid (fun h => fw_none (l := l) (m := m) h)
      generalize rdy l = r at *
      generalize ordA false l = q at *
      rw [← hol] at o3
      obtain ⟨ao, a, oa, ca, rfl, hao, hat⟩ := own_at5 o3
      have HA := Lib.hid hao
      have HL := Lib.hid hat
      have HTB : Hid (∀ k, 0 ≤ sumS ((q.take k).filter (inSt 0)) ∧ sumS ((q.take k).filter (inSt 0)) ≤ 192) := Lib.hid (fun k => by
        have h := sumS_bound ((q.take k).filter (inSt 0)) (fun c hc => HQS.out c (List.mem_of_mem_take ((List.mem_filter.1 hc).1)))
        have := filt_len' (inSt 0) q k
        omega)
      clear hao hat o3 b3 b1
      go_wp2
      go_loopw [1, 6, 8] (fun pp o i wr => ∃ k : Nat, k ≤ q.length ∧ i = .int .i64 k ∧ pp = .int .i64 (m - sumS ((q.take k).filter (inSt 0))) ∧ wr.ownsRow w.heap.size 3 1 o ((q.take k).filter (inSt 0)).length (intVs (srt (nums ((q.take k).filter (inSt 0))))) ∧ Hid (o.ownBlock ≠ none) ∧ Hid (Below w.heap.size w wr) ∧ Hid (CabAt wr a oa q) ∧ Hid (w3.heap.size ≤ wr.heap.size) ∧ Hid (∀ j, j < ((q.take k).filter (inSt 0)).length → sumS (r.take j) < m)) (fun _ _ i _ => q.length - (intOf i).toNat)
      case atStart => exact ⟨0, by omega, rfl, by simp [sumS], by simpa [srt_nil, nums] using HO3.out, Lib.hid (by simp [Value.ownBlock]), HB3, HL, Lib.hid (Nat.le_refl _), Lib.hid (fun j h => by simp at h)⟩
      case round =>
        obtain ⟨k, hk, rfl, rfl, hown, hnn, hbel, hcat, hsz, hinv⟩ := hrel
        have hbs := hbel.out.size
        obtain ⟨g1, g2⟩ := HTB.out k
        have hfl : ((q.take k).filter (inSt 0)).length ≤ 12 := by have := filt_len' (inSt 0) q k; omega
        have HPF : Hid ((q.take k).filter (inSt 0) = r.take ((q.take k).filter (inSt 0)).length) := Lib.hid (by rw [HRD.out]; exact filt_prefix _ _ _)
        have HPL : Hid (((q.take k).filter (inSt 0)).length ≤ r.length) := Lib.hid (by
          have h := congrArg List.length HPF.out
          rw [List.length_take] at h; omega)
        by_cases hp : sumS ((q.take k).filter (inSt 0)) < m
        · have t1 : decide (0 < m - sumS ((q.take k).filter (inSt 0))) = true := by simp; omega
          have t1b : decide (sumS ((q.take k).filter (inSt 0)) < m) = true := by simp; omega
          by_cases hlt : k < q.length
          · obtain ⟨rfl, haB, hla, hlm⟩ := HA.out (by omega)
            obtain ⟨c0, c1, c2, c3, c4⟩ := hcat.out k hlt
            have hszr := hsz.out
            by_cases hst : (gth q k).g = 0
            · have HS := Lib.hid (filt_yes hlt (inSt_yes hst))
              have hqs := HQS.out _ (gth_mem hlt)
              have HNI := Lib.hid (nin_srt HND.out hlt (inSt 0))
              have HIN : Hid (∀ j, j < ((q.take (k + 1)).filter (inSt 0)).length → sumS (r.take j) < m) := Lib.hid (fun j h => by
                rw [HS.out, List.length_append, List.length_singleton] at h
                by_cases e : j = ((q.take k).filter (inSt 0)).length
                · rw [e, ← HPF.out]; exact hp
                · exact hinv.out j (by omega))
              have t2 : ((gth q k).g == 0) = true := by simpa using hst
              have HSM : Hid (sumS ((q.take (k + 1)).filter (inSt 0)) = sumS ((q.take k).filter (inSt 0)) + (gth q k).s) := Lib.hid (by rw [HS.out, sumS_one])
              clear hst hp
              generalize gth q k = D at *
              have HTT : Hid (nums ((q.take (k + 1)).filter (inSt 0)) = nums ((q.take k).filter (inSt 0)) ++ [D.i]) := Lib.hid (by rw [HS.out, nums_one])
              have HTL : Hid (((q.take (k + 1)).filter (inSt 0)).length = ((q.take k).filter (inSt 0)).length + 1) := Lib.hid (by rw [HS.out, List.length_append]; rfl)
              have HTN : Hid ((srt (nums ((q.take k).filter (inSt 0)))).length = ((q.take k).filter (inSt 0)).length) := Lib.hid (by rw [srt_len, nums_len])
              generalize (q.take k).filter (inSt 0) = TK at *
              go_wp2_with fail
              refine (l1Put_c _ (srt (nums TK)) D.i TK.length _ _ HTN.out hown hnn.out hfl HNI.out).mono ?_
              rintro e w5 ⟨h, rfl, kk, q1, q2, q3, o5, n5, b5⟩
              have HO5 : Hid (w5.ownsRow w.heap.size 3 1 h ((q.take (k + 1)).filter (inSt 0)).length (intVs (srt (nums ((q.take (k + 1)).filter (inSt 0)))))) := Lib.hid (by
                rw [HTL.out, HTT.out, ← put_srt (by rw [HTN.out] at q1; rw [nums_len]; exact q1) q2 (fun hh => q3 (by rw [HTN.out]; rw [nums_len] at hh; exact hh))]
                rw [HTN.out] at o5
                exact own_mono o5 hbs)
              have HN5 := Lib.hid n5
              have HB5 := Lib.hid (hbel.out.trans (b5.mono hbs))
              have HC5 := Lib.hid (hcat.out.below b5 (by omega))
              have HS5 : Hid (w3.heap.size ≤ w5.heap.size) := Lib.hid (Nat.le_trans hszr b5.size)
              obtain ⟨d0, d1, d2, d3, d4⟩ : w5.cell? ⟨a, oa + k * 5, none⟩ = some (.int .i64 D.i) ∧ w5.cell? ⟨a, oa + k * 5 + 1, none⟩ = some (.int .i64 D.s) ∧ w5.cell? ⟨a, oa + k * 5 + 2, none⟩ = some (.int .i64 D.w) ∧ w5.cell? ⟨a, oa + k * 5 + 3, none⟩ = some (.int .i64 D.g) ∧ w5.cell? ⟨a, oa + k * 5 + 4, none⟩ = some (.int .i64 D.p) :=
                ⟨(b5.cell (by show a < _; omega)).trans c0, (b5.cell (by show a < _; omega)).trans c1, (b5.cell (by show a < _; omega)).trans c2, (b5.cell (by show a < _; omega)).trans c3, (b5.cell (by show a < _; omega)).trans c4⟩
              clear q1 q2 q3 o5 n5 b5 c0 c1 c2 c3 c4
              generalize sumS TK = S at *
              have e1 : IntKind.i64.wrap (m - S - D.s) = m - S - D.s := IntWalk.i64_in _ (by omega)
              go_wp2
              go_roundw
              case rel => exact ⟨k + 1, by omega, by go_num, by rw [HSM.out]; congr 1; omega, HO5.out, HN5, HB5, HC5, HS5, HIN⟩
              case measure => simp [intOf]; omega
            · have HS := Lib.hid (filt_no hlt (inSt_no hst))
              have t2 : ((gth q k).g == 0) = false := by simpa using hst
              clear hst hp
              generalize gth q k = D at *
              go_wp2
              go_roundw
              case rel => exact ⟨k + 1, by omega, by go_num, by rw [HS.out], by rw [HS.out]; exact hown, hnn, hbel, hcat, hsz, by rw [HS.out]; exact hinv⟩
              case measure => simp [intOf]; omega
          · have HN2 := Lib.hid (HFN.out (by rw [show k = q.length by omega, List.take_length, ← HRD.out] at hp; exact hp))
            clear hp
            generalize sumS ((q.take k).filter (inSt 0)) = S at *
            go_wp2
            go_ret2
            exact ⟨_, by rw [HN2.out.1]; rfl, by rw [HN2.out.2]; exact World.ownsRow_made _ #[] 0 hbs (by decide) rfl, hbel.out.alloc hbs _⟩
        · have t1 : decide (0 < m - sumS ((q.take k).filter (inSt 0))) = false := by simp; omega
          have t1b : decide (sumS ((q.take k).filter (inSt 0)) < m) = false := by simp; omega
          have HY := Lib.hid (HFY.out (by have := sumS_take_le HSE.out ((q.take k).filter (inSt 0)).length; rw [← HPF.out] at this; omega))
          have HT2 : Hid (fewN r m = ((q.take k).filter (inSt 0)).length) := Lib.hid (fewN_at r m _ HPL.out hinv.out (.inr (by rw [← HPF.out]; omega)))
          clear hp
          generalize sumS ((q.take k).filter (inSt 0)) = S at *
          by_cases hlt : k < q.length
          all_goals
            go_wp2
            go_ret2
            exact ⟨_, by rw [HY.out.1]; rfl, by rw [HY.out.2, HT2.out, ← HPF.out, srt_len, nums_len]; exact hown, hbel.out⟩
end Go.Proofs.YtiogjocbiagipabDoor
