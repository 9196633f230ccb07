/- SeatsOnLine: the program's and the specification's answer as one function. Condition: sizes. -/
import Derived.Test.YtiogjocbiagipabDoorCabInC
namespace Go.Proofs.YtiogjocbiagipabDoor
open Go.RowKit
set_option linter.unusedVariables false
noncomputable def soV (l : List Cab) : Int := if cabL l then sumS (stOf l 1) else 0
theorem so_no {l : List Cab} (h : cabL l = false) : soV l = 0 := by simp [soV, h]
theorem so_yes {l : List Cab} (h : cabL l = true) : soV l = sumS (stOf l 1) := by simp [soV, h]
theorem sum_take {l : List Cab} (hl : ∀ c ∈ l, 1 ≤ c.s ∧ c.s ≤ 16) (h12 : l.length ≤ 12) (k : Nat) : 0 ≤ sumS (l.take k) ∧ sumS (l.take k) ≤ 192 := by
  have h := sumS_bound (l.take k) (fun c hc => hl c (List.mem_of_mem_take hc))
  have := List.length_take_le' k l
  omega
theorem stOf_seats {l : List Cab} (h : Cabs l) (s : Int) : ∀ c ∈ stOf l s, 1 ≤ c.s ∧ c.s ≤ 16 := fun c hc => h.seats ((List.mem_filter.1 hc).1)
theorem sum_filt {l : List Cab} (hl : Cabs l) (q : Cab → Bool) (k : Nat) : 0 ≤ sumS ((l.take k).filter q) ∧ sumS ((l.take k).filter q) ≤ 192 := by
  have h := sumS_bound ((l.take k).filter q) (fun c hc => hl.seats (List.mem_of_mem_take ((List.mem_filter.1 hc).1)))
  have := filt_len' q l k
  have := hl.len
  omega
set_option maxRecDepth 100000 in
set_option maxHeartbeats 4000000 in
theorem implSeatsOnLine_c (v : Value) (l : List Cab) (w : World) (hr : Rs w v l.length (cabs l)) (hn : l.length ≤ 1048576) :
    Calls Tryd.prog 34 #[v] w fun e w' => e = .returned (.tuple #[.int .i64 (soV l), .bool (cabL l)]) ∧ Below w.heap.size w w' := by
  have E0 := Lib.hid (fun W h => implAreCabins_c v l W h hn)
  have HR := Lib.hid hr
  clear hr
  cases hk : cabL l with
  | false =>
    rw [hk] at E0
    have HN := Lib.hid (so_no hk)
    clear hk
    go_enter Tryd.func34, Tryd.ntmps34
    go_wp2_with fail
    refine (E0.out _ HR.out).mono ?_
    rintro e w1 ⟨rfl, b1⟩
    go_wp2
    go_ret2
    exact ⟨ret_p HN.out.symm rfl, b1⟩
  | true =>
    have hc := cabL_yes hk
    have h12 := hc.len
    have HS := Lib.hid (stOf_seats hc 1)
    rw [hk] at E0
    have HN := Lib.hid (so_yes hk)
    have hsl := stOf_len l 1
    clear hk hc
    go_enter Tryd.func34, Tryd.ntmps34
    go_wp2_with fail
    refine (E0.out _ HR.out).mono ?_
    rintro e w1 ⟨rfl, b1⟩
    go_wp2_with fail
    refine (inState_c v l 1 _ (HR.out.below b1 rfl) h12).mono ?_
    rintro e w3 ⟨g, rfl, o3, b3⟩
    have HT := Lib.hid (b1.trans (b3.mono b1.size))
    generalize stOf l 1 = m at *
    have HM := Lib.hid (fun k => sum_take HS.out (by omega : m.length ≤ 12) k)
    obtain ⟨ao, a, oa, ca, rfl, hao, hat⟩ := (Rs.of_own o3).form_Cab
    have HA := Lib.hid hao
    have HL := Lib.hid hat
    clear hao hat o3 b3
    go_wp2
    go_loopw [4, 13] (fun t i wr => ∃ k : Nat, k ≤ m.length ∧ i = .int .i64 k ∧ t = .int .i64 (sumS (m.take k)) ∧ Hid (Below w3.heap.size w3 wr)) (fun _ i _ => m.length - (intOf i).toNat)
    case atStart => exact ⟨0, by omega, rfl, rfl, Lib.hid (Below.refl _ _)⟩
    case round =>
      obtain ⟨k, hk, rfl, rfl, hbel⟩ := hrel
      by_cases hlt : k < m.length
      · obtain ⟨rfl, hla, hlm⟩ := HA.out (by omega)
        obtain ⟨c0, c1, c2, c3, c4⟩ := (HL.out.below hbel.out hla) k hlt
        obtain ⟨g1, g2⟩ := HM.out k
        have hs1 := HS.out _ (gth_mem hlt)
        have HX : Hid (sumS (m.take (k + 1)) = sumS (m.take k) + (gth m k).s) := Lib.hid (by rw [take_gth m k hlt, sumS_one])
        generalize gth m k = D at *
        generalize sumS (m.take k) = S at *
        have e1 : IntKind.i64.wrap (S + D.s) = S + D.s := IntWalk.i64_in _ (by omega)
        go_wp2
        go_roundw
        case rel => exact ⟨k + 1, by omega, by go_num, by rw [HX.out], Lib.hid (hbel.out.alloc hbel.out.size _)⟩
        case measure => simp [intOf]; omega
      · obtain rfl : k = m.length := by omega
        rw [List.take_length]
        go_wp2
        go_ret2
        exact ⟨ret_p HN.out.symm rfl, HT.out.trans (hbel.out.mono HT.out.size)⟩
set_option maxRecDepth 100000 in
set_option maxHeartbeats 4000000 in
theorem specSeatsOnLine_c (v : Value) (l : List Cab) (w : World) (hr : Rs w v l.length (cabs l)) (hn : l.length ≤ 1048576) :
    Calls Tryd.prog 42 #[v] w fun e w' => e = .returned (.tuple #[.int .i64 (soV l), .bool (cabL l)]) ∧ Below w.heap.size w w' := by
  have E0 := Lib.hid (fun W h => l5Good_c v l W h hn)
  have HR := Lib.hid hr
  obtain ⟨ao, a, oa, ca, rfl, hao, hat⟩ := hr.form_Cab
  have HA := Lib.hid hao
  have HL := Lib.hid hat
  clear hr hao hat
  cases hk : cabL l with
  | false =>
    rw [hk] at E0
    have HN := Lib.hid (so_no hk)
    clear hk
    go_enter Tryd.func42, Tryd.ntmps42
    go_wp2_with fail
    refine (E0.out _ HR.out).mono ?_
    rintro e w1 ⟨rfl, b1⟩
    go_wp2
    go_ret2
    exact ⟨ret_p HN.out.symm rfl, b1⟩
  | true =>
    have hc := cabL_yes hk
    have HM := Lib.hid (fun k => sum_filt hc (inSt 1) k)
    have HS := Lib.hid (fun c (h : c ∈ l) => hc.seats h)
    have h12 := hc.len
    rw [hk] at E0
    have HN := Lib.hid (so_yes hk)
    clear hk hc
    go_enter Tryd.func42, Tryd.ntmps42
    go_wp2_with fail
    refine (E0.out _ HR.out).mono ?_
    rintro e w1 ⟨rfl, b1⟩
    go_wp2
    go_loopw [4, 5] (fun t i wr => ∃ k : Nat, k ≤ l.length ∧ i = .int .i64 k ∧ t = .int .i64 (sumS ((l.take k).filter (inSt 1))) ∧ Hid (Below w.heap.size w wr)) (fun _ i _ => l.length - (intOf i).toNat)
    case atStart => exact ⟨0, by omega, rfl, rfl, Lib.hid b1⟩
    case round =>
      obtain ⟨k, hkl, rfl, rfl, hbel⟩ := hrel
      by_cases hlt : k < l.length
      · obtain ⟨rfl, hla, hlm⟩ := HA.out (by omega)
        obtain ⟨c0, c1, c2, c3, c4⟩ := (HL.out.below hbel.out hla) k hlt
        obtain ⟨g1, g2⟩ := HM.out k
        have hs1 := HS.out _ (gth_mem hlt)
        by_cases hst : (gth l k).g = 1
        · have HX : Hid (sumS ((l.take (k + 1)).filter (inSt 1)) = sumS ((l.take k).filter (inSt 1)) + (gth l k).s) := Lib.hid (by rw [filt_yes hlt (inSt_yes hst), sumS_one])
          have t1 : ((gth l k).g == 1) = true := by simpa using hst
          clear hst
          generalize gth l k = D at *
          generalize sumS ((l.take k).filter (inSt 1)) = S at *
          have e1 : IntKind.i64.wrap (S + D.s) = S + D.s := IntWalk.i64_in _ (by omega)
          go_wp2
          go_roundw
          case rel => exact ⟨k + 1, by omega, by go_num, by rw [HX.out], hbel⟩
          case measure => simp [intOf]; omega
        · have HX : Hid (sumS ((l.take (k + 1)).filter (inSt 1)) = sumS ((l.take k).filter (inSt 1))) := Lib.hid (by rw [filt_no hlt (inSt_no hst)])
          have t1 : ((gth l k).g == 1) = false := by simpa using hst
          clear hst
          generalize gth l k = D at *
          go_wp2
          go_roundw
          case rel => exact ⟨k + 1, by omega, by go_num, by rw [HX.out], hbel⟩
          case measure => simp [intOf]; omega
      · obtain rfl : k = l.length := by omega
        rw [List.take_length]
        go_wp2
        go_ret2
        exact ⟨ret_p HN.out.symm rfl, hbel.out⟩
end Go.Proofs.YtiogjocbiagipabDoor
