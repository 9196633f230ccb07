/- StillUp: the program's and the specification's answer as one function. Condition: sizes; the table of rules is as laid. -/
import Derived.Test.YtpknodbkjjcdjaaDoorTkMath2
import Derived.Test.YtpknodbkjjcdjaaDoorTikQ
namespace Go.Proofs.YtpknodbkjjcdjaaDoor
open Go.RowKit
set_option linter.unusedVariables false
theorem ret_p {a b : Int} {c d : Bool} (h : a = b) (g : c = d) : Ending.returned (.tuple #[.int .i64 a, .bool c]) = .returned (.tuple #[.int .i64 b, .bool d]) := by rw [h, g]
theorem l1Most11_c (a b : Int) (w : World) :
    Calls Tryd.prog 81 #[.int .i64 a, .int .i64 b] w fun e w' => e = .returned (.int .i64 (if b < a then a else b)) ∧ w' = w := by
  by_cases h : b < a
  · rw [if_pos h]
    go_enter Tryd.func81, Tryd.ntmps81
    go_wp2
    go_ret
    exact ⟨rfl, rfl⟩
  · rw [if_neg h]
    go_enter Tryd.func81, Tryd.ntmps81
    go_wp2
    go_ret
    exact ⟨rfl, rfl⟩
set_option maxRecDepth 100000 in
set_option maxHeartbeats 4000000 in
theorem implStillUp_c (v : Value) (l : List Tik) (w : World) (hr : Rs w v l.length (tiks l)) (hn : l.length ≤ 1048576) (hT : RulP w) :
    Calls Tryd.prog 42 #[v] w fun e w' => e = .returned (.tuple #[.int .i64 (suV l), .bool (tikL l)]) ∧ Below w.heap.size w w' := by
  have E0 := Lib.hid (fun W h h2 => implAreTickets_c v l W h hn h2)
  have HTT := Lib.hid hT
  clear hT
  have HR := Lib.hid hr
  obtain ⟨ao, a, oa, ca, rfl, hao, hat⟩ := hr.form_Tik
  have HA := Lib.hid hao
  have HL := Lib.hid hat
  clear hr hao hat
  cases hk : tikL l with
  | false =>
    rw [hk] at E0
    have HN := Lib.hid (su_no hk)
    clear hk
    go_enter Tryd.func42, Tryd.ntmps42
    go_wp2_with fail
    refine (E0.out _ HR.out HTT.out).mono ?_
    rintro e w1 ⟨rfl, b1⟩
    go_wp2
    go_ret2
    exact ⟨ret_p HN.out.symm rfl, b1⟩
  | true =>
    have hc := tikL_yes hk
    have h12 := hc.len
    have HM := Lib.hid (fun k h => upN_bd hc k h)
    have HO := Lib.hid (fun j (h : j < l.length) => upT_bd (hc.one h))
    have HI := Lib.hid (fun j (h : j < l.length) => (isT_iff _).1 (hc.one h))
    rw [hk] at E0
    have HN := Lib.hid (su_yes hk)
    clear hk hc
    go_enter Tryd.func42, Tryd.ntmps42
    go_wp2_with fail
    refine (E0.out _ HR.out HTT.out).mono ?_
    rintro e w1 ⟨rfl, b1⟩
    go_wp2
    go_loopw [4, 12] (fun t i wr => ∃ k : Nat, k ≤ l.length ∧ i = .int .i64 k ∧ t = .int .i64 (upN l k) ∧ Hid (Below w.heap.size w wr)) (fun _ i _ => l.length - (intOf i).toNat)
    case atStart => exact ⟨0, by omega, rfl, rfl, Lib.hid b1⟩
    case round =>
      obtain ⟨k, hkl, rfl, rfl, hbel⟩ := hrel
      by_cases hlt : k < l.length
      · obtain ⟨rfl, hla, hlm⟩ := HA.out (by omega)
        obtain ⟨c0, c1, c2, c3, c4⟩ := (HL.out.below hbel.out hla) k hlt
        have g1 := HM.out k hkl
        have g2 := HO.out k hlt
        have g3 := HI.out k hlt
        have g4 := tE_bd (gth l k).s
        have HX : Hid (upN l (k + 1) = upN l k + upT (gth l k)) := Lib.hid rfl
        have hmx : max ((gth l k).g - (gth l k).p) 0 = upT (gth l k) := rfl
        generalize upT (gth l k) = U at *
        generalize gth l k = D at *
        generalize upN l k = S at *
        have e0 : IntKind.i64.wrap (D.g - D.p) = D.g - D.p := IntWalk.i64_in _ (by omega)
        have e1 : IntKind.i64.wrap (S + U) = S + U := IntWalk.i64_in _ (by omega)

        by_cases hx : D.g - D.p ≤ 0
        · obtain rfl : U = 0 := by omega
          go_wp2
          go_roundw
          case rel => exact ⟨k + 1, by omega, by go_num, by rw [HX.out]; congr 2; split <;> omega, Lib.hid (hbel.out.alloc hbel.out.size _)⟩
          case measure => simp [intOf]; omega
        · obtain rfl : U = D.g - D.p := by omega
          go_wp2
          go_roundw
          case rel => exact ⟨k + 1, by omega, by go_num, by rw [HX.out]; congr 2; split <;> omega, Lib.hid (hbel.out.alloc hbel.out.size _)⟩
          case measure => simp [intOf]; omega
      · obtain rfl : k = l.length := by omega
        go_wp2
        go_ret2
        exact ⟨ret_p HN.out.symm rfl, hbel.out⟩
set_option maxRecDepth 100000 in
set_option maxHeartbeats 4000000 in
theorem specStillUp_c (v : Value) (l : List Tik) (w : World) (hr : Rs w v l.length (tiks l)) (hn : l.length ≤ 1048576) :
    Calls Tryd.prog 43 #[v] w fun e w' => e = .returned (.tuple #[.int .i64 (suV l), .bool (tikL l)]) ∧ Below w.heap.size w w' := by
  have E0 := Lib.hid (fun W h => l11Good_c v l W h (by omega))
  have HR := Lib.hid hr
  obtain ⟨ao, a, oa, ca, rfl, hao, hat⟩ := hr.form_Tik
  have HA := Lib.hid hao
  have HL := Lib.hid hat
  clear hr hao hat
  cases hk : tikL l with
  | false =>
    rw [hk] at E0
    have HN := Lib.hid (su_no hk)
    clear hk
    go_enter Tryd.func43, Tryd.ntmps43
    go_wp2_with fail
    refine (E0.out _ HR.out).mono ?_
    rintro e w1 ⟨rfl, b1⟩
    go_wp2
    go_ret2
    exact ⟨ret_p HN.out.symm rfl, b1⟩
  | true =>
    have hc := tikL_yes hk
    have h12 := hc.len
    have HM := Lib.hid (fun k h => upN_bd hc k h)
    have HO := Lib.hid (fun j (h : j < l.length) => upT_bd (hc.one h))
    have HI := Lib.hid (fun j (h : j < l.length) => (isT_iff _).1 (hc.one h))
    rw [hk] at E0
    have HN := Lib.hid (su_yes hk)
    clear hk hc
    go_enter Tryd.func43, Tryd.ntmps43
    go_wp2_with fail
    refine (E0.out _ HR.out).mono ?_
    rintro e w1 ⟨rfl, b1⟩
    go_wp2
    go_loopw [4, 5] (fun t i wr => ∃ k : Nat, k ≤ l.length ∧ i = .int .i64 k ∧ t = .int .i64 (upN l k) ∧ Hid (Below w.heap.size w wr)) (fun _ i _ => l.length - (intOf i).toNat)
    case atStart => exact ⟨0, by omega, rfl, rfl, Lib.hid b1⟩
    case round =>
      obtain ⟨k, hkl, rfl, rfl, hbel⟩ := hrel
      by_cases hlt : k < l.length
      · obtain ⟨rfl, hla, hlm⟩ := HA.out (by omega)
        obtain ⟨c0, c1, c2, c3, c4⟩ := (HL.out.below hbel.out hla) k hlt
        have g1 := HM.out k hkl
        have g2 := HO.out k hlt
        have g3 := HI.out k hlt
        have g4 := tE_bd (gth l k).s
        have HX : Hid (upN l (k + 1) = upN l k + upT (gth l k)) := Lib.hid rfl
        have hmx : max ((gth l k).g - (gth l k).p) 0 = upT (gth l k) := rfl
        generalize upT (gth l k) = U at *
        generalize gth l k = D at *
        generalize upN l k = S at *
        have e0 : IntKind.i64.wrap (D.g - D.p) = D.g - D.p := IntWalk.i64_in _ (by omega)
        have e1 : IntKind.i64.wrap (S + U) = S + U := IntWalk.i64_in _ (by omega)

        have HM1 := Lib.hid (fun W => l1Most11_c 0 (D.g - D.p) W)
        have hu : (if D.g - D.p < 0 then (0 : Int) else D.g - D.p) = U := by split <;> omega
        rw [hu] at HM1
        have D3 : ∀ x : Aft wr, x.w.cell? ⟨a, oa + k * 5 + 3, none⟩ = some (.int .i64 D.g) := fun x => x.cell c3
        have D4 : ∀ x : Aft wr, x.w.cell? ⟨a, oa + k * 5 + 4, none⟩ = some (.int .i64 D.p) := fun x => x.cell c4
        clear c0 c1 c2 c3 c4 g2 g3 g4 hu hmx
        go_wp2_with fail
        refine wp_region_aft (w0 := wr) (by kernel_rfl) (by kernel_rfl) (Below.refl _ _) ?_
        repeat (go_big_quiet_step (first | (go_at_call 81; exact aft_same (HM1.out _)) | fail))
        refine wpQuiet_nil ?_
        rintro _ ⟨x, rfl⟩
        go_wp2
        go_roundw
        case rel => exact ⟨k + 1, by omega, by go_num, by rw [HX.out], Lib.hid (hbel.out.trans (x.below.mono hbel.out.size))⟩
        case measure => simp [intOf]; omega
      · obtain rfl : k = l.length := by omega
        go_wp2
        go_ret2
        exact ⟨ret_p HN.out.symm rfl, hbel.out⟩
end Go.Proofs.YtpknodbkjjcdjaaDoor
