/- The program: how many can enter, how many events there are. Condition: sizes. -/
import Derived.Test.YtinlcbljpclccaaBpC
import Derived.Test.YtinlcbljpclccaaBoQ
import Derived.Deep.DeepCutAuto
namespace Go.Proofs.Ytinlcbljpclccaa
open Go.RowKit
set_option linter.unusedVariables false
theorem ret_meB {a c : Int} {x y : Bool} (h : a = c) (k : x = y) : Ending.returned (.tuple #[.int .i64 a, .bool x]) = .returned (.tuple #[.int .i64 c, .bool y]) := by rw [h, k]
set_option maxRecDepth 100000 in
set_option maxHeartbeats 2000000 in
theorem implMostEntering_c (p : Plt) (w : World) :
    Calls Try.prog 41 #[.agg #[.int .i64 p.d, .int .i64 p.s, .int .i64 p.i, .int .i64 p.w, .bool p.l, .int .i64 p.g]] w fun x w' => x = .returned (.tuple #[.int .i64 (meR p), .bool (plV p)]) ∧ Below w.heap.size w w' := by
  have E0 := Lib.hid (fun W => implIsPlatform_c p W)
  have E1 := Lib.hid (fun (h : plV p = true) (c : Int) W => implStepV_c p ⟨kEnter, c⟩ W h)
  have HM := Lib.hid (fun (h : plV p = true) (c : Int) => me_step h c)
  have HBD := Lib.hid (fun h : plV p = true => And.intro (entP_bd h).1 (ent_le h))
  have HA : Hid (meR p = if plV p then entP p else 0) := Lib.hid rfl
  have J0 := Lib.hid (heap_alloc_new w (.cells #[.int .i64 p.d, .int .i64 p.s, .int .i64 p.i, .int .i64 p.w, .bool p.l, .int .i64 p.g] 25))
  have HT0 := Lib.hid ((Below.refl w.heap.size w).alloc (Nat.le_refl _) (.cells #[.int .i64 p.d, .int .i64 p.s, .int .i64 p.i, .int .i64 p.w, .bool p.l, .int .i64 p.g] 25))
  have hs0 : (w.alloc (.cells #[.int .i64 p.d, .int .i64 p.s, .int .i64 p.i, .int .i64 p.w, .bool p.l, .int .i64 p.g] 25)).heap.size = w.heap.size + 1 := by simp
  generalize meR p = A at *
  generalize entP p = E at *
  generalize plV p = b at *
  go_enter Try.func41, Try.ntmps41
  go_wp2_with fail
  generalize w.alloc (.cells #[.int .i64 p.d, .int .i64 p.s, .int .i64 p.i, .int .i64 p.w, .bool p.l, .int .i64 p.g] 25) = W0 at *
  refine (E0.out _).mono ?_
  rintro x w1 ⟨rfl, t1⟩
  have T1 := Lib.hid (HT0.out.trans (t1.mono (by omega)))
  have J1 := Lib.hid (blk_keep J0.out t1 (by omega))
  have hz1 := t1.size
  clear t1 J0 HT0
  cases b with
  | false =>
    go_wp2
    go_ret2
    exact ⟨by rw [HA.out]; rfl, T1.out⟩
  | true =>
    have HAr : Hid ((E : Int) = A) := Lib.hid (by rw [HA.out]; rfl)
    have E1r := Lib.hid (E1.out rfl)
    have HMr := Lib.hid (HM.out rfl)
    have HBr := Lib.hid (HBD.out rfl)
    clear E1 HM HBD HA E0
    go_wp2
    go_loopw [4] (fun c wr => ∃ n : Nat, c = .int .i64 (n : Int) ∧ n ≤ 16 ∧ Hid (E ≤ (n : Int)) ∧ Hid (wr.heap[w.heap.size]? = some (.cells #[.int .i64 p.d, .int .i64 p.s, .int .i64 p.i, .int .i64 p.w, .bool p.l, .int .i64 p.g] 25 (0, 0))) ∧ Hid (Below w.heap.size w wr)) (fun c _ => (intOf c).toNat)
    case atStart => exact ⟨16, rfl, by omega, Lib.hid HBr.out.2, J1, T1⟩
    case round =>
      obtain ⟨n, rfl, hn16, HE, J2, T2⟩ := hrel
      clear J1 T1 hz1
      have hbs := T2.out.size
      have hjP := blk_lt J2.out
      obtain ⟨c0, c1, c2, c3, c4, c5⟩ := blk_cell6 J2.out
      by_cases hn : 0 < n
      · have hni : (0 : Int) < (n : Int) := by omega
        have p1 : IntKind.i64.wrap ((n : Int) - 1) = ((n - 1 : Nat) : Int) := by rw [show (n : Int) - 1 = ((n - 1 : Nat) : Int) by omega]; exact IntWalk.i64_in _ (by omega)
        have E2 := Lib.hid (fun W => E1r.out (n : Int) W)
        have HM2 := Lib.hid (HMr.out (n : Int))
        generalize stR p ⟨kEnter, (n : Int)⟩ = S at *
        generalize stOk p ⟨kEnter, (n : Int)⟩ = sb at *
        go_wp2_with fail
        refine (E2.out _).mono ?_
        rintro x w3 ⟨rfl, t⟩
        have T3 := Lib.hid (T2.out.trans (t.mono (by omega)))
        have J3 := Lib.hid (blk_keep J2.out t (by omega))
        have hs3 := t.size
        have T4 := Lib.hid (T3.out.alloc T3.out.size (.cells #[.int .i64 S.d, .int .i64 S.s, .int .i64 S.i, .int .i64 S.w, .bool S.l, .int .i64 S.g] 25))
        have J4 := Lib.hid (blk_stay (o' := .cells #[.int .i64 S.d, .int .i64 S.s, .int .i64 S.i, .int .i64 S.w, .bool S.l, .int .i64 S.g] 25) J3.out)
        clear t c0 c1 c2 c3 c4 c5
        cases sb with
        | true =>
          have hA : Hid ((n : Int) = A) := Lib.hid (by have h := HM2.out; have h2 := HE.out; have h3 := HAr.out; have h4 : 1 ≤ (n : Int) ∧ (n : Int) ≤ E := by simpa using h.symm
                                                       omega)
          go_wp2
          go_ret2
          exact ⟨ret_meB hA.out rfl, T4.out⟩
        | false =>
          have hE : Hid (E ≤ ((n - 1 : Nat) : Int)) := Lib.hid (by have h := HM2.out; have h2 := HE.out; have h4 : 1 ≤ (n : Int) → E < (n : Int) := by simpa using h.symm
                                                                   omega)
          go_wp2
          go_roundw
          case rel => exact ⟨n - 1, by go_num, by omega, hE, J4, T4⟩
          case measure => simp [intOf]; omega
      · have hni : ¬ (0 : Int) < (n : Int) := by omega
        have hA : Hid ((n : Int) = A) := Lib.hid (by have h1 := HE.out; have h2 := HBr.out.1; have h3 := HAr.out; omega)
        clear c0 c1 c2 c3 c4 c5
        go_wp2
        go_ret2
        exact ⟨ret_meB hA.out rfl, T2.out⟩
set_option maxRecDepth 100000 in
set_option maxHeartbeats 2000000 in
theorem implCountEvents_c (v : Value) (l : List Bev) (k : ByteArray) (w : World) (hr : Rs w v l.length (bevs l)) (hln : l.length ≤ maxLen) :
    Calls Try.prog 25 #[v, .string k] w fun x w' => x = .returned (.tuple #[.int .i64 (ceA l k), .int .i64 (ceB l k), .bool (ceOk l k)]) ∧ Below w.heap.size w w' := by
  unfold maxLen at hln
  have E0 := Lib.hid (fun W => boardCounts_c k W)
  have HO : Hid (ceOk l k = (decide (l.length ≤ 20) && (bcO k && l.all evV))) := Lib.hid rfl
  have HZ := Lib.hid (@ce_z l k)
  have HY := Lib.hid (@ce_y l k)
  obtain ⟨ao, a, oa, ca, rfl, hao, hat⟩ := hr.form_Bev
  have HA := Lib.hid hao
  have HL := Lib.hid hat
  clear hr hao hat
  have HBD := Lib.hid (ce_bd l k)
  have HNT := Lib.hid (ceN_take l k)
  have HST := Lib.hid (ceS_take l k)
  have HN0 : Hid (ceN (l.take 0) k = 0 ∧ ceS (l.take 0) k = 0) := Lib.hid ⟨rfl, rfl⟩
  generalize bcL k = u0 at *
  generalize bcG k = u1 at *
  generalize bcO k = kb at *
  generalize ceA l k = A at *
  generalize ceB l k = B at *
  generalize ceOk l k = b at *
  go_enter Try.func25, Try.ntmps25
  go_wp2_with fail
  refine (E0.out _).mono ?_
  rintro x wx ⟨rfl, hwx⟩
  rw [hwx]
  clear hwx
  by_cases hbad : kb = false ∨ 20 < l.length
  · have hz := Lib.hid (HZ.out (by rw [HO.out]; rcases hbad with h | h; · rw [h]; simp
                                   · rw [show decide (l.length ≤ 20) = false by simp; omega]; rfl))
    rcases hbad with h | h
    · subst h
      go_wp2
      go_ret3
      exact ⟨ret_ce hz.out.1 hz.out.2.1 hz.out.2.2, Below.refl _ _⟩
    · have hg : (20 : Int) < (l.length : Int) := by omega
      cases kb
      all_goals
        go_wp2
        go_ret3
        exact ⟨ret_ce hz.out.1 hz.out.2.1 hz.out.2.2, Below.refl _ _⟩
  · have hkb : kb = true := by cases kb; · exact absurd (.inl rfl) hbad
                               · rfl
    have hg : ¬ (20 : Int) < (l.length : Int) := by have : ¬ 20 < l.length := fun h => hbad (.inr h)
                                                    omega
    subst hkb
    have hl20 : Hid (l.length ≤ 20) := Lib.hid (by omega)
    have HK : Hid (b = l.all evV) := Lib.hid (by rw [HO.out, show decide (l.length ≤ 20) = true by simp; omega]; simp)
    clear HO hbad
    go_wp2
    go_loopw [10, 11, 29] (fun n s i wr => ∃ j : Nat, j ≤ l.length ∧ i = .int .i64 j ∧ n = .int .i64 (ceN (l.take j) k) ∧ s = .int .i64 (ceS (l.take j) k) ∧ Hid ((l.take j).all evV = true) ∧ Hid (Below w.heap.size w wr)) (fun _ _ i _ => l.length - (intOf i).toNat)
    case atStart => exact ⟨0, Nat.zero_le _, rfl, rfl, rfl, Lib.hid rfl, Lib.hid (Below.refl _ _)⟩
    case round =>
      obtain ⟨j, hj, rfl, rfl, rfl, HT, hb⟩ := hrel
      obtain ⟨b0, b1, b2, b3⟩ := HBD.out j hj HT.out
      by_cases hlt : j < l.length
      · obtain ⟨rfl, hla, hlm⟩ := HA.out (by omega)
        obtain ⟨c0, c1⟩ := (HL.out.below hb.out hla) j hlt
        have EV := Lib.hid (fun W => implIsBoardEvent_c (gth l j) W)
        have HN1 := Lib.hid (HNT.out j hlt)
        have HS1 := Lib.hid (HST.out j hlt)
        have HAT := Lib.hid (ce_all_take l j hlt)
        have HF := Lib.hid (fun h : evV (gth l j) = false => ce_no hlt h)
        have HEB := Lib.hid (fun h : evV (gth l j) = true => evV_bd h)
        have hl20j := hl20.out
        generalize ceN (l.take j) k = N0 at *
        generalize ceS (l.take j) k = S0 at *
        generalize evV (gth l j) = ev at *
        generalize gth l j = D at *
        obtain ⟨dk, dc⟩ := D
        try dsimp only at c0 c1
        have hbs := hb.out.size
        have N2 := Lib.hid (heap_alloc_new wr (.cells #[.string dk, .int .i64 dc] 35))
        have T2 := Lib.hid (hb.out.alloc hb.out.size (.cells #[.string dk, .int .i64 dc] 35))
        have hs2 : (wr.alloc (.cells #[.string dk, .int .i64 dc] 35)).heap.size = wr.heap.size + 1 := by simp
        go_wp2_with fail
        refine (EV.out _).mono ?_
        rintro x w1 ⟨rfl, t1⟩
        have N3 := Lib.hid (blk_keep N2.out t1 (by omega))
        have T3 := Lib.hid (T2.out.trans (t1.mono T2.out.size))
        clear t1 c0 c1 T2 N2 hs2
        obtain ⟨d0, d1⟩ := blk_cell2 N3.out
        have hq3 := blk_lt N3.out
        cases ev with
        | false =>
          have hz := Lib.hid (HZ.out (by rw [HK.out]; exact HF.out rfl))
          clear HN1 HS1
          go_wp2
          go_ret3
          exact ⟨ret_ce hz.out.1 hz.out.2.1 hz.out.2.2, T3.out⟩
        | true =>
          have heb := HEB.out rfl
          obtain ⟨g0, g1, _⟩ := heb
          try dsimp only at g0 g1
          have HT1 : Hid ((l.take (j + 1)).all evV = true) := Lib.hid (by rw [HAT.out, HT.out]; rfl)
          have a1 : IntKind.i64.wrap (N0 + 1) = N0 + 1 := IntWalk.i64_in _ (by omega)
          have a2 : IntKind.i64.wrap (S0 + dc) = S0 + dc := IntWalk.i64_in _ (by omega)
          by_cases hk : dk = k
          · have z : (dk.toList == k.toList) = true := str_eq hk
            have HN2 : Hid (ceN (l.take (j + 1)) k = N0 + 1) := Lib.hid (by rw [HN1.out, if_pos hk])
            have HS2 : Hid (ceS (l.take (j + 1)) k = S0 + dc) := Lib.hid (by rw [HS1.out, if_pos hk])
            clear hk
            go_wp2
            go_roundw
            case rel => exact ⟨j + 1, by omega, by go_num, by rw [HN2.out], by rw [HS2.out], HT1, T3⟩
            case measure => simp [intOf]; omega
          · have z : (dk.toList == k.toList) = false := str_ne hk
            have HN2 : Hid (ceN (l.take (j + 1)) k = N0) := Lib.hid (by rw [HN1.out, if_neg hk, Int.add_zero])
            have HS2 : Hid (ceS (l.take (j + 1)) k = S0) := Lib.hid (by rw [HS1.out, if_neg hk, Int.add_zero])
            clear hk
            go_wp2
            go_roundw
            case rel => exact ⟨j + 1, by omega, by go_num, by rw [HN2.out], by rw [HS2.out], HT1, T3⟩
            case measure => simp [intOf]; omega
      · obtain rfl : j = l.length := by omega
        have hy := Lib.hid (HY.out (by rw [HK.out]; have := HT.out; rwa [List.take_length] at this))
        go_wp2
        go_ret3
        exact ⟨ret_ce (by rw [List.take_length]; exact hy.out.1) (by rw [List.take_length]; exact hy.out.2.1) hy.out.2.2, hb.out⟩
end Go.Proofs.Ytinlcbljpclccaa
