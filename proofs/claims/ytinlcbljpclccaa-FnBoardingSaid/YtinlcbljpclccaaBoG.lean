/- Events counted: spec.CountEvents. Condition: sizes. -/
import Derived.Test.YtinlcbljpclccaaBoE
namespace Go.Proofs.Ytinlcbljpclccaa
open Go.RowKit
set_option linter.unusedVariables false
theorem ceN_take (l : List Bev) (k : ByteArray) (j : Nat) (h : j < l.length) : ceN (l.take (j + 1)) k = ceN (l.take j) k + (if (gth l j).k = k then 1 else 0) := by
  unfold ceN
  rw [take_gth l j h, List.filter_append, List.length_append]
  by_cases e : (gth l j).k = k <;> simp [List.filter, e]
theorem ceS_take (l : List Bev) (k : ByteArray) (j : Nat) (h : j < l.length) : ceS (l.take (j + 1)) k = ceS (l.take j) k + (if (gth l j).k = k then (gth l j).c else 0) := by
  unfold ceS
  rw [take_gth l j h, List.filter_append, List.map_append, List.sum_append]
  by_cases e : (gth l j).k = k <;> simp [List.filter, e]
theorem ce_all_take (l : List Bev) (j : Nat) (h : j < l.length) : (l.take (j + 1)).all evV = ((l.take j).all evV && evV (gth l j)) := by
  rw [take_gth l j h, List.all_append]; simp
theorem ce_bd (l : List Bev) (k : ByteArray) : ∀ j, j ≤ l.length → (l.take j).all evV = true → 0 ≤ ceN (l.take j) k ∧ ceN (l.take j) k ≤ j ∧ 0 ≤ ceS (l.take j) k ∧ ceS (l.take j) k ≤ j * 100 := by
  intro j
  induction j with
  | zero => intro _ _; simp [ceN, ceS]
  | succ j ih =>
    intro hj ha
    rw [ce_all_take l j (by omega), Bool.and_eq_true] at ha
    have hi := ih (by omega) ha.1
    have hb := evV_bd ha.2
    rw [ceN_take l k j (by omega), ceS_take l k j (by omega)]
    split <;> omega
theorem ce_no {l : List Bev} {j : Nat} (h : j < l.length) (he : evV (gth l j) = false) : l.all evV = false := by
  rw [List.all_eq_false]; exact ⟨gth l j, gth_mem h, by simp [he]⟩
def ceA (l : List Bev) (k : ByteArray) : Int := if ceOk l k then ceN l k else 0
def ceB (l : List Bev) (k : ByteArray) : Int := if ceOk l k then ceS l k else 0
theorem ret_ce {a b c d : Int} {x y : Bool} (h : a = c) (g : b = d) (k : x = y) : Ending.returned (.tuple #[.int .i64 a, .int .i64 b, .bool x]) = .returned (.tuple #[.int .i64 c, .int .i64 d, .bool y]) := by rw [h, g, k]
theorem ce_z {l : List Bev} {k : ByteArray} (h : ceOk l k = false) : 0 = ceA l k ∧ 0 = ceB l k ∧ false = ceOk l k := by simp [ceA, ceB, h]
theorem ce_y {l : List Bev} {k : ByteArray} (h : ceOk l k = true) : ceN l k = ceA l k ∧ ceS l k = ceB l k ∧ true = ceOk l k := by simp [ceA, ceB, h]
set_option maxRecDepth 100000 in
set_option maxHeartbeats 1000000 in
theorem specCountEvents_c (v : Value) (l : List Bev) (k : ByteArray) (w : World) (hr : Rs w v l.length (bevs l)) (hln : l.length ≤ maxLen) :
    Calls Try.prog 26 #[v, .string k] w fun x w' => x = .returned (.tuple #[.int .i64 (ceA l k), .int .i64 (ceB l k), .bool (ceOk l k)]) ∧ Below w.heap.size w w' := by
  unfold maxLen at hln
  have E0 := Lib.hid (fun W => l14Most_c k W)
  have HO : Hid (ceOk l k = (decide (l.length ≤ 20) && (decide (0 ≤ mostK k) && l.all evV))) := Lib.hid rfl
  have HZ := Lib.hid (@ce_z l k)
  have HY := Lib.hid (@ce_y l k)
  by_cases h20 : 20 < l.length
  · have hz := HZ.out (by rw [HO.out, show decide (l.length ≤ 20) = false by simp; omega]; rfl)
    obtain ⟨a, ca, rfl⟩ := hr.shape
    generalize ceA l k = A at *
    generalize ceB l k = B at *
    generalize ceOk l k = b at *
    obtain ⟨rfl, rfl, rfl⟩ := hz
    clear hr HY HZ HO
    go_enter Try.func26, Try.ntmps26
    go_wp2
    go_ret3
    exact ⟨rfl, Below.refl _ _⟩
  · by_cases hm : mostK k < 0
    · have hz := HZ.out (by rw [HO.out, show decide (0 ≤ mostK k) = false by simp; omega]; simp)
      obtain ⟨a, ca, rfl⟩ := hr.shape
      generalize ceA l k = A at *
      generalize ceB l k = B at *
      generalize ceOk l k = b at *
      obtain ⟨rfl, rfl, rfl⟩ := hz
      clear hr HY HZ HO
      generalize mostK k = mk at *
      go_enter Try.func26, Try.ntmps26
      go_wp2_with fail
      refine (E0.out _).mono ?_
      rintro x wx ⟨rfl, hwx⟩
      rw [hwx]
      clear hwx
      go_wp2
      go_ret3
      exact ⟨rfl, Below.refl _ _⟩
    · have HK : Hid (ceOk l k = l.all evV) := Lib.hid (by rw [HO.out, show decide (l.length ≤ 20) = true by simp; omega, show decide (0 ≤ mostK k) = true by simp; omega]; simp)
      clear HO
      generalize mostK k = mk at *
      by_cases h0 : l.length = 0
      · obtain rfl := List.eq_nil_of_length_eq_zero h0
        obtain ⟨a, ca, rfl⟩ := hr.zero
        have hy := HY.out (by rw [HK.out]; rfl)
        rw [show ceN [] k = 0 from rfl, show ceS [] k = 0 from rfl] at hy
        generalize ceA [] k = A at *
        generalize ceB [] k = B at *
        generalize ceOk [] k = b at *
        obtain ⟨rfl, rfl, rfl⟩ := hy
        clear hr h0 HY HZ HK
        go_enter Try.func26, Try.ntmps26
        go_wp2_with fail
        refine (E0.out _).mono ?_
        rintro x wx ⟨rfl, hwx⟩
        rw [hwx]
        clear hwx
        go_wp2
        refine wp_loop_rounds 1 ?_
        rw [rounds_succ]
        go_wp2
        go_ret3
        exact ⟨rfl, Below.refl _ _⟩
      · obtain ⟨a, oa, ca, rfl, hla, hcap, hmx, hca⟩ := hr.pos h0
        have HA := Lib.hid hca
        clear hca hr h0
        have HBD := Lib.hid (ce_bd l k)
        have HNT := Lib.hid (ceN_take l k)
        have HST := Lib.hid (ceS_take l k)
        generalize ceA l k = A at *
        generalize ceB l k = B at *
        generalize ceOk l k = b at *
        go_enter Try.func26, Try.ntmps26
        go_wp2_with fail
        refine (E0.out _).mono ?_
        rintro x wx ⟨rfl, hwx⟩
        rw [hwx]
        clear hwx
        go_wp2
        go_loopw [7, 8, 9] (fun n s i wr => ∃ j : Nat, j ≤ l.length ∧ i = .int .i64 j ∧ n = .int .i64 (ceN (l.take j) k) ∧ s = .int .i64 (ceS (l.take j) k) ∧ Hid ((l.take j).all evV = true) ∧ Below w.heap.size w wr) (fun _ _ i _ => l.length - (intOf i).toNat)
        case atStart => exact ⟨0, Nat.zero_le _, rfl, rfl, rfl, rfl, Below.refl _ _⟩
        case round =>
          obtain ⟨j, hj, rfl, rfl, rfl, HT, hb⟩ := hrel
          obtain ⟨b0, b1, b2, b3⟩ := HBD.out j hj HT.out
          by_cases hlt : j < l.length
          · obtain ⟨e0, e1⟩ := bevs_at l j hlt
            have c0 : wr.cell? ⟨a, oa + j * 2, none⟩ = some (.string (gth l j).k) := (hb.cell (p := ⟨a, oa + j * 2, none⟩) hla).trans (HA.out _ _ e0)
            have c1 : wr.cell? ⟨a, oa + j * 2 + 1, none⟩ = some (.int .i64 (gth l j).c) := (hb.cell (p := ⟨a, oa + j * 2 + 1, none⟩) hla).trans (HA.out _ _ e1)
            clear e0 e1
            have EV := Lib.hid (fun W => l14Event_c (gth l j) W)
            have HN1 := Lib.hid (HNT.out j hlt)
            have HS1 := Lib.hid (HST.out j hlt)
            have HAT := Lib.hid (ce_all_take l j hlt)
            have HF := Lib.hid (fun h : evV (gth l j) = false => ce_no hlt h)
            have HEB := Lib.hid (fun h : evV (gth l j) = true => evV_bd h)
            generalize evV (gth l j) = ev at *
            go_wp2_with fail
            refine (EV.out _).mono ?_
            rintro x w1 ⟨rfl, t1⟩
            have d0 := (t1.cell (p := ⟨a, oa + j * 2, none⟩) (Nat.lt_of_lt_of_le hla hb.size)).trans c0
            have d1 := (t1.cell (p := ⟨a, oa + j * 2 + 1, none⟩) (Nat.lt_of_lt_of_le hla hb.size)).trans c1
            have hb1 := hb.trans (t1.mono hb.size)
            clear c0 c1
            cases ev with
            | false =>
              have hz := Lib.hid (HZ.out (by rw [HK.out]; exact HF.out rfl))
              clear HN1 HS1
              go_wp2
              go_ret3
              exact ⟨ret_ce hz.out.1 hz.out.2.1 hz.out.2.2, hb1⟩
            | true =>
              have heb := HEB.out rfl
              obtain ⟨g0, g1, _⟩ := heb
              have HT1 : Hid ((l.take (j + 1)).all evV = true) := Lib.hid (by rw [HAT.out, HT.out]; rfl)
              by_cases hk : (gth l j).k = k
              · have z : ((gth l j).k.toList == k.toList) = true := str_eq hk
                have HN2 : Hid (ceN (l.take (j + 1)) k = ceN (l.take j) k + 1) := Lib.hid (by rw [HN1.out, if_pos hk])
                have HS2 : Hid (ceS (l.take (j + 1)) k = ceS (l.take j) k + (gth l j).c) := Lib.hid (by rw [HS1.out, if_pos hk])
                clear hk
                go_wp2
                go_roundw
                case rel => exact ⟨j + 1, by omega, by go_num, by rw [HN2.out], by rw [HS2.out], HT1.out, hb1⟩
                case measure => simp [intOf]; omega
              · have z : ((gth l j).k.toList == k.toList) = false := str_ne hk
                have HN2 : Hid (ceN (l.take (j + 1)) k = ceN (l.take j) k) := Lib.hid (by rw [HN1.out, if_neg hk, Int.add_zero])
                have HS2 : Hid (ceS (l.take (j + 1)) k = ceS (l.take j) k) := Lib.hid (by rw [HS1.out, if_neg hk, Int.add_zero])
                clear hk
                go_wp2
                go_roundw
                case rel => exact ⟨j + 1, by omega, by go_num, by rw [HN2.out], by rw [HS2.out], HT1.out, hb1⟩
                case measure => simp [intOf]; omega
          · obtain rfl : j = l.length := by omega
            have hy := Lib.hid (HY.out (by rw [HK.out]; have := HT.out; rwa [List.take_length] at this))
            go_wp2
            go_ret3
            exact ⟨ret_ce (by rw [List.take_length]; exact hy.out.1) (by rw [List.take_length]; exact hy.out.2.1) hy.out.2.2, hb⟩
end Go.Proofs.Ytinlcbljpclccaa
