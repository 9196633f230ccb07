/- The force in a second, quotients rounded down, and sums of successive pairs. Condition: sizes; the library's table is as laid. -/
import Derived.Test.YthmoogkllpcebaaDoorBrkT
namespace Go.Proofs.YthmoogkllpcebaaDoor
open Go.RowKit
set_option linter.unusedVariables false
theorem rd_pos {a m : Int} (hm : 1 ≤ m) (h : ¬ Int.tmod a m < 0) : Int.tdiv a m = a / m := by
  by_cases h0 : 0 ≤ a
  · exact Int.tdiv_eq_ediv_of_nonneg h0
  · obtain ⟨b, rfl⟩ : ∃ b, a = -b := ⟨-a, by omega⟩
    rw [Int.neg_tmod, Int.tmod_eq_emod_of_nonneg (by omega)] at h
    rw [Int.neg_tdiv, Int.tdiv_eq_ediv_of_nonneg (by omega)]
    have h1 := Int.emod_nonneg b (show m ≠ 0 by omega)
    have h2 := Int.mul_ediv_add_emod b m
    symm
    rw [Int.ediv_eq_iff_of_pos (by omega)]
    generalize b / m = q at *
    have e1 : m * q = q * m := Int.mul_comm _ _
    have e2 : -q * m = -(q * m) := Int.neg_mul _ _
    have e3 : (-q + 1) * m = -(q * m) + m := by rw [Int.add_mul, Int.neg_mul, Int.one_mul]
    constructor <;> omega
theorem rd_neg {a m : Int} (hm : 1 ≤ m) (h : Int.tmod a m < 0) : Int.tdiv a m - 1 = a / m := by
  by_cases h0 : 0 ≤ a
  · rw [Int.tmod_eq_emod_of_nonneg h0] at h
    have h1 := Int.emod_nonneg a (show m ≠ 0 by omega)
    omega
  · obtain ⟨b, rfl⟩ : ∃ b, a = -b := ⟨-a, by omega⟩
    rw [Int.neg_tmod, Int.tmod_eq_emod_of_nonneg (by omega)] at h
    rw [Int.neg_tdiv, Int.tdiv_eq_ediv_of_nonneg (by omega)]
    have h1 := Int.emod_lt_of_pos b (show 0 < m by omega)
    have h2 := Int.mul_ediv_add_emod b m
    symm
    rw [Int.ediv_eq_iff_of_pos (by omega)]
    generalize b / m = q at *
    have e1 : m * q = q * m := Int.mul_comm _ _
    have e2 : (-q - 1) * m = -(q * m) - m := by rw [Int.sub_mul, Int.neg_mul, Int.one_mul]
    have e3 : (-q - 1 + 1) * m = -(q * m) := by rw [show -q - 1 + 1 = -q by omega, Int.neg_mul]
    constructor <;> omega
theorem tdiv_in {a m : Int} (hm : 1 ≤ m) (h : -10000000 ≤ a ∧ a ≤ 10000000) : -10000000 ≤ Int.tdiv a m ∧ Int.tdiv a m ≤ 10000000 := by
  by_cases h0 : 0 ≤ a
  · rw [Int.tdiv_eq_ediv_of_nonneg h0]
    have h1 := Int.ediv_nonneg h0 (show 0 ≤ m by omega)
    have h2 := Int.ediv_le_self m h0
    omega
  · obtain ⟨b, rfl⟩ : ∃ b, a = -b := ⟨-a, by omega⟩
    rw [Int.neg_tdiv, Int.tdiv_eq_ediv_of_nonneg (by omega)]
    have h1 := Int.ediv_nonneg (show 0 ≤ b by omega) (show 0 ≤ m by omega)
    have h2 := Int.ediv_le_self m (show 0 ≤ b by omega)
    omega
set_option maxHeartbeats 1000000 in
theorem roundedDown_c (a m : Int) (w : World) (hm : 1 ≤ m) (ha : -10000000 ≤ a ∧ a ≤ 10000000) :
    Calls Tryd.prog 87 #[.int .i64 a, .int .i64 m] w fun e w' => e = .returned (.int .i64 (a / m)) ∧ w' = w := by
  have hm0 : ¬ m = 0 := by omega
  have hb := tdiv_in hm ha
  have q0 : IntKind.i64.wrap (Int.tdiv a m) = Int.tdiv a m := IntWalk.i64_in _ (by omega)
  have q1 : IntKind.i64.wrap (Int.tdiv a m - 1) = Int.tdiv a m - 1 := IntWalk.i64_in _ (by omega)
  by_cases h : Int.tmod a m < 0
  · have HX := Lib.hid (rd_neg hm h)
    have t1 : decide (Int.tmod a m < 0) = true := by simpa using h
    clear hb ha
    go_enter Tryd.func87, Tryd.ntmps87
    go_wp2
    go_ret
    exact ⟨ret_ix10 HX.out, rfl⟩
  · have HX := Lib.hid (rd_pos hm h)
    have t1 : decide (Int.tmod a m < 0) = false := by simpa using h
    clear hb ha
    go_enter Tryd.func87, Tryd.ntmps87
    go_wp2
    go_ret
    exact ⟨ret_ix10 HX.out, rfl⟩
set_option maxHeartbeats 1000000 in
theorem l10Floor_c (a m : Int) (w : World) (hm : 1 ≤ m ∧ m ≤ 100000) (ha : -10000000 ≤ a ∧ a ≤ 10000000) :
    Calls Tryd.prog 89 #[.int .i64 a, .int .i64 m] w fun e w' => e = .returned (.int .i64 (a / m)) ∧ w' = w := by
  have hm0 : ¬ m = 0 := by omega
  by_cases h : 0 ≤ a
  · have hb := tdiv_in (m := m) (by omega) ha
    rw [floor_pos (b := m) h (by omega)] at hb
    have t1 : decide (0 ≤ a) = true := by simpa using h
    have q0 : IntKind.i64.wrap (a / m) = a / m := IntWalk.i64_in _ (by omega)
    go_enter Tryd.func89, Tryd.ntmps89
    go_wp2
    go_ret
    exact ⟨rfl, rfl⟩
  · have HX := Lib.hid (floor_neg (a := a) (b := m) (by omega) (by omega))
    rw [Int.tdiv_eq_ediv_of_nonneg (by omega)] at HX
    have t1 : decide (0 ≤ a) = false := by simpa using h
    have q1 : IntKind.i64.wrap (-a) = -a := IntWalk.i64_in _ (by omega)
    have q2 : IntKind.i64.wrap (-a + m) = -a + m := IntWalk.i64_in _ (by omega)
    have q3 : IntKind.i64.wrap (-a + m - 1) = -a + m - 1 := IntWalk.i64_in _ (by omega)
    have h1 := Int.ediv_nonneg (show 0 ≤ -a + m - 1 by omega) (show 0 ≤ m by omega)
    have h2 := Int.ediv_le_self m (show 0 ≤ -a + m - 1 by omega)
    have q0 : IntKind.i64.wrap ((-a + m - 1) / m) = (-a + m - 1) / m := IntWalk.i64_in _ (by omega)
    have q4 : IntKind.i64.wrap (-((-a + m - 1) / m)) = -((-a + m - 1) / m) := IntWalk.i64_in _ (by omega)
    go_enter Tryd.func89, Tryd.ntmps89
    go_wp2
    go_ret
    exact ⟨ret_ix10 HX.out, rfl⟩
theorem pairs10_bd {l : List Int} (hv : ∀ i, i < l.length → 0 ≤ l.getD i 0 ∧ l.getD i 0 ≤ 100000000) : ∀ k, k < l.length → 0 ≤ pairs10 l k ∧ pairs10 l k ≤ 200000000 * (k : Int)
  | 0, _ => by simp [pairs10]
  | k + 1, h => by
    have ih := pairs10_bd hv k (by omega)
    have h1 := hv k (by omega)
    have h2 := hv (k + 1) h
    simp only [pairs10]
    omega
theorem pairs10_step (l : List Int) {k : Nat} (h : 0 < k) : pairs10 l (k + 1 - 1) = pairs10 l (k - 1) + (l.getD (k - 1) 0 + l.getD k 0) := by
  obtain ⟨j, rfl⟩ : ∃ j, k = j + 1 := ⟨k - 1, by omega⟩
  simp [pairs10]
theorem pairs10_short {l : List Int} (h : l.length ≤ 1) : pairs10 l (l.length - 1) = 0 := by
  have : l.length - 1 = 0 := by omega
  rw [this]; rfl
set_option maxRecDepth 100000 in
set_option maxHeartbeats 4000000 in
theorem doubleMeans_c (v : Value) (l : List Int) (w : World) (hr : Rd w v (intVs l)) (hn : l.length ≤ 61) (hv : ∀ i, i < l.length → 0 ≤ l.getD i 0 ∧ l.getD i 0 ≤ 100000000) :
    Calls Tryd.prog 76 #[v] w fun e w' => e = .returned (.int .i64 (pairs10 l (l.length - 1))) ∧ Below w.heap.size w w' := by
  obtain ⟨ao, b, ob, ca, rfl, hao, hat⟩ := hr.formR
  have HA := Lib.hid hao
  have HL := Lib.hid hat
  have HV := Lib.hid hv
  have HW := Lib.hid (pairs10_bd hv)
  clear hv hr hao hat
  go_enter Tryd.func76, Tryd.ntmps76
  go_wp2
  go_loopw [3, 4] (fun s i wr => ∃ k : Nat, 0 < k ∧ (k ≤ l.length ∨ k = 1) ∧ i = .int .i64 k ∧ s = .int .i64 (pairs10 l (k - 1)) ∧ Hid (Below w.heap.size w wr)) (fun _ i _ => l.length - (intOf i).toNat)
  case atStart => exact ⟨1, by omega, .inr rfl, rfl, rfl, Lib.hid (Below.refl _ _)⟩
  case round =>
    obtain ⟨k, h0, hk, rfl, rfl, hbel⟩ := hrel
    by_cases hlt : k < l.length
    · obtain ⟨rfl, hla, hlm⟩ := HA.out (by omega)
      have c0 := (HL.out.below hbel.out hla) k hlt
      have c1 := (HL.out.below hbel.out hla) (k - 1) (by omega)
      have hx := HV.out k hlt
      have hy := HV.out (k - 1) (by omega)
      have hw0 := HW.out (k - 1) (by omega)
      have HS := Lib.hid (pairs10_step l h0)
      obtain ⟨p1, p2, p3⟩ := pred_in k h0 (by omega)
      generalize l.getD k 0 = X at *
      generalize l.getD (k - 1) 0 = Y at *
      generalize pairs10 l (k - 1) = Z at *
      have q1 : IntKind.i64.wrap (Y + X) = Y + X := IntWalk.i64_in _ (by omega)
      have q2 : IntKind.i64.wrap (Z + (Y + X)) = Z + (Y + X) := IntWalk.i64_in _ (by omega)
      go_wp2_with fail
      go_quiet (fail)
      clear p1 p2 p3
      go_wp2
      go_roundw
      case rel => exact ⟨k + 1, by omega, .inl (by omega), by go_num, by rw [HS.out], Lib.hid (below_drewN hbel.out _)⟩
      case measure => simp [intOf]; omega
    · have HE : Hid (pairs10 l (k - 1) = pairs10 l (l.length - 1)) := Lib.hid (by
        rcases hk with h | h
        · rw [show k = l.length by omega]
        · subst h
          rw [pairs10_short (by omega)]; rfl)
      have hk1 : (l.length : Int) ≤ (k : Int) := by omega
      go_wp2
      go_ret
      exact ⟨ret_ix10 HE.out, hbel.out⟩
set_option maxRecDepth 100000 in
set_option maxHeartbeats 4000000 in
theorem l9Way_c (v : Value) (l : List Int) (w : World) (hr : Rd w v (intVs l)) (hn : l.length ≤ 61) (hv : ∀ i, i < l.length → 0 ≤ l.getD i 0 ∧ l.getD i 0 ≤ 100000000) :
    Calls Tryd.prog 84 #[v] w fun e w' => e = .returned (.int .i64 (pairs10 l (l.length - 1))) ∧ Below w.heap.size w w' := by
  obtain ⟨ao, b, ob, ca, rfl, hao, hat⟩ := hr.formR
  have HA := Lib.hid hao
  have HL := Lib.hid hat
  have HV := Lib.hid hv
  have HW := Lib.hid (pairs10_bd hv)
  clear hv hr hao hat
  go_enter Tryd.func84, Tryd.ntmps84
  go_wp2
  go_loopw [3, 4] (fun s i wr => ∃ k : Nat, 0 < k ∧ (k ≤ l.length ∨ k = 1) ∧ i = .int .i64 k ∧ s = .int .i64 (pairs10 l (k - 1)) ∧ Hid (Below w.heap.size w wr)) (fun _ i _ => l.length - (intOf i).toNat)
  case atStart => exact ⟨1, by omega, .inr rfl, rfl, rfl, Lib.hid (Below.refl _ _)⟩
  case round =>
    obtain ⟨k, h0, hk, rfl, rfl, hbel⟩ := hrel
    by_cases hlt : k < l.length
    · obtain ⟨rfl, hla, hlm⟩ := HA.out (by omega)
      have c0 := (HL.out.below hbel.out hla) k hlt
      have c1 := (HL.out.below hbel.out hla) (k - 1) (by omega)
      have hx := HV.out k hlt
      have hy := HV.out (k - 1) (by omega)
      have hw0 := HW.out (k - 1) (by omega)
      have HS := Lib.hid (pairs10_step l h0)
      obtain ⟨p1, p2, p3⟩ := pred_in k h0 (by omega)
      generalize l.getD k 0 = X at *
      generalize l.getD (k - 1) 0 = Y at *
      generalize pairs10 l (k - 1) = Z at *
      have q1 : IntKind.i64.wrap (Z + Y) = Z + Y := IntWalk.i64_in _ (by omega)
      have q2 : IntKind.i64.wrap (Z + Y + X) = Z + Y + X := IntWalk.i64_in _ (by omega)
      go_wp2_with fail
      go_quiet (fail)
      clear p1 p2 p3
      go_wp2
      go_roundw
      case rel => exact ⟨k + 1, by omega, .inl (by omega), by go_num, by rw [HS.out]; exact congrArg _ (by omega), Lib.hid (below_drewN hbel.out _)⟩
      case measure => simp [intOf]; omega
    · have HE : Hid (pairs10 l (k - 1) = pairs10 l (l.length - 1)) := Lib.hid (by
        rcases hk with h | h
        · rw [show k = l.length by omega]
        · subst h
          rw [pairs10_short (by omega)]; rfl)
      have hk1 : (l.length : Int) ≤ (k : Int) := by omega
      go_wp2
      go_ret
      exact ⟨ret_ix10 HE.out, hbel.out⟩
set_option maxRecDepth 100000 in
set_option maxHeartbeats 4000000 in
theorem forceIn_c (L S : Int) (v : Value) (l : List Brk) (k s : Nat) (w : World) (hr : Rs w v l.length (brks l)) (hg : GoodB l) (hS : -100000 ≤ S ∧ S ≤ 100000) (hk : k ≤ 60) (hs : s < 2 ^ l.length) (hT : BruP w) :
    Calls Tryd.prog 71 #[.agg #[.int .i64 L, .int .i64 S, v], .int .i64 (k : Int), .int .u64 (s : Int)] w fun e w' => e = .returned (.int .i64 (frS S l s k)) ∧ Below w.heap.size w w' := by
  have hl4 := hg.1
  have hs16 := set_lt16 hl4 hs
  obtain ⟨ao, a, oa, ca, rfl, hao, hat⟩ := hr.form_Brk
  have HA := Lib.hid hao
  have HL := Lib.hid hat
  have HB := Lib.hid ((Below.refl w.heap.size w).alloc (Nat.le_refl _) (.cells #[.int .i64 L, .int .i64 S, .slice ao l.length ca] 26))
  have HB0 := Lib.hid (blk_new3 w (.int .i64 L) (.int .i64 S) (.slice ao l.length ca) 26)
  have HTB := Lib.hid (hT.below HB.out)
  have HF := Lib.hid (frS_mem (P := S) hl4 hs k)
  have HM := Lib.hid (fun i h => mem10_lt (i := i) hl4 hs h)
  have HGB := Lib.hid hg.2
  have hml := mem10_len s hs16
  have HBD : Hid (∀ j, 0 ≤ holdL l (k : Int) ((mem10 s).take j) ∧ holdL l (k : Int) ((mem10 s).take j) ≤ 400000) := Lib.hid (fun j => by
    have h1 := holdL_bd hg (k : Int) ((mem10 s).take j) (fun i hi => by
      have hi2 := List.mem_of_mem_take hi
      obtain ⟨n, hn, rfl⟩ := List.getElem_of_mem hi2
      have := mem10_lt hl4 hs hn
      simpa [List.getD, hn] using this)
    have h2 : ((mem10 s).take j).length ≤ 4 := by rw [List.length_take]; omega
    omega)
  clear hr hao hat hT hg
  go_enter Tryd.func71, Tryd.ntmps71
  go_wp2_with (fail)
  obtain ⟨b0, b1, b2⟩ := blk_cell3 HB0.out
  generalize hW0 : w.alloc (.cells #[.int .i64 L, .int .i64 S, .slice ao l.length ca] 26) = W0 at *
  have hs0 : W0.heap.size = w.heap.size + 1 := by rw [← hW0]; simp
  clear hW0
  refine (brakesIn_c s W0 hs16 HTB.out).mono ?_
  rintro e w1 ⟨g, rfl, o1, b1'⟩
  have HB1 := Lib.hid (HB.out.trans (b1'.mono HB.out.size))
  have HK1 := Lib.hid (blk_keep HB0.out b1' (by omega))
  obtain ⟨mo, m, om, cm, rfl, hmo, hmt⟩ := (Rd.of_own o1).formR
  rw [memI_len] at hmo
  have HMO := Lib.hid hmo
  have HMT := Lib.hid hmt
  have hz1 := b1'.size
  rw [memI_len]
  clear o1 b1' hmo hmt b0 b1 b2
  go_wp2
  go_loopw [7, 16] (fun f i wr => ∃ j : Nat, j ≤ (mem10 s).length ∧ i = .int .i64 j ∧ f = .int .i64 (S - holdL l (k : Int) ((mem10 s).take j)) ∧ Hid (Below w1.heap.size w1 wr)) (fun _ i _ => (mem10 s).length - (intOf i).toNat)
  case atStart => exact ⟨0, by omega, rfl, by simp [holdL], Lib.hid (Below.refl _ _)⟩
  case round =>
    obtain ⟨j, hj, rfl, rfl, hbel⟩ := hrel
    have hbs := hbel.out.size
    by_cases hlt : j < (mem10 s).length
    · obtain ⟨rfl, hlm, hmm⟩ := HMO.out (by omega)
      have hmi := HM.out j hlt
      obtain ⟨rfl, hla, hll⟩ := HA.out (by omega)
      have hla1 : a < w1.heap.size := by have := HB1.out.size; omega
      have c0 := (HMT.out.below hbel.out hlm) j (by rw [memI_len]; exact hlt)
      rw [memI_get] at c0
      obtain ⟨d0, d1⟩ := (HL.out.below (HB1.out.trans (hbel.out.mono HB1.out.size)) hla) _ hmi
      obtain ⟨e0, e1, e2⟩ := blk_cell3 (blk_keep HK1.out hbel.out (by omega))
      have HST := Lib.hid (holdL_take l (k : Int) (mem10 s) j hlt)
      have hbd := HBD.out j
      have hgb := (HGB.out _ hmi).1
      have HN := Lib.hid (hbel.out.alloc hbs (.cells #[.int .i64 (gth l ((mem10 s).getD j 0)).f, .int .i64 (gth l ((mem10 s).getD j 0)).d] 35))
      generalize gth l ((mem10 s).getD j 0) = X at *
      generalize (mem10 s).getD j 0 = I at *
      generalize holdL l (k : Int) ((mem10 s).take j) = F at *
      have q1 : IntKind.i64.wrap (S - F - X.f) = S - F - X.f := IntWalk.i64_in _ (by omega)
      by_cases hd : X.d ≤ (k : Int)
      · have t1 : decide (X.d ≤ (k : Int)) = true := by simpa using hd
        rw [if_pos hd] at HST
        clear hd
        go_wp2
        go_roundw
        case rel => exact ⟨j + 1, by omega, by go_num, by rw [HST.out]; congr 1; omega, HN⟩
        case measure => simp [intOf]; omega
      · have t1 : decide (X.d ≤ (k : Int)) = false := by simpa using hd
        rw [if_neg hd] at HST
        clear hd
        go_wp2
        go_roundw
        case rel => exact ⟨j + 1, by omega, by go_num, by rw [HST.out]; congr 1; omega, HN⟩
        case measure => simp [intOf]; omega
    · obtain rfl : j = (mem10 s).length := by omega
      have HE : Hid (S - holdL l (k : Int) ((mem10 s).take (mem10 s).length) = frS S l s k) := Lib.hid (by rw [HF.out, List.take_length])
      go_wp2
      go_ret
      exact ⟨ret_ix10 HE.out, HB1.out.trans (hbel.out.mono HB1.out.size)⟩
end Go.Proofs.YthmoogkllpcebaaDoor
