/- The laws' comparisons of rows and circles, and their sums. Condition: sizes. -/
import Derived.Test.YtmmjbdffpgohdaaCirMax
import Derived.Test.YtmmjbdffpgohdaaCirQ
import Derived.Test.YtmmjbdffpgohdaaBig
namespace Go.Proofs.Ytmmjbdffpgohdaa
open Go.RowKit
set_option linter.unusedVariables false
set_option maxHeartbeats 1000000 in
theorem vIntsG_c (va vb : Value) (l m : List Int) (w : World) (ha : Rd w va (intVs l)) (hb : Rd w vb (intVs m)) (hl : l.length ≤ 1048576) (hm : m.length ≤ 1048576) :
    Calls Try.prog 34 #[va, vb] w fun e w' => e = .returned (.bool (decide (l = m))) ∧ Below w.heap.size w w' := by
  obtain ⟨ao, a, oa, ca, rfl, haa, hata⟩ := ha.form8
  obtain ⟨bo, b, ob, cb, rfl, hbb, hatb⟩ := hb.form8
  have HAA := Lib.hid haa
  have HAB := Lib.hid hbb
  have HLA := Lib.hid hata
  have HLB := Lib.hid hatb
  clear ha hb haa hbb hata hatb
  by_cases hlm : l.length = m.length
  · have HD : Hid (∀ j, j < l.length → l.getD j 0 ≠ m.getD j 0 → false = decide (l = m)) := Lib.hid (fun j hj hne => by
      symm
      rw [decide_eq_false_iff_not]
      intro e
      exact hne (by rw [e]))
    have HE : Hid ((∀ j, j < l.length → l.getD j 0 = m.getD j 0) → true = decide (l = m)) := Lib.hid (fun h => by
      symm
      rw [decide_eq_true_iff]
      refine List.ext_getElem hlm fun i h1 h2 => ?_
      have := h i h1
      simpa [List.getD, h1, h2] using this)
    have HLM := Lib.hid hlm
    have t1 : ((l.length : Int) != (m.length : Int)) = false := by rw [hlm]; simp
    have t2 : (l.length != m.length) = false := by rw [hlm]; simp
    clear hlm
    go_enter Try.func34, Try.ntmps34
    go_wp2
    go_loopw [5] (fun i wr => ∃ k n : Nat, k ≤ l.length ∧ i = .int .i64 k ∧ wr = w.drewN n ∧ Hid (∀ j, j < k → l.getD j 0 = m.getD j 0)) (fun i _ => l.length - (intOf i).toNat)
    case atStart => exact ⟨0, 0, Nat.zero_le _, rfl, rfl, Lib.hid (fun j h => by omega)⟩
    case round =>
      obtain ⟨k, n, hk, rfl, rfl, hno⟩ := hrel
      by_cases hlt : k < l.length
      · have hltm : k < m.length := by rw [← HLM.out]; exact hlt
        obtain ⟨rfl, _, _⟩ := HAA.out (by omega)
        obtain ⟨rfl, _, _⟩ := HAB.out (by omega)
        have c1 : w.cell? ⟨a, oa + k, none⟩ = some (.int .i64 (l.getD k 0)) := HLA.out k hlt
        have c2 : w.cell? ⟨b, ob + k, none⟩ = some (.int .i64 (m.getD k 0)) := HLB.out k hltm
        have HD1 := Lib.hid (HD.out k hlt)
        have HN1 : Hid (l.getD k 0 = m.getD k 0 → ∀ j, j < k + 1 → l.getD j 0 = m.getD j 0) := Lib.hid (fun h j hj => by
          by_cases e : j = k
          · subst e; exact h
          · exact hno.out j (by omega))
        generalize l.getD k 0 = x at *
        generalize m.getD k 0 = y at *
        have t5 : (k : Int) < (m.length : Int) := by omega
        have t6 : (k : Int) < (l.length : Int) := by omega
        clear hltm t1 t2
        by_cases hxy : x = y
        · have HN2 := Lib.hid (HN1.out hxy)
          subst hxy
          go_wp2
          go_quiet (fail)
          go_wp2
          go_roundw
          case rel => exact ⟨k + 1, n + nq, by omega, by go_num, rfl, HN2⟩
          case measure => simp [intOf]; omega
        · have HX := Lib.hid (HD1.out hxy)
          have t3 : (x != y) = true := by simpa using hxy
          have t4 : (x == y) = false := by simpa using hxy
          go_wp2
          go_quiet (fail)
          go_wp2
          go_ret
          exact ⟨ret_b HX.out, below_drewN (below_drewN (Below.refl _ _) _) _⟩
      · obtain rfl : k = l.length := by omega
        have HX := Lib.hid (HE.out hno.out)
        go_wp2
        go_ret
        exact ⟨ret_b HX.out, below_drewN (Below.refl _ _) _⟩
  · have HX : Hid (false = decide (l = m)) := Lib.hid (by
      symm
      rw [decide_eq_false_iff_not]
      intro e
      exact hlm (by rw [e]))
    have t1 : ((l.length : Int) != (m.length : Int)) = true := by rw [bne_iff_ne]; omega
    have t2 : ¬ ((l.length : Int) = (m.length : Int)) := by omega
    have t3 : ((l.length : Int) == (m.length : Int)) = false := by rw [beq_eq_false_iff_ne]; omega
    go_enter Try.func34, Try.ntmps34
    go_wp2
    go_ret
    exact ⟨ret_b HX.out, Below.refl _ _⟩
theorem sum_take (l : List Int) (k : Nat) (h : k < l.length) : (l.take (k + 1)).sum = (l.take k).sum + l.getD k 0 := by
  rw [List.take_succ_eq_append_getElem h, List.sum_append]
  simp [List.getD, h]
theorem sum_bd {l : List Int} (h : ∀ x ∈ l, 0 ≤ x ∧ x ≤ 4000) : ∀ k, k ≤ l.length → 0 ≤ (l.take k).sum ∧ (l.take k).sum ≤ 4000 * k
  | 0, _ => by simp
  | k + 1, hk => by
    have ih := sum_bd h k (by omega)
    rw [sum_take l k (by omega)]
    have hm : l.getD k 0 ∈ l := getD_mem (by omega)
    have := h _ hm
    omega
set_option maxHeartbeats 1000000 in
theorem vSum_c (va : Value) (l : List Int) (w : World) (ha : Rd w va (intVs l)) (hl : l.length ≤ 12) (hb : ∀ x ∈ l, 0 ≤ x ∧ x ≤ 4000) :
    Calls Try.prog 45 #[va] w fun e w' => e = .returned (.int .i64 l.sum) ∧ Below w.heap.size w w' := by
  obtain ⟨ao, a, oa, ca, rfl, haa, hata⟩ := ha.form8
  have HAA := Lib.hid haa
  have HLA := Lib.hid hata
  have HB := Lib.hid (sum_bd hb)
  have HM := Lib.hid hb
  clear ha haa hata hb
  go_enter Try.func45, Try.ntmps45
  go_wp2
  go_loopw [3, 4] (fun s i wr => ∃ k : Nat, k ≤ l.length ∧ i = .int .i64 k ∧ s = .int .i64 (l.take k).sum ∧ wr = w) (fun _ i _ => l.length - (intOf i).toNat)
  case atStart => exact ⟨0, Nat.zero_le _, rfl, rfl, rfl⟩
  case round =>
    obtain ⟨k, hk, rfl, rfl, rfl⟩ := hrel
    by_cases hlt : k < l.length
    · obtain ⟨rfl, _, _⟩ := HAA.out (by omega)
      have c1 := HLA.out k hlt
      have hs := HB.out k hk
      have HS := Lib.hid (sum_take l k hlt)
      have hx := HM.out _ (getD_mem hlt)
      generalize l.getD k 0 = x at *
      generalize (l.take k).sum = s at *
      go_wp2
      go_roundw
      case rel => exact ⟨k + 1, by omega, by go_num, by rw [HS.out], (by first | rfl | trivial)⟩
      case measure => simp [intOf]; omega
    · obtain rfl : k = l.length := by omega
      have HX : Hid ((l.take l.length).sum = l.sum) := Lib.hid (by rw [List.take_length])
      go_wp2
      go_ret
      exact ⟨by rw [HX.out]; rfl, Below.refl _ _⟩
set_option maxRecDepth 100000 in
set_option maxHeartbeats 1000000 in
theorem vCircle_c (L S : Int) (va vb : Value) (l m : List Int) (w : World) (ha : Rd w va (intVs l)) (hb : Rd w vb (intVs m)) (hl : l.length ≤ 1048576) (hm : m.length ≤ 1048576) :
    Calls Try.prog 40 #[.agg #[.int .i64 L, .int .i64 S, va], .agg #[.int .i64 L, .int .i64 S, vb]] w fun e w' => e = .returned (.bool (decide (l = m))) ∧ Below w.heap.size w w' := by
  have HRA := Lib.hid ha
  have HRB := Lib.hid hb
  obtain ⟨a, ca, rfl⟩ := ha.isl
  obtain ⟨b, cb, rfl⟩ := hb.isl
  have E0 := Lib.hid (fun W h1 h2 => vIntsG_c (.slice a l.length ca) (.slice b m.length cb) l m W h1 h2 hl hm)
  have HB0 := Lib.hid (((Below.refl w.heap.size w).alloc (Nat.le_refl _) (.cells #[.int .i64 L, .int .i64 S, .slice a l.length ca] 55)).alloc (by simp) (.cells #[.int .i64 L, .int .i64 S, .slice b m.length cb] 55))
  have hk0 := blk_stay (o' := .cells #[.int .i64 L, .int .i64 S, .slice b m.length cb] 55) (blk_new3 w (.int .i64 L) (.int .i64 S) (.slice a l.length ca) 55)
  have hk1 := blk_new3 (w.alloc (.cells #[.int .i64 L, .int .i64 S, .slice a l.length ca] 55)) (.int .i64 L) (.int .i64 S) (.slice b m.length cb) 55
  simp only [World.size_alloc] at hk1
  clear ha hb
  obtain ⟨c0, c1, c2⟩ := blk_cell3 hk0
  obtain ⟨d0, d1, d2⟩ := blk_cell3 hk1
  clear hk0 hk1
  go_enter Try.func40, Try.ntmps40
  go_wp2_with fail
  refine (E0.out _ (HRA.out.below HB0.out rfl) (HRB.out.below HB0.out rfl)).mono ?_
  rintro e w1 ⟨rfl, b1⟩
  have HT := Lib.hid (HB0.out.trans (b1.mono HB0.out.size))
  clear b1 c0 c1 c2 d0 d1 d2
  go_wp2
  go_ret
  exact ⟨rfl, HT.out⟩
end Go.Proofs.Ytmmjbdffpgohdaa
