/- The laws' helpers on lists of integers, and what the law FnSpans says of a line. Condition: sizes. -/
import Derived.Test.YtdnmmafnjhgeiabSpanLengthsC
import Derived.Test.YtdnmmafnjhgeiabStationsOfC
import Derived.Test.YtdnmmafnjhgeiabSteepestC
import Derived.Test.YtdnmmafnjhgeiabChordAtC
namespace Go.Proofs.Ytdnmmafnjhgeiab
open Go.RowKit
set_option linter.unusedVariables false
set_option maxHeartbeats 400000 in
theorem vInts_same (va vb : Value) (l : List Int) (w : World) (ha : Rd w va (intVs l)) (hb : Rd w vb (intVs l)) :
    Calls Try.prog 8 #[va, vb] w fun e w' => e = .returned (.bool true) ∧ Drew w w' := by
  by_cases h0 : l = []
  · subst h0
    obtain ⟨a, ca, rfl⟩ := ha.iv0
    obtain ⟨b, cb, rfl⟩ := hb.iv0
    clear ha hb
    go_enter Try.func8, Try.ntmps8
    go_wp2
    refine wp_loop_rounds 1 ?_
    rw [rounds_succ]
    go_wp2
    go_ret
    exact ⟨rfl, Drew.refl _⟩
  · obtain ⟨a, oa, ca, rfl, hla, hm, hca⟩ := ha.iv h0
    obtain ⟨b, ob, cb, rfl, hlb, _, hcb⟩ := hb.iv h0
    unfold maxLen at hm
    have HA := Lib.hid hca
    have HB := Lib.hid hcb
    clear hca hcb ha hb
    go_enter Try.func8, Try.ntmps8
    go_wp2
    go_loopw [5] (fun i wr => ∃ k m : Nat, k ≤ l.length ∧ i = .int .i64 k ∧ wr = w.drewN m) (fun i _ => l.length - (intOf i).toNat)
    case atStart => exact ⟨0, 0, Nat.zero_le _, rfl, rfl⟩
    case round =>
      obtain ⟨k, m, hk, rfl, rfl⟩ := hrel
      by_cases hlt : k < l.length
      · have c1 : w.cell? ⟨a, oa + k, none⟩ = some (.int .i64 (l.getD k 0)) := HA.out k hlt
        have c2 : w.cell? ⟨b, ob + k, none⟩ = some (.int .i64 (l.getD k 0)) := HB.out k hlt
        generalize l.getD k 0 = x at c1 c2
        go_wp2
        go_quiet (fail)
        go_wp2
        go_roundw
        case rel => exact ⟨k + 1, m + nq, by omega, by go_num, rfl⟩
        case measure => simp [intOf]; omega
      · go_wp2
        go_ret
        exact ⟨rfl, m, rfl⟩
theorem vInts_c (va vb : Value) (l : List Int) (w : World) (ha : Rd w va (intVs l)) (hb : Rd w vb (intVs l)) :
    Calls Try.prog 8 #[va, vb] w fun e w' => e = .returned (.bool true) ∧ Below w.heap.size w w' := (vInts_same va vb l w ha hb).mono fun _ _ h => ⟨h.1, h.2.below _⟩
def sumK (l : List Int) : Nat → Int
  | 0 => 0
  | k + 1 => sumK l k + l.getD k 0
set_option maxHeartbeats 1000000 in
theorem vSum_any (v : Value) (l : List Int) (r : Int) (w : World) (hr : Rd w v (intVs l)) (hn : l.length ≤ 8) (hs : ∀ k, k ≤ l.length → -100000 ≤ sumK l k ∧ sumK l k ≤ 100000) (he : sumK l l.length = r) :
    Calls Try.prog 13 #[v] w fun e w' => e = .returned (.int .i64 r) ∧ w' = w := by
  by_cases h0 : l = []
  · subst h0
    obtain ⟨a, ca, rfl⟩ := hr.iv0
    have HE := Lib.hid he
    clear hr hs he
    go_enter Try.func13, Try.ntmps13
    go_wp2
    refine wp_loop_rounds 1 ?_
    rw [rounds_succ]
    go_wp2
    go_ret
    exact ⟨by rw [← HE.out]; rfl, rfl⟩
  · obtain ⟨a, oa, ca, rfl, hla, hm, hca⟩ := hr.iv h0
    have HA := Lib.hid hca
    have HE := Lib.hid he
    have HS := Lib.hid hs
    clear hca hr h0 hs he
    go_enter Try.func13, Try.ntmps13
    go_wp2
    go_loop [3, 4] (fun s i => ∃ k : Nat, k ≤ l.length ∧ i = .int .i64 k ∧ s = .int .i64 (sumK l k)) (fun _ i => l.length - (intOf i).toNat)
    case atStart => exact ⟨0, Nat.zero_le _, rfl, rfl⟩
    case round =>
      obtain ⟨k, hk, rfl, rfl⟩ := hrel
      by_cases hlt : k < l.length
      · have c1 : w.cell? ⟨a, oa + k, none⟩ = some (.int .i64 (l.getD k 0)) := HA.out k hlt
        have HK := Lib.hid (show sumK l (k + 1) = sumK l k + l.getD k 0 from rfl)
        have b1 := HS.out k (by omega)
        have b2 := HS.out (k + 1) (by omega)
        rw [HK.out] at b2
        generalize l.getD k 0 = X at *
        generalize sumK l k = Y at *
        go_wp2
        go_round
        case rel => exact ⟨k + 1, by omega, by go_num, by rw [HK.out]⟩
        case measure => simp [intOf]; omega
      · obtain rfl : k = l.length := by omega
        go_wp2
        go_ret
        exact ⟨by rw [← HE.out]; rfl, rfl⟩
set_option maxHeartbeats 1000000 in
theorem vHas_yes (v : Value) (l : List Int) (x : Int) (w : World) (hr : Rd w v (intVs l)) (hn : l.length ≤ 8) (hx : x ∈ l) :
    Calls Try.prog 14 #[v, .int .i64 x] w fun e w' => e = .returned (.bool true) ∧ w' = w := by
  obtain ⟨j, hj, hjx⟩ := List.getElem_of_mem hx
  have h0 : l ≠ [] := by rintro rfl; simp at hj
  have hjx' : l.getD j 0 = x := by simp [List.getD, hj, hjx]
  obtain ⟨a, oa, ca, rfl, hla, hm, hca⟩ := hr.iv h0
  have HA := Lib.hid hca
  have HJ := Lib.hid hjx'
  clear hca hr h0 hx hjx hjx'
  go_enter Try.func14, Try.ntmps14
  go_wp2
  go_loop [5] (fun i => ∃ k : Nat, k ≤ j ∧ i = .int .i64 k) (fun i => l.length - (intOf i).toNat)
  case atStart => exact ⟨0, Nat.zero_le _, rfl⟩
  case round =>
    obtain ⟨k, hk, rfl⟩ := hrel
    have hlt : k < l.length := by omega
    have c1 : w.cell? ⟨a, oa + k, none⟩ = some (.int .i64 (l.getD k 0)) := HA.out k hlt
    by_cases hx : l.getD k 0 = x
    · have hxb : (l.getD k 0 == x) = true := by rw [beq_iff_eq]; exact hx
      clear hx
      generalize l.getD k 0 = X at *
      go_wp2
      go_ret
      exact ⟨rfl, rfl⟩
    · have hxb : (l.getD k 0 == x) = false := by rw [beq_eq_false_iff_ne]; exact hx
      have hkj : k < j := by
        by_cases e : k = j
        · subst e; exact absurd HJ.out hx
        · omega
      clear hx
      generalize l.getD k 0 = X at *
      go_wp2
      go_round
      case rel => exact ⟨k + 1, by omega, by go_num⟩
      case measure => simp [intOf]; omega
/-! What the law says, in plain words. -/
theorem lensK_get (l : List Sup) {k i : Nat} (h : i < k) : (lensK l k).getD i 0 = slen l i := by simp [lensK, List.getD, h]
theorem sumK_lens {l : List Sup} (hl : IsL l) : ∀ k, k + 1 ≤ l.length → sumK (lensK l (l.length - 1)) k = (nth l k).a
  | 0, _ => by rw [hl.a0]; rfl
  | k + 1, h => by
    rw [sumK, sumK_lens hl k (by omega), lensK_get l (by omega)]
    unfold slen; omega
theorem stas_zero {l : List Sup} (h : isL l = true) : (0 : Int) ∈ stas l ∧ ((l.length : Int) - 1) ∈ stas l := by
  have hl := isL_yes h
  have h2 := hl.two
  rw [stas_yes h]
  unfold stasK
  constructor
  · refine List.mem_map.2 ⟨0, List.mem_filter.2 ⟨List.mem_range.2 (by omega), hl.s0⟩, rfl⟩
  · refine List.mem_map.2 ⟨l.length - 1, List.mem_filter.2 ⟨List.mem_range.2 (by omega), hl.sl⟩, by omega⟩
theorem gcd_mul {h s : Int} (h0 : 0 ≤ h) (hs : 0 < s) : gcdI (h * s) s = s := by
  unfold gcdI
  have e : (h * s).toNat = h.toNat * s.toNat := by
    rw [Int.toNat_mul h0 (by omega)]
  rw [e, Nat.gcd_mul_left_left]
  omega
theorem chord_at {l : List Sup} (hl : IsL l) {k : Nat} (hk : k < l.length) : chN l (nth l k).a = (nth l k).h ∧ chD l (nth l k).a = 1 ∧ onL l (nth l k).a = true := by
  have h2 := hl.two
  have hmn : (nth l k).a ≤ (nth l (l.length - 1)).a := by
    have := hl.mono (l.length - 1 - k) k (by omega)
    rw [show k + (l.length - 1 - k) = l.length - 1 by omega] at this
    exact this
  have ho : onL l (nth l k).a = true := (onL_iff l _).2 ⟨hl, (hl.bd hk).1, hmn⟩
  obtain ⟨i, hi, hraw⟩ : ∃ i, i + 1 < l.length ∧ spanN l (nth l k).a = i ∧ chRaw l i (nth l k).a = (nth l k).h * slen l i := by
    by_cases h0 : k = 0
    · subst h0
      refine ⟨0, by omega, spanN_eq (by omega) ?_ (fun j hj => by omega), ?_⟩
      · have := hl.asc (i := 0) (by omega); omega
      · unfold chRaw slen
        rw [hl.a0]; simp
    · refine ⟨k - 1, by omega, spanN_eq (by omega) ?_ (fun j hj => ?_), ?_⟩
      · rw [show k - 1 + 1 = k by omega]; exact Int.le_refl _
      · have h3 := hl.mono (k - 1 - (j + 1)) (j + 1) (by omega)
        rw [show j + 1 + (k - 1 - (j + 1)) = k - 1 by omega] at h3
        have h4 := hl.asc (i := k - 1) (by omega)
        rw [show k - 1 + 1 = k by omega] at h4
        omega
      · unfold chRaw slen
        rw [show k - 1 + 1 = k by omega]; simp
  have hs := slen_bd hl hi
  have hh := (hl.bd hk).2.2.1
  obtain ⟨e1, e2⟩ := hraw
  have g := gcd_mul hh hs.1
  refine ⟨?_, ?_, ho⟩
  · unfold chN
    rw [if_pos ho, e1, e2, g]
    exact Int.mul_ediv_cancel _ (by omega)
  · unfold chD
    rw [if_pos ho, e1, e2, g]
    exact Int.ediv_self (by omega)
end Go.Proofs.Ytdnmmafnjhgeiab
