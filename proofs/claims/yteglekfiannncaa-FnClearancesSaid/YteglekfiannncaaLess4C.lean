/- Fractions compared by Euclid's steps. Condition: sizes. -/
import Derived.Test.YteglekfiannncaaLessC
namespace Go.Proofs.Yteglekfiannncaa
open Go.RowKit
set_option linter.unusedVariables false
/-- Equal whole parts taken away, the order stays. -/
theorem frLt_sub {a b c d : Int} (h : a / b = c / d) : frLt a b c d ↔ frLt (a % b) b (c % d) d := by
  have h1 := Int.mul_ediv_add_emod a b
  have h2 := Int.mul_ediv_add_emod c d
  unfold frLt
  rw [← h] at h2
  generalize a / b = q at *
  generalize a % b = x at *
  generalize c % d = y at *
  subst h1 h2
  have e1 : (b * q + x) * d = b * q * d + x * d := by grind
  have e2 : (d * q + y) * b = b * q * d + y * b := by grind
  rw [e1, e2]; omega
theorem frLt_swap {a b c d : Int} : frLt a b c d ↔ frLt d c b a := by
  unfold frLt
  rw [Int.mul_comm a d, Int.mul_comm c b]
theorem frLt_floor {a b c d : Int} (hb : 0 < b) (hd : 0 < d) (h : a / b ≠ c / d) : frLt a b c d ↔ a / b < c / d := by
  have h1 := Int.mul_ediv_add_emod a b
  have h2 := Int.mul_ediv_add_emod c d
  have x0 := Int.emod_nonneg a (by omega : b ≠ 0)
  have x1 := Int.emod_lt_of_pos a hb
  have y0 := Int.emod_nonneg c (by omega : d ≠ 0)
  have y1 := Int.emod_lt_of_pos c hd
  unfold frLt
  generalize a / b = q at *
  generalize c / d = r at *
  generalize a % b = x at *
  generalize c % d = y at *
  subst h1 h2
  have e1 : (b * q + x) * d = b * d * q + x * d := by grind
  have e2 : (d * r + y) * b = b * d * r + y * b := by grind
  have m1 : 0 ≤ x * d := Int.mul_nonneg x0 (by omega)
  have m2 : x * d < b * d := Int.mul_lt_mul_of_pos_right x1 hd
  have m3 : 0 ≤ y * b := Int.mul_nonneg y0 (by omega)
  have m4 : y * b < b * d := by rw [Int.mul_comm b d]; exact Int.mul_lt_mul_of_pos_right y1 hb
  have hbd := Int.mul_pos hb hd
  rw [e1, e2]
  generalize b * d = M at *
  rcases Int.lt_or_gt_of_ne h with hlt | hgt
  · have : M * (q + 1) ≤ M * r := Int.mul_le_mul_of_nonneg_left (by omega) (by omega)
    rw [Int.mul_add, Int.mul_one] at this
    constructor
    · intro _; exact hlt
    · intro _; omega
  · have : M * (r + 1) ≤ M * q := Int.mul_le_mul_of_nonneg_left (by omega) (by omega)
    rw [Int.mul_add, Int.mul_one] at this
    constructor
    · intro _; omega
    · intro _; omega
set_option maxRecDepth 100000 in
set_option maxHeartbeats 4000000 in
theorem l4Less_n : ∀ (n : Nat) (a b c d : Int) (w : World), b + d ≤ n → -1152921504606846976 ≤ a ∧ a ≤ 1152921504606846976 → 0 < b ∧ b ≤ 1152921504606846976 → -1152921504606846976 ≤ c ∧ c ≤ 1152921504606846976 → 0 < d ∧ d ≤ 1152921504606846976 →
    Calls Try.prog 80 #[.int .i64 a, .int .i64 b, .int .i64 c, .int .i64 d] w fun e w' => e = .returned (.bool (decide (frLt a b c d))) ∧ w' = w := by
  intro n
  induction n with
  | zero => intro a b c d w h _ hb _ hd; omega
  | succ n ih =>
    intro a b c d w hle ha hb hc hd
    have F1 := Lib.hid (fun W => l4Floor_c a b W ha hb)
    have F2 := Lib.hid (fun W => l4Floor_c c d W hc hd)
    have h1 := Int.mul_ediv_add_emod a b
    have h2 := Int.mul_ediv_add_emod c d
    have x0 := Int.emod_nonneg a (by omega : b ≠ 0)
    have x1 := Int.emod_lt_of_pos a hb.1
    have y0 := Int.emod_nonneg c (by omega : d ≠ 0)
    have y1 := Int.emod_lt_of_pos c hd.1
    by_cases hq : a / b = c / d
    · have hS : Hid (decide (frLt a b c d) = decide (frLt d (c % d) b (a % b))) := Lib.hid (by
        congr 1; rw [frLt_sub hq, frLt_swap])
      have hS2 : frLt a b c d ↔ frLt (a % b) b (c % d) d := frLt_sub hq
      rw [← hq] at F2 h2
      have e1 : (a / b == a / b) = true := by simp
      have e1n : (a / b != a / b) = false := by simp
      have t1 : a / b * b = a - a % b := by rw [Int.mul_comm]; omega
      have t2 : a / b * d = c - c % d := by rw [Int.mul_comm]; omega
      have s1 : IntKind.i64.wrap (a / b * b) = a / b * b := IntWalk.i64_in _ (by omega)
      have s2 : IntKind.i64.wrap (a - a / b * b) = a % b := by rw [t1, show a - (a - a % b) = a % b by omega]; exact IntWalk.i64_in _ (by omega)
      have s3 : IntKind.i64.wrap (a / b * d) = a / b * d := IntWalk.i64_in _ (by omega)
      have s4 : IntKind.i64.wrap (c - a / b * d) = c % d := by rw [t2, show c - (c - c % d) = c % d by omega]; exact IntWalk.i64_in _ (by omega)
      clear t1 t2 h1 h2 hq
      generalize a / b = q at *
      generalize a % b = x at *
      generalize c % d = y at *
      by_cases hx : x = 0
      · have hr : Hid (decide (frLt a b c d) = decide (0 < y)) := Lib.hid (by
          congr 1; rw [hS2]; subst hx; unfold frLt
          rw [Int.zero_mul]
          exact propext ⟨fun h => by
            rcases Int.lt_or_le 0 y with h' | h'
            · exact h'
            · have : y = 0 := by omega
              subst this; simp at h, fun h => Int.mul_pos h hb.1⟩)
        subst hx
        by_cases hy : 0 < y
        · have e3 : decide (0 < y) = true := by simpa using hy
          clear hS hS2 ih
          go_enter Try.func80, Try.ntmps80
          go_wp2_with fail
          refine (F1.out _).mono ?_
          rintro e w' ⟨rfl, rfl⟩
          go_wp2_with fail
          refine (F2.out _).mono ?_
          rintro e w' ⟨rfl, rfl⟩
          go_wp2
          go_ret
          exact ⟨by rw [hr.out, e3]; rfl, rfl⟩
        · have e3 : decide (0 < y) = false := by simpa using hy
          clear hS hS2 ih
          go_enter Try.func80, Try.ntmps80
          go_wp2_with fail
          refine (F1.out _).mono ?_
          rintro e w' ⟨rfl, rfl⟩
          go_wp2_with fail
          refine (F2.out _).mono ?_
          rintro e w' ⟨rfl, rfl⟩
          go_wp2
          go_ret
          exact ⟨by rw [hr.out, e3]; rfl, rfl⟩
      · have ex : (x == 0) = false := by simpa using hx
        by_cases hy : y = 0
        · have hr : Hid (decide (frLt a b c d) = false) := Lib.hid (by
            rw [decide_eq_false_iff_not, hS2]; subst hy; unfold frLt
            rw [Int.zero_mul]
            have := Int.mul_pos (by omega : 0 < x) hd.1
            omega)
          subst hy
          clear hS hS2 ih
          go_enter Try.func80, Try.ntmps80
          go_wp2_with fail
          refine (F1.out _).mono ?_
          rintro e w' ⟨rfl, rfl⟩
          go_wp2_with fail
          refine (F2.out _).mono ?_
          rintro e w' ⟨rfl, rfl⟩
          go_wp2
          go_ret
          exact ⟨by rw [hr.out]; rfl, rfl⟩
        · have ey : (y == 0) = false := by simpa using hy
          have HI : Hid (∀ W, Calls Try.prog 80 #[.int .i64 d, .int .i64 y, .int .i64 b, .int .i64 x] W fun e w' => e = .returned (.bool (decide (frLt a b c d))) ∧ w' = W) := Lib.hid (fun W => by
            rw [hS.out]
            exact ih d y b x W (by omega) (by omega) (by omega) (by omega) (by omega))
          clear hS hS2 ih
          go_enter Try.func80, Try.ntmps80
          go_wp2_with fail
          refine (F1.out _).mono ?_
          rintro e w' ⟨rfl, rfl⟩
          go_wp2_with fail
          refine (F2.out _).mono ?_
          rintro e w' ⟨rfl, rfl⟩
          go_wp2_with fail
          refine (HI.out _).mono ?_
          rintro e w' ⟨rfl, rfl⟩
          go_wp2
          go_ret
          exact ⟨rfl, rfl⟩
    · have e1 : (a / b == c / d) = false := by simpa using hq
      have e1n : (a / b != c / d) = true := by simpa using hq
      have hr : Hid (decide (frLt a b c d) = decide (a / b < c / d)) := Lib.hid (by congr 1; rw [frLt_floor hb.1 hd.1 hq])
      clear ih h1 h2 x0 x1 y0 y1
      generalize a / b = q at *
      generalize c / d = r at *
      go_enter Try.func80, Try.ntmps80
      go_wp2_with fail
      refine (F1.out _).mono ?_
      rintro e w' ⟨rfl, rfl⟩
      go_wp2_with fail
      refine (F2.out _).mono ?_
      rintro e w' ⟨rfl, rfl⟩
      go_wp2
      go_ret
      exact ⟨by rw [hr.out]; rfl, rfl⟩
theorem l4Less_c (a b c d : Int) (w : World) (ha : -1152921504606846976 ≤ a ∧ a ≤ 1152921504606846976) (hb : 0 < b ∧ b ≤ 1152921504606846976) (hc : -1152921504606846976 ≤ c ∧ c ≤ 1152921504606846976) (hd : 0 < d ∧ d ≤ 1152921504606846976) :
    Calls Try.prog 80 #[.int .i64 a, .int .i64 b, .int .i64 c, .int .i64 d] w fun e w' => e = .returned (.bool (decide (frLt a b c d))) ∧ w' = w :=
  l4Less_n (b + d).toNat a b c d w (by omega) ha hb hc hd
end Go.Proofs.Yteglekfiannncaa
