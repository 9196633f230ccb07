/- Fractions compared: the program by products of two words, the specification by Euclid's steps. Condition: sizes. -/
import Derived.Test.YteglekfiannncaaFracC
import Derived.Test.YteglekfiannncaaRatS
import Derived.Test.YteglekfiannncaaShelf
namespace Go.Proofs.Yteglekfiannncaa
open Go.RowKit
set_option linter.unusedVariables false
theorem u64_wrap_mod (n : Int) : IntKind.u64.wrap n = n % 18446744073709551616 := by simp [IntKind.wrap, IntKind.bits, IntKind.signed]
theorem absMul' {x y A B : Int} (h0 : -A ≤ x) (h1 : x ≤ A) (h2 : 0 ≤ y) (h3 : y ≤ B) : -(A * B) ≤ x * y ∧ x * y ≤ A * B := by
  have hA : 0 ≤ A := by omega
  have mb : ∀ {u : Int}, 0 ≤ u → u ≤ A → 0 ≤ u * y ∧ u * y ≤ A * B := fun {u} k0 k1 => ⟨Int.mul_nonneg k0 h2, Int.mul_le_mul k1 h3 h2 hA⟩
  have hAB := Int.mul_nonneg hA (Int.le_trans h2 h3)
  rcases Int.le_total 0 x with h | h
  · have := mb h h1; omega
  · have := mb (u := -x) (by omega) (by omega)
    rw [Int.neg_mul] at this
    omega
/-- A product's two words. -/
def wHi (n d : Int) : Int := n * d / 18446744073709551616
def wLo (n d : Int) : Int := n * d % 18446744073709551616
theorem wide_lt (P Q : Int) : (P / 18446744073709551616 < Q / 18446744073709551616 ∨ P / 18446744073709551616 = Q / 18446744073709551616 ∧ P % 18446744073709551616 < Q % 18446744073709551616) ↔ P < Q := by omega
set_option maxRecDepth 100000 in
set_option maxHeartbeats 1000000 in
theorem wideProduct_c (n d : Int) (w : World) (h0 : -1152921504606846976 ≤ n) (h1 : n ≤ 1152921504606846976) (h2 : 0 < d) (h3 : d ≤ 1152921504606846976) :
    Calls Try.prog 125 #[.int .i64 n, .int .i64 d] w fun e w' => e = .returned (.tuple #[.int .i64 (wHi n d), .int .u64 (wLo n d)]) ∧ w' = w := by
  have m := absMul' (x := n) (A := 1152921504606846976) (y := d) (B := 1152921504606846976) h0 h1 (by omega) h3
  have hY : IntKind.u64.wrap d = ((d.toNat : Nat) : Int) := by rw [u64_wrap_mod]; omega
  have hYi : ((d.toNat : Nat) : Int) = d := by omega
  by_cases hn : n < 0
  · have hX : IntKind.u64.wrap n = (((n + 18446744073709551616).toNat : Nat) : Int) := by rw [u64_wrap_mod]; omega
    have hXi : (((n + 18446744073709551616).toNat : Nat) : Int) = n + 18446744073709551616 := by omega
    have hpr : (n + 18446744073709551616) * d = n * d + d * 18446744073709551616 := by grind
    have HM := Lib.hid (fun W => Try.bits_Mul64 (n + 18446744073709551616).toNat d.toNat (by omega) (by omega) W)
    have e1 : ((((n + 18446744073709551616).toNat * d.toNat / 18446744073709551616 : Nat)) : Int) = wHi n d + d := by
      rw [Int.natCast_ediv, Int.natCast_mul, hXi, hYi, hpr]
      unfold wHi
      show (n * d + d * 18446744073709551616) / 18446744073709551616 = _
      omega
    have e2 : ((((n + 18446744073709551616).toNat * d.toNat % 18446744073709551616 : Nat)) : Int) = wLo n d := by
      rw [Int.natCast_emod, Int.natCast_mul, hXi, hYi, hpr]
      unfold wLo
      show (n * d + d * 18446744073709551616) % 18446744073709551616 = _
      omega
    rw [e1, e2] at HM
    have hH : -72057594037927937 ≤ wHi n d ∧ wHi n d ≤ 72057594037927936 := by unfold wHi; omega
    have s1 : IntKind.u64.wrap (wHi n d + d - ((d.toNat : Nat) : Int)) = wHi n d % 18446744073709551616 := by rw [u64_wrap_mod, hYi]; omega
    have s2 : IntKind.i64.wrap (wHi n d % 18446744073709551616) = wHi n d := by rw [IntKind.wrap_i64]; omega
    clear e1 e2 hpr hXi m
    generalize wHi n d = H at *
    generalize wLo n d = L at *
    generalize (n + 18446744073709551616).toNat = X at *
    generalize d.toNat = Y at *
    generalize hHm : H % 18446744073709551616 = Hm at *
    clear hHm hYi hH
    go_enter Try.func125, Try.ntmps125
    go_wp2_with fail
    refine (HM.out _).mono ?_
    rintro e w' ⟨rfl, rfl⟩
    go_wp2
    go_ret2
    exact ⟨rfl, rfl⟩
  · have hX : IntKind.u64.wrap n = ((n.toNat : Nat) : Int) := by rw [u64_wrap_mod]; omega
    have hXi : ((n.toNat : Nat) : Int) = n := by omega
    have HM := Lib.hid (fun W => Try.bits_Mul64 n.toNat d.toNat (by omega) (by omega) W)
    have e1 : (((n.toNat * d.toNat / 18446744073709551616 : Nat)) : Int) = wHi n d := by
      rw [Int.natCast_ediv, Int.natCast_mul, hXi, hYi]; rfl
    have e2 : (((n.toNat * d.toNat % 18446744073709551616 : Nat)) : Int) = wLo n d := by
      rw [Int.natCast_emod, Int.natCast_mul, hXi, hYi]; rfl
    rw [e1, e2] at HM
    have hH : -72057594037927937 ≤ wHi n d ∧ wHi n d ≤ 72057594037927936 := by unfold wHi; omega
    have s2 : IntKind.i64.wrap (wHi n d) = wHi n d := by rw [IntKind.wrap_i64]; omega
    clear e1 e2 hXi m
    generalize wHi n d = H at *
    generalize wLo n d = L at *
    generalize n.toNat = X at *
    generalize d.toNat = Y at *
    clear hYi hH
    go_enter Try.func125, Try.ntmps125
    go_wp2_with fail
    refine (HM.out _).mono ?_
    rintro e w' ⟨rfl, rfl⟩
    go_wp2
    go_ret2
    exact ⟨rfl, rfl⟩
set_option maxRecDepth 100000 in
set_option maxHeartbeats 1000000 in
theorem isLess_c (a b c d : Int) (w : World) (ha : -1152921504606846976 ≤ a ∧ a ≤ 1152921504606846976) (hb : 0 < b ∧ b ≤ 1152921504606846976) (hc : -1152921504606846976 ≤ c ∧ c ≤ 1152921504606846976) (hd : 0 < d ∧ d ≤ 1152921504606846976) :
    Calls Try.prog 76 #[.agg #[.int .i64 a, .int .i64 b], .agg #[.int .i64 c, .int .i64 d]] w fun e w' => e = .returned (.bool (decide (frLt a b c d))) ∧ Below w.heap.size w w' := by
  have H1 := Lib.hid (fun W => wideProduct_c a d W ha.1 ha.2 hd.1 hd.2)
  have H2 := Lib.hid (fun W => wideProduct_c c b W hc.1 hc.2 hb.1 hb.2)
  have hw : frLt a b c d ↔ (wHi a d < wHi c b ∨ wHi a d = wHi c b ∧ wLo a d < wLo c b) := by
    unfold frLt wHi wLo; exact (wide_lt _ _).symm
  clear ha hb hc hd
  generalize wHi a d = X at *
  generalize wHi c b = Y at *
  generalize wLo a d = U at *
  generalize wLo c b = V at *
  by_cases h1 : X < Y
  · have hr : Hid (decide (frLt a b c d) = true) := Lib.hid (by rw [decide_eq_true_iff, hw]; exact .inl h1)
    clear hw
    go_enter Try.func76, Try.ntmps76
    go_wp2_with fail
    refine (H1.out _).mono ?_
    rintro e w' ⟨rfl, rfl⟩
    go_wp2_with fail
    refine (H2.out _).mono ?_
    rintro e w' ⟨rfl, rfl⟩
    go_wp2
    go_ret
    exact ⟨by rw [hr.out]; rfl, ((Below.refl _ _).alloc (Nat.le_refl _) _).alloc (by simp) _⟩
  · by_cases h2 : X = Y
    · subst h2
      have hr : Hid (decide (frLt a b c d) = decide (U < V)) := Lib.hid (by congr 1; rw [hw]; simp)
      have e1 : (X == X) = true := by simp
      clear hw
      go_enter Try.func76, Try.ntmps76
      go_wp2_with fail
      refine (H1.out _).mono ?_
      rintro e w' ⟨rfl, rfl⟩
      go_wp2_with fail
      refine (H2.out _).mono ?_
      rintro e w' ⟨rfl, rfl⟩
      go_wp2
      go_ret
      exact ⟨by rw [hr.out]; rfl, ((Below.refl _ _).alloc (Nat.le_refl _) _).alloc (by simp) _⟩
    · have e1 : (X == Y) = false := by simpa using h2
      have e2 : decide (X < Y) = false := by simpa using h1
      have hr : Hid (decide (frLt a b c d) = false) := Lib.hid (by rw [decide_eq_false_iff_not, hw]; omega)
      clear hw
      go_enter Try.func76, Try.ntmps76
      go_wp2_with fail
      refine (H1.out _).mono ?_
      rintro e w' ⟨rfl, rfl⟩
      go_wp2_with fail
      refine (H2.out _).mono ?_
      rintro e w' ⟨rfl, rfl⟩
      go_wp2
      go_ret
      exact ⟨by rw [hr.out]; rfl, ((Below.refl _ _).alloc (Nat.le_refl _) _).alloc (by simp) _⟩
/-- The greatest whole number that isn't greater. -/
theorem floor_neg {a b : Int} (ha : a < 0) (hb : 0 < b) : -((-a + b - 1) / b) = a / b := by
  have h1 := Int.mul_ediv_add_emod a b
  have h2 := Int.emod_nonneg a (by omega : b ≠ 0)
  have h3 := Int.emod_lt_of_pos a hb
  have e : (-a + b - 1) / b = -(a / b) := by
    rw [Int.ediv_eq_iff_of_pos hb]
    have h4 : -(a / b) * b = -(b * (a / b)) := by rw [Int.neg_mul, Int.mul_comm]
    rw [h4]
    generalize b * (a / b) = q at *
    omega
  rw [e]; omega
set_option maxHeartbeats 1000000 in
theorem l4Floor_c (a b : Int) (w : World) (ha : -1152921504606846976 ≤ a ∧ a ≤ 1152921504606846976) (hb : 0 < b ∧ b ≤ 1152921504606846976) :
    Calls Try.prog 129 #[.int .i64 a, .int .i64 b] w fun e w' => e = .returned (.int .i64 (a / b)) ∧ w' = w := by
  have hbn : (b == 0) = false := by rw [beq_eq_false_iff_ne]; omega
  by_cases h0 : 0 ≤ a
  · have q1 : 0 ≤ a / b := Int.ediv_nonneg h0 (by omega)
    have q2 : a / b ≤ a := Int.ediv_le_self _ h0
    have t1 : Int.tdiv a b = a / b := Int.tdiv_eq_ediv_of_nonneg h0
    have s1 : IntKind.i64.wrap (a / b) = a / b := IntWalk.i64_in _ (by omega)
    generalize a / b = Q at *
    go_enter Try.func129, Try.ntmps129
    go_wp2
    go_ret
    exact ⟨rfl, rfl⟩
  · have q0 := floor_neg (a := a) (b := b) (by omega) hb.1
    have t1 : Int.tdiv (-a + b - 1) b = (-a + b - 1) / b := Int.tdiv_eq_ediv_of_nonneg (by omega)
    have q1 : 0 ≤ (-a + b - 1) / b := Int.ediv_nonneg (by omega) (by omega)
    have q2 : (-a + b - 1) / b ≤ -a + b - 1 := Int.ediv_le_self _ (by omega)
    have s1 : IntKind.i64.wrap (-a) = -a := IntWalk.i64_in _ (by omega)
    have s2 : IntKind.i64.wrap (-a + b) = -a + b := IntWalk.i64_in _ (by omega)
    have s3 : IntKind.i64.wrap (-a + b - 1) = -a + b - 1 := IntWalk.i64_in _ (by omega)
    have s4 : IntKind.i64.wrap ((-a + b - 1) / b) = (-a + b - 1) / b := IntWalk.i64_in _ (by omega)
    have s5 : IntKind.i64.wrap (-((-a + b - 1) / b)) = a / b := by rw [q0, ← q0]; exact IntWalk.i64_in _ (by omega)
    clear q0
    generalize (-a + b - 1) / b = Q at *
    generalize a / b = R at *
    go_enter Try.func129, Try.ntmps129
    go_wp2
    go_ret
    exact ⟨rfl, rfl⟩
end Go.Proofs.Yteglekfiannncaa
