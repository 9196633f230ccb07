/- Which set of brakes stands before another one, as the program reckons it. No condition. -/
import Derived.Test.YthmoogkllpcebaaDoorBrkN
namespace Go.Proofs.YthmoogkllpcebaaDoor
open Go.RowKit
set_option linter.unusedVariables false
theorem sixteen {x : Nat} (h : x < 16) : x = 0 ∨ x = 1 ∨ x = 2 ∨ x = 3 ∨ x = 4 ∨ x = 5 ∨ x = 6 ∨ x = 7 ∨ x = 8 ∨ x = 9 ∨ x = 10 ∨ x = 11 ∨ x = 12 ∨ x = 13 ∨ x = 14 ∨ x = 15 := by omega
/-- How many members. -/
def onesT (x : Nat) : Nat := (mem10 x).length
/-- The bits turned round, the four lowest alone: the lowest one counts most. -/
def revT (x : Nat) : Nat := (if x.testBit 0 then 9223372036854775808 else 0) + (if x.testBit 1 then 4611686018427387904 else 0) + (if x.testBit 2 then 2305843009213693952 else 0) + (if x.testBit 3 then 1152921504606846976 else 0)
set_option maxRecDepth 100000 in
set_option maxHeartbeats 2000000 in
theorem ones64_c (x : Nat) (w : World) (hx : x < 16) :
    Calls Tryd.prog 94 #[.int .u64 x] w fun e w' => e = .returned (.int .i64 ((onesT x : Nat) : Int)) ∧ w' = w := by
  have HX := Lib.hid hx
  clear hx
  go_enter Tryd.func94, Tryd.ntmps94
  go_wp2
  go_ret
  refine ⟨?_, rfl⟩
  have h := sixteen HX.out
  clear HX
  show (_ : Ending) = _
  rcases h with rfl | rfl | rfl | rfl | rfl | rfl | rfl | rfl | rfl | rfl | rfl | rfl | rfl | rfl | rfl | rfl <;> kernel_rfl
set_option maxHeartbeats 1000000 in
theorem ones_c (x : Nat) (w : World) (hx : x < 16) :
    Calls Tryd.prog 79 #[.int .u64 x] w fun e w' => e = .returned (.int .i64 ((onesT x : Nat) : Int)) ∧ w' = w := by
  have c64 := Lib.hid (ones64_c x w hx)
  have hw : IntKind.u64.wrap (x : Int) = (x : Int) := by rw [IntKind.wrap_u64]; omega
  go_enter Tryd.func79, Tryd.ntmps79
  go_wp2_with fail
  refine c64.out.mono ?_
  rintro e w1 ⟨rfl, rfl⟩
  go_wp2
  go_ret
  exact ⟨rfl, rfl⟩
theorem revT_lt : ∀ x : Nat, x < 16 → revT x < 18446744073709551616 := by decide +kernel
def midT (x : Nat) : Nat := revT x / 2 ^ 56
theorem at_val {f : FuncId} {E E' : Int} {w : World} {Q : Ending → World → Prop} (h : E = E') (hc : Calls Tryd.prog f #[.int .u64 E'] w Q) : Calls Tryd.prog f #[.int .u64 E] w Q := by rw [h]; exact hc
set_option maxRecDepth 100000 in
set_option maxHeartbeats 4000000 in
theorem revB_c (x : Nat) (w : World) (hx : x < 16) :
    Calls Tryd.prog 101 #[.int .u64 ((midT x : Nat) : Int)] w fun e w' => e = .returned (.int .u64 ((revT x : Nat) : Int)) ∧ w' = w := by
  have HX := Lib.hid hx
  clear hx
  obtain ⟨M, hM⟩ : ∃ M : Int, M = ((midT x : Nat) : Int) := ⟨_, rfl⟩
  rw [← hM]
  have HM := Lib.hid hM
  clear hM
  go_enter Tryd.func101, Tryd.ntmps101
  go_wp2
  go_ret
  refine ⟨?_, rfl⟩
  have h := sixteen HX.out
  rw [HM.out]
  clear HX HM
  show (_ : Ending) = _
  rcases h with rfl | rfl | rfl | rfl | rfl | rfl | rfl | rfl | rfl | rfl | rfl | rfl | rfl | rfl | rfl | rfl <;> kernel_rfl
set_option maxRecDepth 100000 in
set_option maxHeartbeats 4000000 in
theorem rev64_c (x : Nat) (w : World) (hx : x < 16) :
    Calls Tryd.prog 97 #[.int .u64 x] w fun e w' => e = .returned (.int .u64 ((revT x : Nat) : Int)) ∧ w' = w := by
  have HX := Lib.hid hx
  have HR := Lib.hid (revB_c x w hx)
  clear hx
  go_enter Tryd.func97, Tryd.ntmps97
  go_wp2_with fail
  refine at_val (E' := ((midT x : Nat) : Int)) ?_ (HR.out.mono ?_)
  · have h := sixteen HX.out
    show (_ : Int) = _
    clear HX HR
    rcases h with rfl | rfl | rfl | rfl | rfl | rfl | rfl | rfl | rfl | rfl | rfl | rfl | rfl | rfl | rfl | rfl <;> kernel_rfl
  rintro e w1 ⟨rfl, rfl⟩
  go_wp2
  go_ret
  exact ⟨rfl, rfl⟩
set_option maxHeartbeats 1000000 in
theorem rev_c (x : Nat) (w : World) (hx : x < 16) :
    Calls Tryd.prog 81 #[.int .u64 x] w fun e w' => e = .returned (.int .u64 ((revT x : Nat) : Int)) ∧ w' = w := by
  have c64 := Lib.hid (rev64_c x w hx)
  have hw : IntKind.u64.wrap (x : Int) = (x : Int) := by rw [IntKind.wrap_u64]; omega
  have hb := revT_lt x hx
  have hw2 : IntKind.u64.wrap ((revT x : Nat) : Int) = ((revT x : Nat) : Int) := by rw [IntKind.wrap_u64]; omega
  clear hb
  generalize ((revT x : Nat) : Int) = R at *
  go_enter Tryd.func81, Tryd.ntmps81
  go_wp2_with fail
  refine c64.out.mono ?_
  rintro e w1 ⟨rfl, rfl⟩
  go_wp2
  go_ret
  exact ⟨rfl, rfl⟩
def cmp10 (x y : Int) : Int := if x < y then -1 else if y < x then 1 else 0
theorem nan_int (x : Int) (w : World) :
    Calls Tryd.prog 92 #[.int .i64 x] w fun e w' => e = .returned (.bool false) ∧ w' = w := by
  go_enter Tryd.func92, Tryd.ntmps92
  go_wp2
  go_ret
  exact ⟨by simp, rfl⟩
theorem compare_int (x y : Int) (w : World) :
    Calls Tryd.prog 78 #[.int .i64 x, .int .i64 y] w fun e w' => e = .returned (.int .i64 (cmp10 x y)) ∧ w' = w := by
  obtain ⟨z, hz⟩ : ∃ z, z = cmp10 x y := ⟨_, rfl⟩
  rw [← hz]
  have HZ := Lib.hid hz
  clear hz
  by_cases h1 : x < y
  · go_enter Tryd.func78, Tryd.ntmps78
    go_wp2_with fail
    refine (nan_int x _).mono ?_
    rintro e w1 ⟨rfl, rfl⟩
    go_wp2_with fail
    refine (nan_int y _).mono ?_
    rintro e w1 ⟨rfl, rfl⟩
    go_wp2
    go_ret
    exact ⟨ret_ix10 (by rw [HZ.out, cmp10, if_pos (by omega)]), rfl⟩
  · by_cases h2 : y < x
    · go_enter Tryd.func78, Tryd.ntmps78
      go_wp2_with fail
      refine (nan_int x _).mono ?_
      rintro e w1 ⟨rfl, rfl⟩
      go_wp2_with fail
      refine (nan_int y _).mono ?_
      rintro e w1 ⟨rfl, rfl⟩
      go_wp2
      go_ret
      exact ⟨ret_ix10 (by rw [HZ.out, cmp10, if_neg (by omega), if_pos (by omega)]), rfl⟩
    · go_enter Tryd.func78, Tryd.ntmps78
      go_wp2_with fail
      refine (nan_int x _).mono ?_
      rintro e w1 ⟨rfl, rfl⟩
      go_wp2_with fail
      refine (nan_int y _).mono ?_
      rintro e w1 ⟨rfl, rfl⟩
      go_wp2
      go_ret
      exact ⟨ret_ix10 (by rw [HZ.out, cmp10, if_neg (by omega), if_neg (by omega)]), rfl⟩
theorem nan_uint (x : Int) (w : World) :
    Calls Tryd.prog 95 #[.int .u64 x] w fun e w' => e = .returned (.bool false) ∧ w' = w := by
  go_enter Tryd.func95, Tryd.ntmps95
  go_wp2
  go_ret
  exact ⟨by simp, rfl⟩
theorem compare_uint (x y : Int) (w : World) :
    Calls Tryd.prog 80 #[.int .u64 x, .int .u64 y] w fun e w' => e = .returned (.int .i64 (cmp10 x y)) ∧ w' = w := by
  obtain ⟨z, hz⟩ : ∃ z, z = cmp10 x y := ⟨_, rfl⟩
  rw [← hz]
  have HZ := Lib.hid hz
  clear hz
  by_cases h1 : x < y
  · go_enter Tryd.func80, Tryd.ntmps80
    go_wp2_with fail
    refine (nan_uint x _).mono ?_
    rintro e w1 ⟨rfl, rfl⟩
    go_wp2_with fail
    refine (nan_uint y _).mono ?_
    rintro e w1 ⟨rfl, rfl⟩
    go_wp2
    go_ret
    exact ⟨ret_ix10 (by rw [HZ.out, cmp10, if_pos (by omega)]), rfl⟩
  · by_cases h2 : y < x
    · go_enter Tryd.func80, Tryd.ntmps80
      go_wp2_with fail
      refine (nan_uint x _).mono ?_
      rintro e w1 ⟨rfl, rfl⟩
      go_wp2_with fail
      refine (nan_uint y _).mono ?_
      rintro e w1 ⟨rfl, rfl⟩
      go_wp2
      go_ret
      exact ⟨ret_ix10 (by rw [HZ.out, cmp10, if_neg (by omega), if_pos (by omega)]), rfl⟩
    · go_enter Tryd.func80, Tryd.ntmps80
      go_wp2_with fail
      refine (nan_uint x _).mono ?_
      rintro e w1 ⟨rfl, rfl⟩
      go_wp2_with fail
      refine (nan_uint y _).mono ?_
      rintro e w1 ⟨rfl, rfl⟩
      go_wp2
      go_ret
      exact ⟨ret_ix10 (by rw [HZ.out, cmp10, if_neg (by omega), if_neg (by omega)]), rfl⟩
set_option maxHeartbeats 1000000 in
theorem or10_c (x y : Int) (g cap : Nat) (w : World) (h0 : w.cell? ⟨g, 0, none⟩ = some (.int .i64 x)) (h1 : w.cell? ⟨g, 1, none⟩ = some (.int .i64 y)) :
    Calls Tryd.prog 77 #[.slice (some ⟨g, 0, none⟩) 2 cap] w fun e w' => e = .returned (.int .i64 (if x ≠ 0 then x else y)) ∧ w' = w := by
  obtain ⟨z, hz⟩ : ∃ z, z = (if x ≠ 0 then x else y) := ⟨_, rfl⟩
  rw [← hz]
  have HZ := Lib.hid hz
  clear hz
  by_cases hx : x = 0
  · subst hx
    by_cases hy : y = 0
    · subst hy
      go_enter Tryd.func77, Tryd.ntmps77
      go_wp2
      refine wp_loop_rounds 3 ?_
      rw [rounds_succ]
      go_wp2
      rw [rounds_succ]
      go_wp2
      rw [rounds_succ]
      go_wp2
      go_ret
      exact ⟨ret_ix10 (by rw [HZ.out]; simp), rfl⟩
    · have t2 : (y != 0) = true := by simpa using hy
      clear hy
      go_enter Tryd.func77, Tryd.ntmps77
      go_wp2
      refine wp_loop_rounds 3 ?_
      rw [rounds_succ]
      go_wp2
      rw [rounds_succ]
      go_wp2
      go_ret
      exact ⟨ret_ix10 (by rw [HZ.out]; simp), rfl⟩
  · have t2 : (x != 0) = true := by simpa using hx
    have HX := Lib.hid hx
    clear hx
    go_enter Tryd.func77, Tryd.ntmps77
    go_wp2
    refine wp_loop_rounds 3 ?_
    rw [rounds_succ]
    go_wp2
    go_ret
    exact ⟨ret_ix10 (by rw [HZ.out, if_pos HX.out]), rfl⟩
/-- a stands before b. -/
def bef10 (a b : Nat) : Bool := decide ((if cmp10 (onesT a) (onesT b) ≠ 0 then cmp10 (onesT a) (onesT b) else cmp10 (revT b) (revT a)) < 0)
set_option maxRecDepth 100000 in
set_option maxHeartbeats 4000000 in
theorem comesBefore_c (a b : Nat) (w : World) (ha : a < 16) (hb : b < 16) :
    Calls Tryd.prog 52 #[.int .u64 a, .int .u64 b] w fun e w' => e = .returned (.bool (bef10 a b)) ∧ Below w.heap.size w w' := by
  have E1 := Lib.hid (fun W => ones_c a W ha)
  have E2 := Lib.hid (fun W => ones_c b W hb)
  have E3 := Lib.hid (fun W => rev_c a W ha)
  have E4 := Lib.hid (fun W => rev_c b W hb)
  have hd : bef10 a b = decide ((if cmp10 (onesT a) (onesT b) ≠ 0 then cmp10 (onesT a) (onesT b) else cmp10 (revT b) (revT a)) < 0) := rfl
  obtain ⟨z, hz⟩ : ∃ z, z = bef10 a b := ⟨_, rfl⟩
  rw [← hz]
  rw [hd] at hz
  have E5 := Lib.hid (fun W => compare_int ((onesT a : Nat) : Int) ((onesT b : Nat) : Int) W)
  have E6 := Lib.hid (fun W => compare_uint ((revT b : Nat) : Int) ((revT a : Nat) : Int) W)
  generalize cmp10 (onesT a) (onesT b) = p at *
  generalize cmp10 (revT b) (revT a) = q at *
  generalize ((onesT a : Nat) : Int) = oa at *
  generalize ((onesT b : Nat) : Int) = ob at *
  generalize ((revT a : Nat) : Int) = ra at *
  generalize ((revT b : Nat) : Int) = rb at *
  have EO := Lib.hid (fun (g cap : Nat) (W : World) h0 h1 => or10_c p q g cap W h0 h1)
  have HZ := Lib.hid hz
  clear hz hd
  generalize hP : (if p ≠ 0 then p else q) = P at *
  clear hP
  have HB := Lib.hid ((Below.refl w.heap.size w).alloc (Nat.le_refl _) (.cells #[.int .i64 p, .int .i64 q] 3))
  go_enter Tryd.func52, Tryd.ntmps52
  go_wp2_with fail
  refine (E1.out _).mono ?_
  rintro e w1 ⟨rfl, rfl⟩
  go_wp2_with fail
  refine (E2.out _).mono ?_
  rintro e w2 ⟨rfl, rfl⟩
  go_wp2_with fail
  refine (E5.out _).mono ?_
  rintro e w3 ⟨rfl, rfl⟩
  go_wp2_with fail
  refine (E4.out _).mono ?_
  rintro e w4 ⟨rfl, rfl⟩
  go_wp2_with fail
  refine (E3.out _).mono ?_
  rintro e w5 ⟨rfl, rfl⟩
  go_wp2_with fail
  refine (E6.out _).mono ?_
  rintro e w6 ⟨rfl, rfl⟩
  go_wp2_with fail
  refine (EO.out _ _ _ (by rw [World.cell?_alloc_at _ _ _ _ rfl]; rfl) (by rw [World.cell?_alloc_at _ _ _ _ rfl]; rfl)).mono ?_
  rintro e w7 ⟨rfl, rfl⟩
  go_wp2
  go_ret
  exact ⟨ret_b HZ.out.symm, HB.out⟩
end Go.Proofs.YthmoogkllpcebaaDoor
