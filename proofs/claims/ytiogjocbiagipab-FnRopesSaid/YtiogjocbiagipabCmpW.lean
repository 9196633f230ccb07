/- The walks of impl.compareDamages and of what it calls; impl.isDamage. No condition. -/
import Derived.Test.YtiogjocbiagipabDmgMath
import Derived.Deep.DrawnRows
import Derived.Deep.RegionWith
namespace Go.Proofs.Ytiogjocbiagipab
open Go.RowKit
set_option linter.unusedVariables false
def cmpI (x y : Int) : Int := if x < y then -1 else if y < x then 1 else 0
def cmpD (x y : Dmg) : Int := if cmpI x.a y.a ≠ 0 then cmpI x.a y.a else cmpI x.s y.s
theorem cmpD_neg (x y : Dmg) : cmpD x y < 0 ↔ bef x y = true := by
  rw [bef_iff]; unfold cmpD cmpI
  repeat' split
  all_goals (first | omega | simp_all <;> omega)
theorem cmpD_zero (x y : Dmg) : cmpD x y = 0 ↔ x.a = y.a ∧ x.s = y.s := by
  unfold cmpD cmpI
  repeat' split
  all_goals (first | omega | simp_all <;> omega)
theorem isNaN_c (x : Int) (w : World) :
    Calls Try.prog 98 #[.int .i64 x] w fun e w' => e = .returned (.bool false) ∧ w' = w := by
  go_enter Try.func98, Try.ntmps98
  go_wp2
  go_ret
  exact ⟨by simp, rfl⟩
theorem ret_i {a b : Int} (h : a = b) : Ending.returned (.int .i64 a) = .returned (.int .i64 b) := by rw [h]
theorem Compare_c (x y : Int) (w : World) :
    Calls Try.prog 86 #[.int .i64 x, .int .i64 y] w fun e w' => e = .returned (.int .i64 (cmpI x y)) ∧ w' = w := by
  obtain ⟨z, hz⟩ : ∃ z, z = cmpI x y := ⟨_, rfl⟩
  rw [← hz]
  have HZ := Lib.hid hz
  clear hz
  by_cases h1 : x < y
  · go_enter Try.func86, Try.ntmps86
    go_wp2_with fail
    refine (isNaN_c x _).mono ?_
    rintro e w1 ⟨rfl, rfl⟩
    go_wp2_with fail
    refine (isNaN_c y _).mono ?_
    rintro e w1 ⟨rfl, rfl⟩
    go_wp2
    go_ret
    exact ⟨ret_i (by rw [HZ.out, cmpI, if_pos (by omega)]), rfl⟩
  · by_cases h2 : y < x
    · go_enter Try.func86, Try.ntmps86
      go_wp2_with fail
      refine (isNaN_c x _).mono ?_
      rintro e w1 ⟨rfl, rfl⟩
      go_wp2_with fail
      refine (isNaN_c y _).mono ?_
      rintro e w1 ⟨rfl, rfl⟩
      go_wp2
      go_ret
      exact ⟨ret_i (by rw [HZ.out, cmpI, if_neg (by omega), if_pos (by omega)]), rfl⟩
    · go_enter Try.func86, Try.ntmps86
      go_wp2_with fail
      refine (isNaN_c x _).mono ?_
      rintro e w1 ⟨rfl, rfl⟩
      go_wp2_with fail
      refine (isNaN_c y _).mono ?_
      rintro e w1 ⟨rfl, rfl⟩
      go_wp2
      go_ret
      exact ⟨ret_i (by rw [HZ.out, cmpI, if_neg (by omega), if_neg (by omega)]), rfl⟩
set_option maxHeartbeats 1000000 in
theorem Or_c (x y : Int) (g cap : Nat) (w : World) (h0 : w.cell? ⟨g, 0, none⟩ = some (.int .i64 x)) (h1 : w.cell? ⟨g, 1, none⟩ = some (.int .i64 y)) :
    Calls Try.prog 85 #[.slice (some ⟨g, 0, none⟩) 2 cap] w fun e w' => e = .returned (.int .i64 (if x ≠ 0 then x else y)) ∧ w' = w := by
  obtain ⟨z, hz⟩ : ∃ z, z = (if x ≠ 0 then x else y) := ⟨_, rfl⟩
  rw [← hz]
  have HZ := Lib.hid hz
  clear hz
  by_cases hx : x = 0
  · subst hx
    by_cases hy : y = 0
    · subst hy
      go_enter Try.func85, Try.ntmps85
      go_wp2
      refine wp_loop_rounds 3 ?_
      rw [rounds_succ]
      go_wp2
      rw [rounds_succ]
      go_wp2
      rw [rounds_succ]
      go_wp2
      go_ret
      exact ⟨ret_i (by rw [HZ.out]; simp), rfl⟩
    · have t2 : (y != 0) = true := by simpa using hy
      clear hy
      go_enter Try.func85, Try.ntmps85
      go_wp2
      refine wp_loop_rounds 3 ?_
      rw [rounds_succ]
      go_wp2
      rw [rounds_succ]
      go_wp2
      go_ret
      exact ⟨ret_i (by rw [HZ.out]; simp), rfl⟩
  · have t2 : (x != 0) = true := by simpa using hx
    have HX := Lib.hid hx
    clear hx
    go_enter Try.func85, Try.ntmps85
    go_wp2
    refine wp_loop_rounds 3 ?_
    rw [rounds_succ]
    go_wp2
    go_ret
    exact ⟨ret_i (by rw [HZ.out, if_pos HX.out]), rfl⟩
set_option maxRecDepth 100000 in
set_option maxHeartbeats 4000000 in
theorem compareDamages_c (x y : Dmg) (w : World) :
    Calls Try.prog 92 #[.agg #[.int .i64 x.a, .int .i64 x.s, .int .i64 x.w], .agg #[.int .i64 y.a, .int .i64 y.s, .int .i64 y.w]] w fun e w' => e = .returned (.int .i64 (cmpD x y)) ∧ Below w.heap.size w w' := by
  have hd : cmpD x y = if cmpI x.a y.a ≠ 0 then cmpI x.a y.a else cmpI x.s y.s := rfl
  have e1 := Lib.hid (fun W => Compare_c x.a y.a W)
  have e2 := Lib.hid (fun W => Compare_c x.s y.s W)
  obtain ⟨z, hz⟩ : ∃ z, z = cmpD x y := ⟨_, rfl⟩
  rw [← hz]
  rw [hd] at hz
  generalize cmpI x.a y.a = p at *
  generalize cmpI x.s y.s = q at *
  have EO : Hid (∀ (g cap : Nat) (W : World), W.cell? ⟨g, 0, none⟩ = some (.int .i64 p) → W.cell? ⟨g, 1, none⟩ = some (.int .i64 q) → Calls Try.prog 85 #[.slice (some ⟨g, 0, none⟩) 2 cap] W fun e w' => e = .returned (.int .i64 z) ∧ w' = W) := Lib.hid (fun g cap W h0 h1 => by rw [hz]; exact Or_c p q g cap W h0 h1)
  clear hd hz
  go_enter Try.func92, Try.ntmps92
  go_wp2_with fail
  go_region_held3 (fun w' => w'.cell? ⟨w.heap.size, 0, none⟩ = some (.int .i64 x.a) ∧ w'.cell? ⟨w.heap.size, 1, none⟩ = some (.int .i64 x.s) ∧ w'.cell? ⟨w.heap.size + 1, 0, none⟩ = some (.int .i64 y.a) ∧ w'.cell? ⟨w.heap.size + 1, 1, none⟩ = some (.int .i64 y.s))
    (go_keep)
    ((first
      | (go_at_call_of 86 (Value.int IntKind.i64 x.a); refine (e1.out _).mono ?_; rintro e w' ⟨rfl, rfl⟩)
      | (go_at_call_of 86 (Value.int IntKind.i64 x.s); refine (e2.out _).mono ?_; rintro e w' ⟨rfl, rfl⟩)
      | (go_at_call 85; refine (EO.out _ _ _ (by rw [World.cell?_drew, World.cell?_alloc_at _ _ _ _ (by simp)]; rfl) (by rw [World.cell?_drew, World.cell?_alloc_at _ _ _ _ (by simp)]; rfl)).mono ?_; rintro e w' ⟨rfl, rfl⟩)))
  all_goals go_wp2
  all_goals go_ret
  all_goals exact ⟨rfl, by first | exact ((((Below.refl _ _).alloc (Nat.le_refl _) _).alloc (by simp) _).alloc (by simp; omega) _).drew | exact (((Below.refl _ _).alloc (Nat.le_refl _) _).alloc (by simp) _).alloc (by simp; omega) _⟩
theorem box_d (w : World) (x : Dmg) (t : TypeId) (g : Nat) (hg : g = w.heap.size) :
    (w.alloc (.cells #[.int .i64 x.a, .int .i64 x.s, .int .i64 x.w] t)).cell? ⟨g, 0, none⟩ = some (.int .i64 x.a) ∧ (w.alloc (.cells #[.int .i64 x.a, .int .i64 x.s, .int .i64 x.w] t)).cell? ⟨g, 1, none⟩ = some (.int .i64 x.s) ∧ (w.alloc (.cells #[.int .i64 x.a, .int .i64 x.s, .int .i64 x.w] t)).cell? ⟨g, 2, none⟩ = some (.int .i64 x.w) := by
  refine ⟨?_, ?_, ?_⟩ <;> (rw [World.cell?_alloc_at _ _ _ _ hg]; rfl)
set_option maxRecDepth 100000 in
set_option maxHeartbeats 4000000 in
theorem isDamage_c (k : RK) (d : Dmg) (S : Int) (hS : IntKind.i64.wrap (k.s - 1) = S) (w : World) :
    Calls Try.prog 91 #[.agg #[.int .i64 k.i, .int .i64 k.s, .int .i64 k.w, .int .i64 k.g, .int .i64 k.p], .agg #[.int .i64 d.a, .int .i64 d.s, .int .i64 d.w]] w fun e w' => e = .returned (.bool (inR d.a 0 3000 && inR d.s 0 S && inR d.w 1 k.w)) ∧ Below w.heap.size w w' := by
  obtain ⟨b, hb⟩ : ∃ b, b = (inR d.a 0 3000 && inR d.s 0 S && inR d.w 1 k.w) := ⟨_, rfl⟩
  rw [← hb]
  have E1 := Lib.hid (fun W => within_c d.a 0 3000 W)
  have E2 := Lib.hid (fun W => within_c d.s 0 S W)
  have E3 := Lib.hid (fun W => within_c d.w 1 k.w W)
  have HB := Lib.hid hb
  clear hb
  generalize inR d.a 0 3000 = b1 at *
  generalize inR d.s 0 S = b2 at *
  generalize inR d.w 1 k.w = b3 at *
  go_enter Try.func91, Try.ntmps91
  go_wp2_with fail
  refine (E1.out _).mono ?_
  rintro e w1 ⟨rfl, rfl⟩
  cases b1 with
  | false =>
    go_wp2
    go_ret
    exact ⟨ret_b (by rw [HB.out]; rfl), ((Below.refl _ _).alloc (Nat.le_refl _) _).alloc (by simp) _⟩
  | true =>
    go_wp2_with fail
    clear hS
    refine (E2.out _).mono ?_
    rintro e w1 ⟨rfl, rfl⟩
    cases b2 with
    | false =>
      go_wp2
      go_ret
      exact ⟨ret_b (by rw [HB.out]; rfl), ((Below.refl _ _).alloc (Nat.le_refl _) _).alloc (by simp) _⟩
    | true =>
      go_wp2_with fail
      refine (E3.out _).mono ?_
      rintro e w1 ⟨rfl, rfl⟩
      go_wp2
      go_ret
      exact ⟨ret_b (by rw [HB.out]; rfl), ((Below.refl _ _).alloc (Nat.le_refl _) _).alloc (by simp) _⟩
end Go.Proofs.Ytiogjocbiagipab
