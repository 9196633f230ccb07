/- The text of a support, and of a line. Condition: the table of the library's is as laid. -/
import Derived.Test.YtmmjbdffpgohdaaDoorFmtW
import Derived.Test.YtmmjbdffpgohdaaDoorLineMath
import Derived.Deep.RegionWith
import Derived.Deep.RegionHeld3
namespace Go.Proofs.YtmmjbdffpgohdaaDoor
open Go.RowKit
set_option linter.unusedVariables false
def supK (x : Sup) : ByteArray := if x.s then ⟨#[83]⟩ else ⟨#[84]⟩
/-- The text of a support. -/
def supT (x : Sup) : ByteArray := supK x ++ num x.a ++ (⟨#[58]⟩ : ByteArray) ++ num x.h
theorem itoa_c (n : Int) (w : World) (h0 : -9223372036854775808 ≤ n) (h1 : n ≤ 9223372036854775807) (ht : TabP w) :
    Calls Tryd.prog 34 #[.int .i64 n] w fun e w' => e = .returned (.string (num n)) ∧ Below w.heap.size w w' :=
  (Tryd.strconv_Itoa n h0 h1 w ht).mono fun _ _ ⟨he, k, os, hw⟩ => ⟨he, by rw [hw]; exact below_grow _ _ _⟩
theorem num_place {n : Int} (h0 : 0 ≤ n) (h1 : n ≤ 3000) : 1 ≤ (num n).size ∧ (num n).size ≤ 4 := by
  have := num_len 3 n h0 (by omega)
  omega
theorem bcell {W w1 : World} (hb : Below W.heap.size W w1) : (∀ b o, b < W.heap.size → w1.cell? ⟨b, o, none⟩ = W.cell? ⟨b, o, none⟩) :=
  fun b o h => hb.cell (p := ⟨b, o, none⟩) h
set_option maxRecDepth 100000 in
set_option maxHeartbeats 2000000 in
theorem supportText_c (x : Sup) (w : World) (hx : 0 ≤ x.a ∧ x.a ≤ 3000 ∧ 0 ≤ x.h ∧ x.h ≤ 2000) (ht : TabP w) :
    Calls Tryd.prog 23 #[.agg #[.int .i64 x.a, .int .i64 x.h, .bool x.s]] w fun e w' => e = .returned (.string (supT x)) ∧ Below w.heap.size w w' := by
  obtain ⟨X, Y, S⟩ := x
  obtain ⟨a1, a2, a3, a4⟩ := hx
  simp only at a1 a2 a3 a4
  have s1 := num_place a1 a2
  have s2 := num_place a3 (by omega)
  have HTB : Hid (∀ W, Below w.heap.size w W → TabP W) := Lib.hid (fun W hW => ht.below hW)
  clear ht
  have HX : Hid (supT ⟨X, Y, S⟩ = (if S then (⟨#[83]⟩ : ByteArray) else ⟨#[84]⟩) ++ num X ++ (⟨#[58]⟩ : ByteArray) ++ num Y) := Lib.hid rfl
  cases S with
  | false =>
    go_enter Tryd.func23, Tryd.ntmps23
    go_wp2_with fail
    have hB0 := (Below.refl w.heap.size w).alloc (Nat.le_refl _) (.cells #[.int .i64 X, .int .i64 Y, .bool false] 33)
    have c0 : (w.alloc (.cells #[.int .i64 X, .int .i64 Y, .bool false] 33)).cell? ⟨w.heap.size, 0, none⟩ = some (.int .i64 X) := by rw [World.cell?_alloc_at _ _ _ _ rfl]; rfl
    have c1 : (w.alloc (.cells #[.int .i64 X, .int .i64 Y, .bool false] 33)).cell? ⟨w.heap.size, 1, none⟩ = some (.int .i64 Y) := by rw [World.cell?_alloc_at _ _ _ _ rfl]; rfl
    have hlt : w.heap.size < (w.alloc (.cells #[.int .i64 X, .int .i64 Y, .bool false] 33)).heap.size := by simp
    generalize w.alloc (.cells #[.int .i64 X, .int .i64 Y, .bool false] 33) = W0 at *
    have T0 := Lib.hid (HTB.out W0 hB0)
    go_region_with (first
      | (go_at_call_of 34 (Value.int IntKind.i64 X); (with_reducible refine (itoa_c X _ (by omega) (by omega) ?_).mono ?_); exact T0.out.below (Below.refl _ _).drew; rintro e w1 ⟨rfl, hb1⟩; have T1 := Lib.hid ((T0.out.below ((Below.refl W0.heap.size W0).drew)).below hb1); have k1 : w1.cell? ⟨w.heap.size, 1, none⟩ = some (.int .i64 Y) := (hb1.cell (p := ⟨w.heap.size, 1, none⟩) hlt).trans c1; have B1 := Lib.hid (hB0.drew.trans (hb1.mono hB0.size)))
      | (go_at_call_of 34 (Value.int IntKind.i64 Y); (with_reducible refine (itoa_c Y _ (by omega) (by omega) ?_).mono ?_); exact T1.out; rintro e w2 ⟨rfl, hb2⟩; have B2 := Lib.hid (B1.out.trans (hb2.mono B1.out.size))))
    all_goals go_wp2
    all_goals go_ret
    all_goals refine ⟨?_, B2.out⟩
    all_goals rw [HX.out]
    all_goals rfl
  | true =>
    go_enter Tryd.func23, Tryd.ntmps23
    go_wp2_with fail
    have hB0 := (Below.refl w.heap.size w).alloc (Nat.le_refl _) (.cells #[.int .i64 X, .int .i64 Y, .bool true] 33)
    have c0 : (w.alloc (.cells #[.int .i64 X, .int .i64 Y, .bool true] 33)).cell? ⟨w.heap.size, 0, none⟩ = some (.int .i64 X) := by rw [World.cell?_alloc_at _ _ _ _ rfl]; rfl
    have c1 : (w.alloc (.cells #[.int .i64 X, .int .i64 Y, .bool true] 33)).cell? ⟨w.heap.size, 1, none⟩ = some (.int .i64 Y) := by rw [World.cell?_alloc_at _ _ _ _ rfl]; rfl
    have hlt : w.heap.size < (w.alloc (.cells #[.int .i64 X, .int .i64 Y, .bool true] 33)).heap.size := by simp
    generalize w.alloc (.cells #[.int .i64 X, .int .i64 Y, .bool true] 33) = W0 at *
    have T0 := Lib.hid (HTB.out W0 hB0)
    go_region_with (first
      | (go_at_call_of 34 (Value.int IntKind.i64 X); (with_reducible refine (itoa_c X _ (by omega) (by omega) ?_).mono ?_); exact T0.out.below (Below.refl _ _).drew; rintro e w1 ⟨rfl, hb1⟩; have T1 := Lib.hid ((T0.out.below ((Below.refl W0.heap.size W0).drew)).below hb1); have k1 : w1.cell? ⟨w.heap.size, 1, none⟩ = some (.int .i64 Y) := (hb1.cell (p := ⟨w.heap.size, 1, none⟩) hlt).trans c1; have B1 := Lib.hid (hB0.drew.trans (hb1.mono hB0.size)))
      | (go_at_call_of 34 (Value.int IntKind.i64 Y); (with_reducible refine (itoa_c Y _ (by omega) (by omega) ?_).mono ?_); exact T1.out; rintro e w2 ⟨rfl, hb2⟩; have B2 := Lib.hid (B1.out.trans (hb2.mono B1.out.size))))
    all_goals go_wp2
    all_goals go_ret
    all_goals refine ⟨?_, B2.out⟩
    all_goals rw [HX.out]
    all_goals rfl
end Go.Proofs.YtmmjbdffpgohdaaDoor
