/- The draws of the law FnRopes. Condition: sizes. -/
import Derived.Test.YtiogjocbiagipabDrawRopes
import Derived.Test.YtiogjocbiagipabDrawDamB
import Derived.Deep.RegionHeld3
namespace Go.Proofs.Ytiogjocbiagipab
open Go.RowKit
set_option linter.unusedVariables false
def DliPost (w : World) (e : Ending) (w' : World) : Prop := ∃ (v : Value) (l : List RK) (q : Int), e = .returned (.tuple #[v, .int .i64 q]) ∧ Rs w' v l.length (rks l) ∧ l.length ≤ 7 ∧ (0 ≤ q ∧ q ≤ 5001) ∧ Below w.heap.size w w'
set_option maxRecDepth 100000 in
set_option maxHeartbeats 1000000 in
theorem DrawLightestKind_any (a : Option Addr) (len cap : Nat) (w : World) (h : ByteRow w a len) :
    Calls Try.prog 19 #[.slice a len cap] w (DliPost w) := by
  have HC := Lib.hid (cur_new (cap := cap) h 70)
  have hB0 : Below w.heap.size w (w.alloc (.cells #[.slice a len cap, .int .i64 0, .int .u64 0] 70)) := (Below.refl _ _).alloc (Nat.le_refl _) _
  have hs0 : (w.alloc (.cells #[.slice a len cap, .int .i64 0, .int .u64 0] 70)).heap.size = w.heap.size + 1 := by simp
  have HCode := Lib.hid (h.below hB0)
  have HB0 := Lib.hid hB0
  clear h hB0
  go_enter Try.func19, Try.ntmps19
  go_upto_region 2 with fail
  generalize hw0 : w.alloc (.cells #[.slice a len cap, .int .i64 0, .int .u64 0] 70) = w0 at *
  clear hw0
  go_wp2_with fail
  refine (DrawAreRopeKinds_any a len cap w0 HCode.out).mono ?_
  rintro e w1 ⟨v, l, rfl, o1, hl, b1⟩
  have HO1 := Lib.hid o1
  have HB1 := Lib.hid (HB0.out.trans (b1.mono HB0.out.size))
  have HC1 := Lib.hid (HC.out.grown (grown_of_below (b := w0.heap.size) b1) (fun j hj => by cases hj; omega))
  have hs1 := b1.size
  clear o1 b1 HC
  go_wp2_with fail
  refine (pick_any w.heap.size w.heap.size 0 24 _ (HC1.out.alloc _) (by omega) (by omega) (by omega)).mono ?_
  rintro e w2 ⟨r, rfl, hr, hc, hg⟩
  have HC2 := Lib.hid hc
  have HG2 := Lib.hid hg
  have hbo : ∀ {j}, v.ownBlock = some j → j ≠ w.heap.size := fun {j} hj => by have := (HO1.out.lt j hj).1; omega
  have hne : v.ownBlock = none ∨ v.ownBlock ≠ some w.heap.size := by
    cases hu : v.ownBlock with
    | none => exact .inl rfl
    | some j => exact .inr (fun e => hbo hu (Option.some.inj e))
  have HO2 := Lib.hid ((HO1.out.alloc (.cells #[.int .i64 1, .int .i64 800, .int .i64 801, .int .i64 5000, .int .i64 0, .int .i64 5001] 3)).kept hg hne)
  have hB2 := (HB1.out.alloc HB1.out.size (.cells #[.int .i64 1, .int .i64 800, .int .i64 801, .int .i64 5000, .int .i64 0, .int .i64 5001] 3)).trans (grown_below hg (by simp; omega) (fun k hk => by cases hk; exact Nat.le_refl _))
  have HB2 := Lib.hid hB2
  have hs2 := hg.size
  simp at hs2
  clear hc hg hB2 HO1
  have h3 : r / 11 = 0 ∨ r / 11 = 1 ∨ r / 11 = 2 := by omega
  rcases h3 with h3 | h3 | h3
  · have t1 : Int.tdiv (r : Int) 11 = 0 := by rw [Int.tdiv_eq_ediv_of_nonneg (by omega)]; omega
    clear h3
    go_wp2_with fail
    refine (among_any w.heap.size w.heap.size (0 + 2) w1.heap.size 4 _ ([1, 800, 801, 5000, 0, 5001].take 4) w2 HC2.out (by omega) rfl (by omega) (by omega) (by omega) (num_part w1 3 [1, 800, 801, 5000, 0, 5001] 4 _ rfl w2 w.heap.size HG2.out (by omega))).mono ?_
    rintro e w3 ⟨q, hx, rfl, hc2, hg2⟩
    have hxb : 0 ≤ q ∧ q ≤ 5001 := by simp at hx; omega
    have HR3 := Lib.hid (Rs.of_own (HO2.out.kept hg2 hne))
    have HB3 := Lib.hid (HB2.out.trans (grown_below hg2 (by omega) (fun k hk => by cases hk; exact Nat.le_refl _)))
    clear hc2 hg2 hx
    go_wp2_with fail
    go_ret2
    exact ⟨v, l, q, rfl, HR3.out, hl, hxb, HB3.out⟩
  · have t1 : Int.tdiv (r : Int) 11 = 1 := by rw [Int.tdiv_eq_ediv_of_nonneg (by omega)]; omega
    clear h3
    go_wp2_with fail
    refine (among_any w.heap.size w.heap.size (0 + 2) w1.heap.size 5 _ ([1, 800, 801, 5000, 0, 5001].take 5) w2 HC2.out (by omega) rfl (by omega) (by omega) (by omega) (num_part w1 3 [1, 800, 801, 5000, 0, 5001] 5 _ rfl w2 w.heap.size HG2.out (by omega))).mono ?_
    rintro e w3 ⟨q, hx, rfl, hc2, hg2⟩
    have hxb : 0 ≤ q ∧ q ≤ 5001 := by simp at hx; omega
    have HR3 := Lib.hid (Rs.of_own (HO2.out.kept hg2 hne))
    have HB3 := Lib.hid (HB2.out.trans (grown_below hg2 (by omega) (fun k hk => by cases hk; exact Nat.le_refl _)))
    clear hc2 hg2 hx
    go_wp2_with fail
    go_ret2
    exact ⟨v, l, q, rfl, HR3.out, hl, hxb, HB3.out⟩
  · have t1 : Int.tdiv (r : Int) 11 = 2 := by rw [Int.tdiv_eq_ediv_of_nonneg (by omega)]; omega
    clear h3
    go_wp2_with fail
    refine (among_any w.heap.size w.heap.size (0 + 2) w1.heap.size 6 _ ([1, 800, 801, 5000, 0, 5001].take 6) w2 HC2.out (by omega) rfl (by omega) (by omega) (by omega) (num_part w1 3 [1, 800, 801, 5000, 0, 5001] 6 _ rfl w2 w.heap.size HG2.out (by omega))).mono ?_
    rintro e w3 ⟨q, hx, rfl, hc2, hg2⟩
    have hxb : 0 ≤ q ∧ q ≤ 5001 := by simp at hx; omega
    have HR3 := Lib.hid (Rs.of_own (HO2.out.kept hg2 hne))
    have HB3 := Lib.hid (HB2.out.trans (grown_below hg2 (by omega) (fun k hk => by cases hk; exact Nat.le_refl _)))
    clear hc2 hg2 hx
    go_wp2_with fail
    go_ret2
    exact ⟨v, l, q, rfl, HR3.out, hl, hxb, HB3.out⟩
end Go.Proofs.Ytiogjocbiagipab
