/- GreatestTension: the program's and the specification's answer as one function. Condition: sizes. -/
import Derived.Test.YtmmjbdffpgohdaaDriveC
import Derived.Test.YtmmjbdffpgohdaaShelfM
namespace Go.Proofs.Ytmmjbdffpgohdaa
open Go.RowKit
set_option linter.unusedVariables false
noncomputable def gtI (l : List Sup) (x : LC) : Int := if tenOk l x x.r then ((bestT (ten l x x.r) (l.length - 1) : Nat) : Int) else 0
noncomputable def gtV (l : List Sup) (x : LC) : Int := if tenOk l x x.r then ten l x x.r (bestT (ten l x x.r) (l.length - 1)) else 0
theorem tenK_get {l : List Sup} {x : LC} {f : Int} {k i : Nat} (h : i < k) : (tenK l x f k).getD i 0 = ten l x f i := by simp [tenK, List.getD, h]
theorem maxOf_ten (l : List Sup) (x : LC) (f : Int) (n : Nat) : ∀ k, k + 1 ≤ n → Lib.maxOf ((tenK l x f n).take (k + 1)) = ten l x f (bestT (ten l x f) k)
  | 0, h => by
    rw [Lib.maxOf_one, tenK_get (by omega)]; rfl
  | k + 1, h => by
    rw [Lib.maxOf_step _ (k + 1) (by omega) (by rw [tenK_len]; omega), maxOf_ten l x f n k (by omega), tenK_get (by omega)]
    by_cases hb : ten l x f (bestT (ten l x f) k) < ten l x f (k + 1)
    · rw [bestT_yes hb, Int.max_def]; split <;> omega
    · rw [bestT_no hb, Int.max_def]; split <;> omega
theorem idxOf_ten {l : List Sup} {x : LC} {f : Int} {n : Nat} (h : 0 < n) : Lib.idxOf ((tenK l x f n).take n) (ten l x f (bestT (ten l x f) (n - 1))) = ((bestT (ten l x f) (n - 1) : Nat) : Int) := by
  have hle := bestT_le (ten l x f) (n - 1)
  exact Lib.idxOf_hit (tenK l x f n) n (bestT (ten l x f) (n - 1)) _ (by omega) (by rw [tenK_len]; exact Nat.le_refl _) (tenK_get (by omega)) (fun j hj => by
    rw [tenK_get (by omega)]
    have := bestT_first (ten l x f) (n - 1) j hj
    omega)
set_option maxRecDepth 100000 in
set_option maxHeartbeats 2000000 in
theorem implGreatestTension_c (v : Value) (l : List Sup) (x : LC) (w : World) (hr : Rs w v l.length (sups l)) (hn : l.length ≤ 1048576) :
    Calls Try.prog 28 #[v, .agg #[.int .i64 x.w, .int .i64 x.c, .int .i64 x.r]] w fun e w' => e = .returned (.tuple #[.int .i64 (gtI l x), .int .i64 (gtV l x), .bool (tenOk l x x.r)]) ∧ Below w.heap.size w w' := by
  have HX := Lib.hid (fun W h => lcBox w x W h)
  have HR := Lib.hid (hr.below ((Below.refl _ _).alloc (Nat.le_refl _) (.cells #[.int .i64 x.w, .int .i64 x.c, .int .i64 x.r] 44)) rfl)
  have HB0 : Hid (Below w.heap.size w (w.alloc (.cells #[.int .i64 x.w, .int .i64 x.c, .int .i64 x.r] 44))) := Lib.hid ((Below.refl _ _).alloc (Nat.le_refl _) _)
  have EU := Lib.hid (fun W hW => implUpTensions_c v l x W hW hn)
  clear hr
  cases hu : tenOk l x x.r with
  | false =>
    have HV : Hid (gtI l x = 0 ∧ gtV l x = 0) := Lib.hid (by simp [gtI, gtV, hu])
    rw [HV.out.1, HV.out.2]
    rw [hu] at EU
    clear hu HV
    go_enter Try.func28, Try.ntmps28
    go_wp2_with fail
    refine (EU.out _ HR.out).mono ?_
    rintro e w1 ⟨g, rfl, o1, b1⟩
    have B1 := HB0.out.trans (b1.mono HB0.out.size)
    clear b1 o1
    go_wp2
    go_ret3
    exact ⟨rfl, B1⟩
  | true =>
    obtain ⟨hl, hxx, _⟩ := tenOk_yes hu
    have h2 := hl.two
    have h8 := hl.eight
    have HV : Hid (gtI l x = ((bestT (ten l x x.r) (l.length - 1) : Nat) : Int) ∧ gtV l x = ten l x x.r (bestT (ten l x x.r) (l.length - 1))) := Lib.hid (by simp [gtI, gtV, hu])
    rw [HV.out.1, HV.out.2]
    rw [hu, tenL_yes hu, tenK_len] at EU
    have HM := Lib.hid (maxOf_ten l x x.r l.length (l.length - 1) (by omega))
    have HI := Lib.hid (idxOf_ten (l := l) (x := x) (f := x.r) (n := l.length) (by omega))
    have HZ : Hid (∀ j, j < (tenK l x x.r l.length).length → (intVs (tenK l x x.r l.length))[j]? = some (.int .i64 ((tenK l x x.r l.length).getD j 0))) := Lib.hid (fun j hj => by rw [tenK_len] at hj; rw [tenV_at hj, tenK_get hj])
    have HN := Lib.hid (tenK_len l x x.r l.length)
    have hle := bestT_le (ten l x x.r) (l.length - 1)
    rw [show l.length - 1 + 1 = l.length by omega] at HM
    clear hu hl hxx HV
    generalize ten l x x.r (bestT (ten l x x.r) (l.length - 1)) = V at *
    generalize bestT (ten l x x.r) (l.length - 1) = z at *
    generalize tenK l x x.r l.length = L at *
    go_enter Try.func28, Try.ntmps28
    go_wp2_with fail
    refine (EU.out _ HR.out).mono ?_
    rintro e w1 ⟨g, rfl, o1, b1⟩
    have B1 := Lib.hid (HB0.out.trans (b1.mono HB0.out.size))
    obtain ⟨ga, cpa, rfl, hga, hca, hma⟩ := own_shapeT o1 (by omega)
    have HC : Hid (∀ j, j < L.length → w1.cell? ⟨ga, 0 + j, none⟩ = some (.int .i64 (L.getD j 0))) := Lib.hid (fun j hj => by rw [Nat.zero_add]; exact (o1.cellAt j (by rw [HN.out] at hj; omega)).trans (HZ.out j hj))
    clear b1 o1
    have E1 := Lib.hid (Try.slices_Max_int ga 0 l.length cpa L w1 (by omega) (by rw [HN.out]; exact Nat.le_refl _) (by omega) HC.out)
    rw [HM.out] at E1
    go_wp2_with fail
    refine E1.out.mono ?_
    rintro e w2 ⟨rfl, rfl⟩
    have E2 := Lib.hid (Try.slices_Index_int ga 0 l.length cpa L V w2 (by rw [HN.out]; exact Nat.le_refl _) (by omega) HC.out)
    rw [HI.out] at E2
    go_wp2_with fail
    refine E2.out.mono ?_
    rintro e w3 ⟨rfl, rfl⟩
    go_wp2
    go_ret3
    exact ⟨rfl, B1.out⟩
end Go.Proofs.Ytmmjbdffpgohdaa
