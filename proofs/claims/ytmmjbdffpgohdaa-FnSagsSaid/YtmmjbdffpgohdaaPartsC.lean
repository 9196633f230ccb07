/- The distances of a place from both ends of its span. Condition: sizes. -/
import Derived.Test.YtmmjbdffpgohdaaSagMath
namespace Go.Proofs.Ytmmjbdffpgohdaa
open Go.RowKit
set_option linter.unusedVariables false
set_option maxRecDepth 100000 in
set_option maxHeartbeats 1000000 in
theorem distancesProduct_c (v : Value) (l : List Sup) (p : Int) (w : World) (hr : Rs w v l.length (sups l)) (ho : OnAt l p (spanN l p)) :
    Calls Try.prog 61 #[v, .int .i64 ((spanN l p : Nat) : Int), .int .i64 p] w fun e w' => e = .returned (.int .i64 (pX l p * pY l p)) ∧ Drew w w' := by
  have hxy := xyOk ho
  have hE := hxy.bd
  have hx0 := hxy.x0
  have hy0 := hxy.y0
  have hsm := hxy.sum
  have hs1 := hxy.s1
  have hlt := ho.lt
  have h8 := ho.line.eight
  have b0 := ho.line.bd (i := spanN l p) (by omega)
  have b1 := ho.line.bd hlt
  have hX : p - (nth l (spanN l p)).a = pX l p := rfl
  have hY : (nth l (spanN l p + 1)).a - p = pY l p := rfl
  obtain ⟨a, oa, ca, rfl, hla, hm, hs⟩ := hr.sup (by omega)
  clear hr ho hxy
  generalize spanN l p = z at *
  obtain ⟨c0, c1, c2⟩ := hs z (by omega)
  obtain ⟨d0, d1, d2⟩ := hs (z + 1) hlt
  have hi1 : z < l.length := by omega
  obtain ⟨p1, p2, p3⟩ := succ_in z (by omega)
  have hi2 : (z : Int) + 1 < (l.length : Int) := by omega
  have s1 : IntKind.i64.wrap (p - (nth l z).a) = pX l p := by rw [hX]; exact IntWalk.i64_in _ (by omega)
  have s2 : IntKind.i64.wrap ((nth l (z + 1)).a - p) = pY l p := by rw [hY]; exact IntWalk.i64_in _ (by omega)
  have s3 : IntKind.i64.wrap (pX l p * pY l p) = pX l p * pY l p := IntWalk.i64_in _ (by omega)
  clear hX hY hs b0 b1 c1 c2 d1 d2
  go_enter Try.func61, Try.ntmps61
  go_wp2
  go_quiet (fail)
  go_wp2
  go_ret
  exact ⟨rfl, ⟨_, rfl⟩⟩
set_option maxRecDepth 100000 in
set_option maxHeartbeats 1000000 in
theorem l4Parts_c (v : Value) (l : List Sup) (p : Int) (w : World) (hr : Rs w v l.length (sups l)) (hon : onL l p = true) :
    Calls Try.prog 66 #[v, .int .i64 p] w fun e w' => e = .returned (.tuple #[.int .i64 (pX l p), .int .i64 (pY l p)]) ∧ Drew w w' := by
  have ho := onAt hon
  have hxy := xyOk ho
  have hx0 := hxy.x0
  have hy0 := hxy.y0
  have hsm := hxy.sum
  have hs1 := hxy.s1
  have hlt := ho.lt
  have h8 := ho.line.eight
  have b0 := ho.line.bd (i := spanN l p) (by omega)
  have b1 := ho.line.bd hlt
  have hX : p - (nth l (spanN l p)).a = pX l p := rfl
  have hY : (nth l (spanN l p + 1)).a - p = pY l p := rfl
  have HC := Lib.hid (l2Span_c v l p w hr hon)
  obtain ⟨a, oa, ca, rfl, hla, hm, hs⟩ := hr.sup (by omega)
  have HA := Lib.hid hs
  clear hr ho hxy hon hs
  generalize spanN l p = z at *
  have hi1 : z < l.length := by omega
  obtain ⟨p1, p2, p3⟩ := succ_in z (by omega)
  have hi2 : (z : Int) + 1 < (l.length : Int) := by omega
  have s1 : IntKind.i64.wrap (p - (nth l z).a) = pX l p := by rw [hX]; exact IntWalk.i64_in _ (by omega)
  have s2 : IntKind.i64.wrap ((nth l (z + 1)).a - p) = pY l p := by rw [hY]; exact IntWalk.i64_in _ (by omega)
  clear hX hY b0 b1
  go_enter Try.func66, Try.ntmps66
  go_wp2_with fail
  refine HC.out.mono ?_
  rintro e w1 ⟨rfl, d1⟩
  obtain ⟨c0, _, _⟩ := (HA.out.drew d1) z (by omega)
  obtain ⟨c1, _, _⟩ := (HA.out.drew d1) (z + 1) hlt
  go_wp2
  go_quiet (fail)
  go_wp2
  go_ret2
  exact ⟨rfl, d1.more _⟩
end Go.Proofs.Ytmmjbdffpgohdaa
