/- The line's end. No condition. -/
import Derived.Test.YtmmjbdffpgohdaaSagC
import Derived.Test.YtmmjbdffpgohdaaSagSpecC
import Derived.Test.YtmmjbdffpgohdaaLess4C
namespace Go.Proofs.Ytmmjbdffpgohdaa
open Go.RowKit
set_option linter.unusedVariables false
/-- The line's end. -/
def endN (l : List Sup) : Nat := ((nth l (l.length - 1)).a).toNat
theorem endN_eq {l : List Sup} (h : IsL l) : ((endN l : Nat) : Int) = (nth l (l.length - 1)).a ∧ endN l ≤ 3000 := by
  have h2 := h.two
  have b := h.bd (i := l.length - 1) (by omega)
  unfold endN; omega
theorem on_of {l : List Sup} (h : IsL l) {k : Nat} (hk : k ≤ endN l) : onL l (k : Int) = true := by
  have e := endN_eq h
  rw [onL_iff]
  exact ⟨h, by omega, by omega⟩
theorem sg_of {l : List Sup} {r : Rp} (h : IsL l) (hr : isR r = true) {k : Nat} (hk : k ≤ endN l) : sgOk l r (k : Int) = true := by
  unfold sgOk; rw [on_of h hk, hr]; rfl
theorem results_tmp4 {fn : Func} {t u v x : Tmp} (h : fn.results = #[.tmp t, .tmp u, .tmp v, .tmp x]) (tmps : Array Value) (P : Program) (w : World) :
    (results fn tmps).run P w = .ok (.tuple #[tmps.getD t undef, tmps.getD u undef, tmps.getD v undef, tmps.getD x undef]) w := by
  simp [results, h]
theorem ret4 {a b c a' b' c' : Int} {p q : Bool} (h1 : a = a') (h2 : b = b') (h3 : c = c') (h4 : p = q) : Ending.returned (.tuple #[.int .i64 a, .int .i64 b, .int .i64 c, .bool p]) = .returned (.tuple #[.int .i64 a', .int .i64 b', .int .i64 c', .bool q]) := by rw [h1, h2, h3, h4]
end Go.Proofs.Ytmmjbdffpgohdaa
