/- A slice of integers that came in, as a reader needs it. No condition. -/
import Derived.Test.YtoamhbobcpljpaaRsArg
import Derived.Test.YtoamhbobcpljpaaIntS
import Derived.WideShapes
namespace Go.Proofs.Ytoamhbobcpljpaa
open Go.RowKit Go.ChangeShapes Go.WideShapes Go.Deep
set_option linter.unusedVariables false
set_option maxRecDepth 100000 in
theorem int_el {H : Type} {enc' : TypeId × Value → H} {w : World} {base : Nat} {spare : Nat → Bool} {held : Bool} (n : Nat) (cs : List Value) (y : DataW H × List MemPlace)
    (h : DataW.trod enc' Try.prog w base spare held n 3 cs = some y) : ∃ z : Int, cs = [.int .i64 z] ∧ True := by
  obtain ⟨a, g, _, q⟩ := DataW.trod_int Try.underlying3 h
  exact ⟨a, g, trivial⟩
theorem flat_ints (l : List Int) : flat (fun x : Int => [Value.int .i64 x]) l = intVs l := by
  induction l with
  | nil => rfl
  | cons x r ih =>
    have e : flat (fun x : Int => [Value.int .i64 x]) (x :: r) = Value.int .i64 x :: flat (fun x : Int => [Value.int .i64 x]) r := by simp [flat]
    rw [e, ih]; rfl
theorem Rd.of_rs {w : World} {v : Value} {l : List Int} (h : Rs w v l.length (flat (fun x : Int => [Value.int .i64 x]) l)) : Rd w v (intVs l) := by
  rw [flat_ints] at h
  have hl : (intVs l).length = l.length := by simp [intVs]
  rcases h with ⟨h0, a, cap, rfl⟩ | ⟨b, off, cap, rfl, hb, hc, hx⟩
  · have : l = [] := List.eq_nil_of_length_eq_zero h0
    subst this
    exact .inl ⟨rfl, a, cap, rfl⟩
  · exact .inr ⟨b, off, cap, by rw [hl], hb, by rw [hl]; exact hc, hx⟩
end Go.Proofs.Ytoamhbobcpljpaa
