/- A WindRule that came in: in a slice, or by value. No condition. -/
import Derived.Test.YtoamhbobcpljpaaRsArg
import Derived.Test.YtoamhbobcpljpaaWruS
import Derived.WideShapes
namespace Go.Proofs.Ytoamhbobcpljpaa
open Go.RowKit Go.ChangeShapes Go.WideShapes Go.Deep
set_option linter.unusedVariables false
set_option maxRecDepth 100000 in
theorem fieldsWru : ∃ fs : Array Field, Try.prog.underlying 60 = some (.struct fs) ∧ fs.size = 4 ∧ (∃ f0 f1 f2 f3, fs[0]? = some f0 ∧ fs[1]? = some f1 ∧ fs[2]? = some f2 ∧ fs[3]? = some f3 ∧ f0.offset = 0 ∧ f1.offset = 1 ∧ f2.offset = 2 ∧ f3.offset = 3 ∧ f0.type = 3 ∧ f1.type = 3 ∧ f2.type = 3 ∧ f3.type = 3) :=
  ⟨_, Try.underlying60, rfl, _, _, _, _, rfl, rfl, rfl, rfl, rfl, rfl, rfl, rfl, rfl, rfl, rfl, rfl⟩
set_option maxRecDepth 100000 in
theorem Wru_el {H : Type} {enc' : TypeId × Value → H} {w : World} {base : Nat} {spare : Nat → Bool} {held : Bool} (n : Nat) (cs : List Value) (y : DataW H × List MemPlace)
    (h : DataW.trod enc' Try.prog w base spare held n 60 cs = some y) : ∃ z : Wru, cs = z.enc ∧ z.wf := by
  obtain ⟨fs, hu, hsz, f0, f1, f2, f3, e0, e1, e2, e3, o0, o1, o2, o3, t0, t1, t2, t3⟩ := fieldsWru
  obtain ⟨xs, n', _, _, hl, hxl, hf⟩ := DataW.trod_struct hu h
  have hl3 : cs.length = 4 := hl.trans (by kernel_rfl)
  rw [hsz] at hxl
  match cs, hl3, xs, hxl with
  | [c0, c1, c2, c3], _, [x0, x1, x2, x3], _ =>
    have h0 := hf 0 f0 e0
    have h1 := hf 1 f1 e1
    have h2 := hf 2 f2 e2
    have h3 := hf 3 f3 e3
    rw [o0, t0, show Try.prog.cellsOf 3 = 1 by kernel_rfl] at h0
    rw [o1, t1, show Try.prog.cellsOf 3 = 1 by kernel_rfl] at h1
    rw [o2, t2, show Try.prog.cellsOf 3 = 1 by kernel_rfl] at h2
    rw [o3, t3, show Try.prog.cellsOf 3 = 1 by kernel_rfl] at h3
    simp at h0 h1 h2 h3
    obtain ⟨a0, g0, _, q0⟩ := DataW.trod_int Try.underlying3 h0
    obtain ⟨a1, g1, _, q1⟩ := DataW.trod_int Try.underlying3 h1
    obtain ⟨a2, g2, _, q2⟩ := DataW.trod_int Try.underlying3 h2
    obtain ⟨a3, g3, _, q3⟩ := DataW.trod_int Try.underlying3 h3
    simp at g0 g1 g2 g3
    exact ⟨⟨a0, a1, a2, a3⟩, by rw [g0, g1, g2, g3]; rfl, ⟨q0, q1, q2, q3⟩⟩
set_option maxRecDepth 100000 in
theorem Wru_val {H : Type} {enc' : TypeId × Value → H} {w : World} {r : Reach} {b0 base : Nat} {spare : Nat → Bool} {held : Bool} {v : Value} {d : DataW H} {ps : List MemPlace}
    (hv : Value.okWide Try.prog w r b0 60 v) (h : DataW.Trod enc' Try.prog w base spare held 60 v d ps) : ∃ z : Wru, v = z.agg ∧ z.wf := by
  obtain ⟨cs, rfl, _⟩ := okWide_struct Try.underlying60 hv
  obtain ⟨n, hn⟩ := h
  obtain ⟨z, hz, hw⟩ := Wru_el n _ _ hn
  refine ⟨z, ?_, hw⟩
  obtain ⟨l⟩ := cs
  have e : l = z.enc := hz
  rw [e]; rfl
end Go.Proofs.Ytoamhbobcpljpaa
