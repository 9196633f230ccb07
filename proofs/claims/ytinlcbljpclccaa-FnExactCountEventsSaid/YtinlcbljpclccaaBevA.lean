/- A BoardEvent that came in: in a slice, or by value. No condition. -/
import Derived.Test.YtinlcbljpclccaaRsArg
import Derived.Test.YtinlcbljpclccaaBevS
import Derived.WideShapes
namespace Go.Proofs.Ytinlcbljpclccaa
open Go.RowKit Go.ChangeShapes Go.WideShapes Go.Deep
set_option linter.unusedVariables false
set_option maxRecDepth 100000 in
theorem fieldsBev : ∃ fs : Array Field, Try.prog.underlying 51 = some (.struct fs) ∧ fs.size = 2 ∧ (∃ f0 f1, fs[0]? = some f0 ∧ fs[1]? = some f1 ∧ f0.offset = 0 ∧ f1.offset = 1 ∧ f0.type = 9 ∧ f1.type = 3) :=
  ⟨_, Try.underlying51, rfl, _, _, rfl, rfl, rfl, rfl, rfl, rfl⟩
set_option maxRecDepth 100000 in
theorem Bev_el {H : Type} {enc' : TypeId × Value → H} {w : World} {base : Nat} {spare : Nat → Bool} {held : Bool} (n : Nat) (cs : List Value) (y : DataW H × List MemPlace)
    (h : DataW.trod enc' Try.prog w base spare held n 51 cs = some y) : ∃ z : Bev, cs = z.enc ∧ z.wf := by
  obtain ⟨fs, hu, hsz, f0, f1, e0, e1, o0, o1, t0, t1⟩ := fieldsBev
  obtain ⟨xs, n', _, _, hl, hxl, hf⟩ := DataW.trod_struct hu h
  have hl3 : cs.length = 2 := hl.trans (by kernel_rfl)
  rw [hsz] at hxl
  match cs, hl3, xs, hxl with
  | [c0, c1], _, [x0, x1], _ =>
    have h0 := hf 0 f0 e0
    have h1 := hf 1 f1 e1
    rw [o0, t0, show Try.prog.cellsOf 9 = 1 by kernel_rfl] at h0
    rw [o1, t1, show Try.prog.cellsOf 3 = 1 by kernel_rfl] at h1
    simp at h0 h1
    obtain ⟨a0, g0, _, q0⟩ := DataW.trod_string Try.underlying9 h0
    obtain ⟨a1, g1, _, q1⟩ := DataW.trod_int Try.underlying3 h1
    simp at g0 g1
    exact ⟨⟨a0, a1⟩, by rw [g0, g1]; rfl, ⟨q0, q1⟩⟩
set_option maxRecDepth 100000 in
theorem Bev_val {H : Type} {enc' : TypeId × Value → H} {w : World} {r : Reach} {b0 base : Nat} {spare : Nat → Bool} {held : Bool} {v : Value} {d : DataW H} {ps : List MemPlace}
    (hv : Value.okWide Try.prog w r b0 51 v) (h : DataW.Trod enc' Try.prog w base spare held 51 v d ps) : ∃ z : Bev, v = z.agg ∧ z.wf := by
  obtain ⟨cs, rfl, _⟩ := okWide_struct Try.underlying51 hv
  obtain ⟨n, hn⟩ := h
  obtain ⟨z, hz, hw⟩ := Bev_el n _ _ hn
  refine ⟨z, ?_, hw⟩
  obtain ⟨l⟩ := cs
  have e : l = z.enc := hz
  rw [e]; rfl
end Go.Proofs.Ytinlcbljpclccaa
