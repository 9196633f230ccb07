/- A Platform that came in: in a slice, or by value. No condition. -/
import Derived.Test.YtinlcbljpclccaaDoorRsArg
import Derived.Test.YtinlcbljpclccaaDoorPltS
import Derived.WideShapes
namespace Go.Proofs.YtinlcbljpclccaaDoor
open Go.RowKit Go.ChangeShapes Go.WideShapes Go.Deep
set_option linter.unusedVariables false
set_option maxRecDepth 100000 in
theorem fieldsPlt : ∃ fs : Array Field, Tryd.prog.underlying 42 = some (.struct fs) ∧ fs.size = 6 ∧ (∃ f0 f1 f2 f3 f4 f5, fs[0]? = some f0 ∧ fs[1]? = some f1 ∧ fs[2]? = some f2 ∧ fs[3]? = some f3 ∧ fs[4]? = some f4 ∧ fs[5]? = some f5 ∧ f0.offset = 0 ∧ f1.offset = 1 ∧ f2.offset = 2 ∧ f3.offset = 3 ∧ f4.offset = 4 ∧ f5.offset = 5 ∧ f0.type = 3 ∧ f1.type = 3 ∧ f2.type = 3 ∧ f3.type = 3 ∧ f4.type = 4 ∧ f5.type = 3) :=
  ⟨_, Tryd.underlying42, rfl, _, _, _, _, _, _, rfl, rfl, rfl, rfl, rfl, rfl, rfl, rfl, rfl, rfl, rfl, rfl, rfl, rfl, rfl, rfl, rfl, rfl⟩
set_option maxRecDepth 100000 in
theorem Plt_el {H : Type} {enc' : TypeId × Value → H} {w : World} {base : Nat} {spare : Nat → Bool} {held : Bool} (n : Nat) (cs : List Value) (y : DataW H × List MemPlace)
    (h : DataW.trod enc' Tryd.prog w base spare held n 42 cs = some y) : ∃ z : Plt, cs = z.enc ∧ z.wf := by
  obtain ⟨fs, hu, hsz, f0, f1, f2, f3, f4, f5, e0, e1, e2, e3, e4, e5, o0, o1, o2, o3, o4, o5, t0, t1, t2, t3, t4, t5⟩ := fieldsPlt
  obtain ⟨xs, n', _, _, hl, hxl, hf⟩ := DataW.trod_struct hu h
  have hl3 : cs.length = 6 := hl.trans (by kernel_rfl)
  rw [hsz] at hxl
  match cs, hl3, xs, hxl with
  | [c0, c1, c2, c3, c4, c5], _, [x0, x1, x2, x3, x4, x5], _ =>
    have h0 := hf 0 f0 e0
    have h1 := hf 1 f1 e1
    have h2 := hf 2 f2 e2
    have h3 := hf 3 f3 e3
    have h4 := hf 4 f4 e4
    have h5 := hf 5 f5 e5
    rw [o0, t0, show Tryd.prog.cellsOf 3 = 1 by kernel_rfl] at h0
    rw [o1, t1, show Tryd.prog.cellsOf 3 = 1 by kernel_rfl] at h1
    rw [o2, t2, show Tryd.prog.cellsOf 3 = 1 by kernel_rfl] at h2
    rw [o3, t3, show Tryd.prog.cellsOf 3 = 1 by kernel_rfl] at h3
    rw [o4, t4, show Tryd.prog.cellsOf 4 = 1 by kernel_rfl] at h4
    rw [o5, t5, show Tryd.prog.cellsOf 3 = 1 by kernel_rfl] at h5
    simp at h0 h1 h2 h3 h4 h5
    obtain ⟨a0, g0, _, q0⟩ := DataW.trod_int Tryd.underlying3 h0
    obtain ⟨a1, g1, _, q1⟩ := DataW.trod_int Tryd.underlying3 h1
    obtain ⟨a2, g2, _, q2⟩ := DataW.trod_int Tryd.underlying3 h2
    obtain ⟨a3, g3, _, q3⟩ := DataW.trod_int Tryd.underlying3 h3
    obtain ⟨a4, g4, _⟩ := DataW.trod_bool Tryd.underlying4 h4
    obtain ⟨a5, g5, _, q5⟩ := DataW.trod_int Tryd.underlying3 h5
    simp at g0 g1 g2 g3 g4 g5
    exact ⟨⟨a0, a1, a2, a3, a4, a5⟩, by rw [g0, g1, g2, g3, g4, g5]; rfl, ⟨q0, q1, q2, q3, q5⟩⟩
set_option maxRecDepth 100000 in
theorem Plt_val {H : Type} {enc' : TypeId × Value → H} {w : World} {r : Reach} {b0 base : Nat} {spare : Nat → Bool} {held : Bool} {v : Value} {d : DataW H} {ps : List MemPlace}
    (hv : Value.okWide Tryd.prog w r b0 42 v) (h : DataW.Trod enc' Tryd.prog w base spare held 42 v d ps) : ∃ z : Plt, v = z.agg ∧ z.wf := by
  obtain ⟨cs, rfl, _⟩ := okWide_struct Tryd.underlying42 hv
  obtain ⟨n, hn⟩ := h
  obtain ⟨z, hz, hw⟩ := Plt_el n _ _ hn
  refine ⟨z, ?_, hw⟩
  obtain ⟨l⟩ := cs
  have e : l = z.enc := hz
  rw [e]; rfl
end Go.Proofs.YtinlcbljpclccaaDoor
