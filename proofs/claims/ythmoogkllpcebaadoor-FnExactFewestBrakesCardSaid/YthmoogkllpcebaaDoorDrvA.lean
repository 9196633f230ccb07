/- A Drive that came in, by value. No condition. -/
import Derived.Test.YthmoogkllpcebaaDoorBrkA
import Derived.WideShapes
namespace Go.Proofs.YthmoogkllpcebaaDoor
open Go.RowKit Go.ChangeShapes Go.WideShapes Go.Deep
set_option linter.unusedVariables false
set_option maxRecDepth 100000 in
theorem fieldsDrv : ∃ fs : Array Field, Tryd.prog.underlying 52 = some (.struct fs) ∧ fs.size = 3 ∧ (∃ f0 f1 f2, fs[0]? = some f0 ∧ fs[1]? = some f1 ∧ fs[2]? = some f2 ∧ f0.offset = 0 ∧ f1.offset = 1 ∧ f2.offset = 2 ∧ f0.type = 3 ∧ f1.type = 3 ∧ f2.type = 50) :=
  ⟨_, Tryd.underlying52, rfl, _, _, _, rfl, rfl, rfl, rfl, rfl, rfl, rfl, rfl, rfl⟩
set_option maxRecDepth 100000 in
theorem Drv_val {H : Type} {enc' : TypeId × Value → H} {w : World} {r : Reach} {b0 base : Nat} {spare : Nat → Bool} {held : Bool} {v : Value} {d : DataW H} {ps : List MemPlace}
    (hv : Value.okWide Tryd.prog w r b0 52 v) (h : DataW.Trod enc' Tryd.prog w base spare held 52 v d ps) :
    ∃ (L S : Int) (u : Value) (l : List Brk), v = .agg #[.int .i64 L, .int .i64 S, u] ∧ (Lit.int .i64 L).wf = true ∧ (Lit.int .i64 S).wf = true ∧ Rs w u l.length (brks l) ∧ l.length ≤ maxLen ∧ (∀ z ∈ l, z.wf) := by
  obtain ⟨cs, rfl, _⟩ := okWide_struct Tryd.underlying52 hv
  obtain ⟨n, hn⟩ := h
  obtain ⟨fs, hu, hsz, f0, f1, f2, e0, e1, e2, o0, o1, o2, t0, t1, t2⟩ := fieldsDrv
  obtain ⟨xs, n', _, _, hl, hxl, hf⟩ := DataW.trod_struct hu hn
  have hl3 : (Value.agg cs).cells.toList.length = 3 := hl.trans (by kernel_rfl)
  rw [hsz] at hxl
  obtain ⟨csl⟩ := cs
  have e : (Value.agg ⟨csl⟩).cells.toList = csl := rfl
  rw [e] at hl3
  have hf' := fun i f hif => hf i f hif
  match csl, hl3, xs, hxl with
  | [c0, c1, c2], _, [x0, x1, x2], _ =>
    have h0 := hf 0 f0 e0
    have h1 := hf 1 f1 e1
    have h2 := hf 2 f2 e2
    rw [o0, t0, show Tryd.prog.cellsOf 3 = 1 by kernel_rfl] at h0
    rw [o1, t1, show Tryd.prog.cellsOf 3 = 1 by kernel_rfl] at h1
    rw [o2, t2, show Tryd.prog.cellsOf 50 = 1 by kernel_rfl] at h2
    have k0 : DataW.trod enc' Tryd.prog w base spare held n' 3 [c0] = some x0 := h0
    have k1 : DataW.trod enc' Tryd.prog w base spare held n' 3 [c1] = some x1 := h1
    have k2 : DataW.trod enc' Tryd.prog w base spare held n' 50 [c2] = some x2 := h2
    obtain ⟨a0, g0, _, q0⟩ := DataW.trod_int Tryd.underlying3 k0
    obtain ⟨a1, g1, _, q1⟩ := DataW.trod_int Tryd.underlying3 k1
    simp at g0 g1
    subst g0
    subst g1
    obtain ⟨a, len, cap, rfl⟩ : ∃ a len cap, c2 = .slice a len cap := by
      rcases DataW.trod_slice Tryd.underlying50 k2 with ⟨hc, _⟩ | ⟨a, len, cap, _, _, _, _, hc, _⟩
      · simp at hc; exact ⟨_, _, _, hc⟩
      · simp at hc; exact ⟨_, _, _, hc⟩
    obtain ⟨l, hln, hr, hq, hm⟩ := rs_arg (enc := Brk.enc) (sz := 2) Brk.enc_len (by decide) (fun z => z.wf) Tryd.underlying50 (by kernel_rfl) Brk_el k2
    exact ⟨a0, a1, _, l, rfl, q0, q1, hr, hm, hq⟩
end Go.Proofs.YthmoogkllpcebaaDoor
