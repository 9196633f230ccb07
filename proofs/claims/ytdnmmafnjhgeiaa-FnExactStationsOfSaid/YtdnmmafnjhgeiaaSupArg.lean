/- A slice of supports that came in. No condition. -/
import Derived.Test.YtdnmmafnjhgeiaaRsArg
import Derived.Test.YtdnmmafnjhgeiaaSupS
namespace Go.Proofs.Ytdnmmafnjhgeiaa
open Go.RowKit Go.ChangeShapes Go.WideShapes Go.Deep
set_option linter.unusedVariables false
set_option maxRecDepth 100000 in
theorem fieldsSup : ∃ fs : Array Field, Try.prog.underlying 96 = some (.struct fs) ∧ fs.size = 3 ∧ (∃ f0 f1 f2, fs[0]? = some f0 ∧ fs[1]? = some f1 ∧ fs[2]? = some f2 ∧ f0.offset = 0 ∧ f1.offset = 1 ∧ f2.offset = 2 ∧ f0.type = 3 ∧ f1.type = 3 ∧ f2.type = 4) :=
  ⟨_, Try.underlying96, rfl, _, _, _, rfl, rfl, rfl, rfl, rfl, rfl, rfl, rfl, rfl⟩
set_option maxRecDepth 100000 in
theorem sup_el {H : Type} {enc' : TypeId × Value → H} {w : World} {base : Nat} {spare : Nat → Bool} {held : Bool} (n : Nat) (cs : List Value) (y : DataW H × List MemPlace)
    (h : DataW.trod enc' Try.prog w base spare held n 96 cs = some y) : ∃ z : Sup, cs = z.enc ∧ True := by
  obtain ⟨fs, hu, hsz, f0, f1, f2, e0, e1, e2, o0, o1, o2, t0, t1, t2⟩ := fieldsSup
  obtain ⟨xs, n', _, _, hl, hxl, hf⟩ := DataW.trod_struct hu h
  have hl3 : cs.length = 3 := hl.trans (by kernel_rfl)
  rw [hsz] at hxl
  match cs, hl3, xs, hxl with
  | [c0, c1, c2], _, [x0, x1, x2], _ =>
    have h0 := hf 0 f0 e0
    have h1 := hf 1 f1 e1
    have h2 := hf 2 f2 e2
    rw [o0, t0, show Try.prog.cellsOf 3 = 1 by kernel_rfl] at h0
    rw [o1, t1, show Try.prog.cellsOf 3 = 1 by kernel_rfl] at h1
    rw [o2, t2, show Try.prog.cellsOf 4 = 1 by kernel_rfl] at h2
    simp at h0 h1 h2
    obtain ⟨a, ha, _⟩ := DataW.trod_int Try.underlying3 h0
    obtain ⟨b, hb, _⟩ := DataW.trod_int Try.underlying3 h1
    obtain ⟨s, hs, _⟩ := DataW.trod_bool Try.underlying4 h2
    simp at ha hb hs
    exact ⟨⟨a, b, s⟩, by rw [ha, hb, hs]; rfl, trivial⟩
end Go.Proofs.Ytdnmmafnjhgeiaa
