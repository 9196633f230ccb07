/- The table of the kinds' rules, read out of a row's condition. No condition. -/
import Derived.Test.YtpknodbkjjcdjaaDoorLaidArr
import Derived.Test.YtpknodbkjjcdjaaDoorTkMath
import Derived.WideShapes
namespace Go.Proofs.YtpknodbkjjcdjaaDoor
open Go.RowKit Go.ChangeShapes Go.WideShapes
set_option linter.unusedVariables false
def rulDat {H : Type} (r : Int × Int × Int) : DataW H := .agg [.lit (.int .i64 r.1), .lit (.int .i64 r.2.1), .lit (.int .i64 r.2.2)]
def rulCel (r : Int × Int × Int) : List Value := [.int .i64 r.1, .int .i64 r.2.1, .int .i64 r.2.2]
def rulRows : List (Int × Int × Int) := [(1, 1, 2), (1, 2, 2), (50, 100, 1), (10, 10, 365)]
set_option maxRecDepth 100000 in
theorem fieldsRul : ∃ fs : Array Field, Tryd.prog.underlying 95 = some (.struct fs) ∧ fs.size = 3 ∧ (∃ f0 f1 f2, fs[0]? = some f0 ∧ fs[1]? = some f1 ∧ fs[2]? = some f2 ∧ f0.offset = 0 ∧ f1.offset = 1 ∧ f2.offset = 2 ∧ f0.type = 3 ∧ f1.type = 3 ∧ f2.type = 3) :=
  ⟨_, Tryd.underlying95, rfl, _, _, _, rfl, rfl, rfl, rfl, rfl, rfl, rfl, rfl, rfl⟩
set_option maxRecDepth 100000 in
theorem cells_of_rule {H : Type} {enc' : TypeId × Value → H} {w : World} {base : Nat} {spare : Nat → Bool} {held : Bool} {n : Nat} {cs : List Value} {r : Int × Int × Int} {q : List MemPlace}
    (h : DataW.trod enc' Tryd.prog w base spare held n 95 cs = some (rulDat r, q)) : cs = rulCel r := by
  obtain ⟨fs, hu, hsz, f0, f1, f2, e0, e1, e2, o0, o1, o2, t0, t1, t2⟩ := fieldsRul
  obtain ⟨xs, n', _, hx, hl, hxl, hf⟩ := DataW.trod_struct hu h
  have hl3 : cs.length = 3 := hl.trans (by kernel_rfl)
  rw [hsz] at hxl
  match cs, hl3, xs, hxl with
  | [c0, c1, c2], _, [x0, x1, x2], _ =>
    have h0 := hf 0 f0 e0
    have h1 := hf 1 f1 e1
    have h2 := hf 2 f2 e2
    rw [o0, t0, show Tryd.prog.cellsOf 3 = 1 by kernel_rfl] at h0
    rw [o1, t1, show Tryd.prog.cellsOf 3 = 1 by kernel_rfl] at h1
    rw [o2, t2, show Tryd.prog.cellsOf 3 = 1 by kernel_rfl] at h2
    simp at h0 h1 h2
    obtain ⟨a0, g0, k0, q0⟩ := DataW.trod_int Tryd.underlying3 h0
    obtain ⟨a1, g1, k1, q1⟩ := DataW.trod_int Tryd.underlying3 h1
    obtain ⟨a2, g2, k2, q2⟩ := DataW.trod_int Tryd.underlying3 h2
    simp at g0 g1 g2
    have hd := congrArg Prod.fst hx
    subst k0 k1 k2
    simp [rulDat] at hd
    obtain ⟨d0, d1, d2⟩ := hd
    rw [g0, g1, g2]
    unfold rulCel
    rw [d0, d1, d2]
end Go.Proofs.YtpknodbkjjcdjaaDoor
