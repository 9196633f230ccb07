/- A region that draws its order, whose operations only read and whose callees may make memory of their own: one walk in the text's order. No condition. -/
import Derived.Test.YtinlcbljpclccaaDrew
import Derived.BigQuiet
import Derived.Deep.RegionWith
namespace Go.Proofs.Ytinlcbljpclccaa
open Go.RowKit
set_option linter.unusedVariables false
/-- A world in which what lay in w0 is as it was. -/
structure Aft (w0 : World) where
  w : World
  below : Below w0.heap.size w0 w
instance (w0 : World) : Nonempty (Aft w0) := ⟨⟨w0, Below.refl _ _⟩⟩
theorem Aft.cell {w0 : World} (x : Aft w0) {p : Addr} {v : Value} (h : w0.cell? p = some v) : x.w.cell? p = some v := by
  have hp : p.block < w0.heap.size := by
    unfold World.cell? at h
    cases hb : w0.heap[p.block]? with
    | none => simp [hb] at h
    | some o => exact (Array.getElem?_eq_some_iff.1 hb).1
  exact (x.below.cell hp).trans h
theorem wp_region_aft {P : Program} {w0 : World} {id : Nat} {Q : Exit → Act → World → Prop} {a : Act} {w : World} {l : List Oper} (hm : P.follows .mixedOrders = true) (hB : Region.lexB .any l.toArray = true) (hw : Below w0.heap.size w0 w)
    (h : wpQuiet P l.toArray (fun w' => ∃ x : Aft w0, w' = x.w) (fun a' => ∀ w', (∃ x : Aft w0, w' = x.w) → Q .normal a' w') l a) : (Code.region id l.toArray true).wp P Q a w :=
  wp_region_quiet (C := fun w' => ∃ x : Aft w0, w' = x.w) hm hB ⟨⟨_, hw.drew⟩, rfl⟩ (by simpa using h)
/-- A callee that leaves what was there. -/
theorem aft_of {P : Program} {f : FuncId} {args : Array Value} {w0 : World} {x : Aft w0} {v : Value}
    (h : Calls P f args x.w fun e w' => e = .returned v ∧ Below x.w.heap.size x.w w') : Calls P f args x.w fun e w'' => e = .returned v ∧ ∃ y : Aft w0, w'' = y.w :=
  h.mono fun _ w' ⟨he, hb⟩ => ⟨he, ⟨w', x.below.trans (hb.mono x.below.size)⟩, rfl⟩
theorem aft_same {P : Program} {f : FuncId} {args : Array Value} {w0 : World} {x : Aft w0} {v : Value}
    (h : Calls P f args x.w fun e w' => e = .returned v ∧ w' = x.w) : Calls P f args x.w fun e w'' => e = .returned v ∧ ∃ y : Aft w0, w'' = y.w :=
  h.mono fun _ w' ⟨he, hb⟩ => ⟨he, x, hb⟩
end Go.Proofs.Ytinlcbljpclccaa
