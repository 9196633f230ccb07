/- Rows of integers for the brakes: how they read, results. Condition: sizes. -/
import Derived.Test.YthmoogkllpcebaaDoorBrkV
import Derived.Test.YthmoogkllpcebaaDoorIntC
import Derived.Test.YthmoogkllpcebaaDoorAppAny
import Derived.Test.YthmoogkllpcebaaDoorAft
import Derived.Deep.AppendLies
import Derived.Deep.RegionHeld3
namespace Go.Proofs.YthmoogkllpcebaaDoor
open Go.RowKit
set_option linter.unusedVariables false
/-- the row at off in b holds l -/
def RowAt (w : World) (b off : Nat) (l : List Int) : Prop := ∀ i, i < l.length → w.cell? ⟨b, off + i, none⟩ = some (.int .i64 (l.getD i 0))
theorem RowAt.below {w w' : World} {b off : Nat} {l : List Int} (h : RowAt w b off l) (hb : Below w.heap.size w w') (hl : b < w.heap.size) : RowAt w' b off l := fun i hi => (hb.cell (p := ⟨b, off + i, none⟩) hl).trans (h i hi)
theorem RowAt.drew {w w' : World} {b off : Nat} {l : List Int} (h : RowAt w b off l) (hd : Drew w w') : RowAt w' b off l := fun i hi => by rw [hd.cell]; exact h i hi
theorem Rd.formR {w : World} {v : Value} {l : List Int} (h : Rd w v (intVs l)) :
    ∃ ao b off cap, v = .slice ao l.length cap ∧ (0 < l.length → ao = some ⟨b, off, none⟩ ∧ b < w.heap.size ∧ l.length ≤ maxLen) ∧ RowAt w b off l := by
  by_cases h0 : l = []
  · subst h0
    obtain ⟨a, ca, hv⟩ := h.iv0
    exact ⟨a, 0, 0, ca, hv, fun h => by simp at h, fun i hi => by simp at hi⟩
  · obtain ⟨b, off, cap, hv, hb, hm, hx⟩ := h.iv h0
    exact ⟨_, b, off, cap, hv, fun _ => ⟨rfl, hb, hm⟩, hx⟩
theorem Tryd.infoIntR : (Tryd.prog.info? 3).map (fun i => (i.zero, i.size, i.bytes)) = some (some (.int .i64 0), 1, 8) := by kernel_rfl
theorem ret_vR {g : Value} {a b : Bool} (h : a = b) : Ending.returned (.tuple #[g, .bool a]) = .returned (.tuple #[g, .bool b]) := by rw [h]
theorem ret_ib9 {x y : Int} {a b : Bool} (g : x = y) (h : a = b) : Ending.returned (.tuple #[.int .i64 x, .bool a]) = .returned (.tuple #[.int .i64 y, .bool b]) := by rw [g, h]
theorem ret_bb9 {x y : Bool} {a b : Bool} (g : x = y) (h : a = b) : Ending.returned (.tuple #[.bool x, .bool a]) = .returned (.tuple #[.bool y, .bool b]) := by rw [g, h]
theorem iv_one (l : List Int) (x : Int) : intVs (l ++ [x]) = intVs l ++ [.int .i64 x] := by simp [intVs]
theorem iv_cellR (a : List Int) : ∀ v ∈ intVs a, v.oneCell' = true := by
  intro v hv
  obtain ⟨x, _, rfl⟩ := List.mem_map.1 hv
  rfl
theorem most9_c (a b : Int) (w : World) :
    Calls Tryd.prog 88 #[.int .i64 a, .int .i64 b] w fun e w' => e = .returned (.int .i64 (if b < a then a else b)) ∧ w' = w := by
  by_cases h : b < a
  · rw [if_pos h]
    go_enter Tryd.func88, Tryd.ntmps88
    go_wp2
    go_ret
    exact ⟨rfl, rfl⟩
  · rw [if_neg h]
    go_enter Tryd.func88, Tryd.ntmps88
    go_wp2
    go_ret
    exact ⟨rfl, rfl⟩
theorem own_lit1 (w : World) (v : Value) (e : TypeId) : (w.alloc (.cells #[v] e)).ownsRow w.heap.size e 1 (.slice (some ⟨w.heap.size, 0, none⟩) 1 1) 1 [v] :=
  ⟨by simp, .inr ⟨w.heap.size, 1, #[v], rfl, Nat.le_refl _, heap_alloc_new w _, Nat.le_refl _, by decide, rfl, by simp⟩⟩
end Go.Proofs.YthmoogkllpcebaaDoor
