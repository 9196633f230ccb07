/- The walks of the cursor's choices among texts. Condition: sizes. -/
import Derived.Test.YtinlcbljpclccaaDoorCurW
namespace Go.Proofs.YtinlcbljpclccaaDoor
open Go.RowKit
set_option linter.unusedVariables false
/-- What a choice among texts leaves. -/
def OfPost (B b k : Nat) (l : List ByteArray) (w : World) (e : Ending) (w' : World) : Prop := ∃ s : ByteArray, s ∈ l ∧ e = .returned (.string s) ∧ Cur B b (k + 2) w' ∧ w.grownBy w' (some b)
theorem grown_cell {w w' : World} {row : Option Nat} (h : w.grownBy w' row) {p : Addr} {v : Value} (hc : w.cell? p = some v) (hne : some p.block ≠ row) : w'.cell? p = some v := h.cell hc hne
theorem Cur.alloc {B b k : Nat} {w : World} (h : Cur B b k w) (o : Obj) : Cur B b k (w.alloc o) := by
  obtain ⟨hBb, hb, a, len, cap, at', seed, c0, c1, c2, f1, f2, hat, hlen, hcode⟩ := h
  refine ⟨hBb, by simp; omega, a, len, cap, at', seed, ?_, ?_, ?_, ?_, ?_, hat, hlen, ?_⟩
  · rw [World.cell?_alloc_past _ _ _ hb]; exact c0
  · rw [World.cell?_alloc_past _ _ _ hb]; exact c1
  · rw [World.cell?_alloc_past _ _ _ hb]; exact c2
  · rw [World.frozen?_alloc_past _ _ _ hb]; exact f1
  · rw [World.frozen?_alloc_past _ _ _ hb]; exact f2
  · intro i hi
    obtain ⟨c, o', x, h1, h2, h3, h4⟩ := hcode i hi
    exact ⟨c, o', x, h1, h2, h3, by rw [World.cell?_alloc_past _ _ _ (by show c < _; omega)]; exact h4⟩
theorem list_cells (w : World) (t : TypeId) (l : List ByteArray) (cs : Array Value) (hcs : cs = (l.map Value.string).toArray) :
    ∀ (i : Nat) (h : i < l.length), (w.alloc (.cells cs t)).cell? ⟨w.heap.size, i, none⟩ = some (.string l[i]) := by
  intro i h
  subst hcs
  rw [World.cell?_alloc_at _ _ _ _ rfl]
  simp [h]
def any1L : List ByteArray := [⟨#[]⟩, ⟨#[97]⟩, ⟨#[97, 44, 98]⟩, ⟨#[115, 111, 109, 101, 32, 119, 111, 114, 100, 115]⟩, ⟨#[120, 35, 121]⟩, ⟨#[45, 49, 50]⟩, ⟨#[0, 255]⟩, ⟨#[44, 44]⟩, ⟨#[48]⟩]
theorem any1_size : ∀ s ∈ any1L, s.size ≤ 10 := by decide
end Go.Proofs.YtinlcbljpclccaaDoor
