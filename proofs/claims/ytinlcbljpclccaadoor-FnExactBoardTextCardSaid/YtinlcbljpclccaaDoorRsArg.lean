/- Slices of structs that came in, as a reader needs them. No condition. -/
import Derived.Test.YtinlcbljpclccaaDoorRows
import Derived.Test.YtinlcbljpclccaaDoorRs
import Derived.ProofKit
import Derived.Deep.Slices
namespace Go.Proofs.YtinlcbljpclccaaDoor
open Go.RowKit Go.ChangeShapes Go.WideShapes Go.Deep
set_option linter.unusedVariables false
theorem block_of_cell {w : World} {a : Addr} {v : Value} (h : w.cell? a = some v) : a.block < w.heap.size := by
  unfold World.cell? at h
  cases hb : w.heap[a.block]? with
  | none => simp [hb] at h
  | some o => exact (Array.getElem?_eq_some_iff.1 hb).1
theorem rs_arg {H : Type} {enc' : TypeId × Value → H} {P : Program} {w : World} {base : Nat} {spare : Nat → Bool} {held : Bool} {α : Type} [Inhabited α] {enc : α → List Value} {sz : Nat} (henc : ∀ x, (enc x).length = sz) (hsz : 0 < sz) (Q : α → Prop)
    {t e : TypeId} {fuel : Nat} {x : DataW H × List MemPlace} (ht : P.underlying t = some (.slice e)) (hC : P.cellsOf e = sz)
    (hel : ∀ n cs y, DataW.trod enc' P w base spare held n e cs = some y → ∃ z : α, cs = enc z ∧ Q z)
    {a : Option Addr} {len cap : Nat} (h : DataW.trod enc' P w base spare held fuel t [.slice a len cap] = some x) :
    ∃ l : List α, l.length = len ∧ Rs w (.slice a len cap) l.length (flat enc l) ∧ (∀ z ∈ l, Q z) ∧ l.length ≤ maxLen := by
  rcases open_slice ht h with ⟨h0, _⟩ | ⟨b, len', cap', m, n, D, Pl, hcs, hb, hl, hm, hmm, hx, hi⟩
  · simp at h0
    obtain ⟨rfl, rfl, rfl⟩ := h0
    exact ⟨[], rfl, .inl ⟨rfl, _, _, rfl⟩, by simp, by simp⟩
  · simp at hcs
    obtain ⟨rfl, rfl, rfl⟩ := hcs
    have hlm : len ≤ m := by rw [hmm]; split <;> omega
    obtain ⟨f, hf⟩ := choose_lt (α := α) (n := len) (p := fun i z => (∀ j, j < sz → w.cell? (b.add (i * sz + j)) = (enc z)[j]?) ∧ Q z) (fun i hil => by
      obtain ⟨cs', hc, ht'⟩ := hi i (by omega)
      obtain ⟨z, rfl, hq⟩ := hel _ _ _ ht'
      obtain ⟨_, hcl, hat⟩ := World.cells?_some hc
      rw [hC] at hat
      exact ⟨z, fun j hj => by rw [← Go.Deep.add_add]; exact hat j hj, hq⟩)
    have hll : ((List.range len).map f).length = len := by simp
    refine ⟨(List.range len).map f, hll, ?_, fun z hz => ?_, by rw [hll]; omega⟩
    · rw [hll]
      by_cases h0 : len = 0
      · subst h0; exact .inl ⟨rfl, _, _, rfl⟩
      · have hc0 := (hf 0 (by omega)).1 0 hsz
        obtain ⟨u0, hu0⟩ : ∃ u, (enc (f 0))[0]? = some u := ⟨_, List.getElem?_eq_getElem (by rw [henc]; exact hsz)⟩
        rw [hu0] at hc0
        obtain ⟨bb, off, spot⟩ := b
        have hspot : spot = none := by simpa [Addr.add] using World.cell?_spot hc0
        subst hspot
        refine .inr ⟨bb, off, cap, rfl, by simpa [Addr.add] using block_of_cell hc0, ⟨hl, by omega⟩, fun i u hu => ?_⟩
        have hil : i < len * sz := by have := (List.getElem?_eq_some_iff.1 hu).1; rw [flat_len henc, hll] at this; exact this
        have hdiv : i / sz < len := by rw [Nat.div_lt_iff_lt_mul hsz]; exact hil
        have hmod : i % sz < sz := Nat.mod_lt _ hsz
        have hsplit : i / sz * sz + i % sz = i := by rw [Nat.mul_comm]; exact Nat.div_add_mod i sz
        have h1 := flat_at henc default ((List.range len).map f) (i / sz) (i % sz) (by rw [hll]; exact hdiv) hmod
        rw [hsplit, hu] at h1
        have h2 := (hf (i / sz) hdiv).1 (i % sz) hmod
        rw [hsplit] at h2
        have e : (⟨bb, off, none⟩ : Addr).add i = ⟨bb, off + i, none⟩ := by
          unfold Addr.add; split
          · rename_i hz; rw [hz]; rfl
          · rfl
        rw [e] at h2
        rw [h2, h1]
        simp [List.getD, hdiv]
    · obtain ⟨i, hi', rfl⟩ := List.mem_map.1 hz
      exact (hf i (List.mem_range.1 hi')).2
end Go.Proofs.YtinlcbljpclccaaDoor
