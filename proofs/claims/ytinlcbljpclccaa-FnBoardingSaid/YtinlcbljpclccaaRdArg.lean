/- Slices of strings that came in, as a reader needs them. No condition. -/
import Derived.Test.YtinlcbljpclccaaRows
import Derived.Test.YtinlcbljpclccaaRd
import Derived.ProofKit
import Derived.SliceStrings
namespace Go.Proofs.Ytinlcbljpclccaa
open Go.RowKit
set_option linter.unusedVariables false
theorem cell_block {w : World} {a : Addr} {v : Value} (h : w.cell? a = some v) : a.block < w.heap.size := by
  unfold World.cell? at h
  cases hb : w.heap[a.block]? with
  | none => simp [hb] at h
  | some o => exact (Array.getElem?_eq_some_iff.1 hb).1
theorem rd_arg {w : World} (a : Addr) (len cap : Nat) (ss : List ByteArray) (h1 : len ≤ ss.length) (h2 : len ≤ cap) (h3 : cap ≤ maxLen)
    (hc : ∀ i, i < ss.length → w.cell? (a.add i) = some (.string (ss.getD i ByteArray.empty))) : Rd w (.slice (some a) len cap) ((ss.take len).map Value.string) := by
  by_cases h0 : len = 0
  · subst h0; exact .inl ⟨by simp, _, _, rfl⟩
  · have hc0 := hc 0 (by omega)
    obtain ⟨b, off, spot⟩ := a
    have hspot : spot = none := by simpa [Addr.add] using World.cell?_spot hc0
    subst hspot
    have hl : ((ss.take len).map Value.string).length = len := by simp; omega
    refine .inr ⟨b, off, cap, by rw [hl], ?_, by rw [hl]; omega, fun i u hu => ?_⟩
    · have := cell_block hc0
      simpa [Addr.add] using this
    · have hi : i < len := by have := (List.getElem?_eq_some_iff.1 hu).1; omega
      have hci := hc i (by omega)
      have e : (⟨b, off, none⟩ : Addr).add i = ⟨b, off + i, none⟩ := by
        unfold Addr.add; split
        · rename_i hz; rw [hz]; rfl
        · rfl
      rw [e] at hci
      rw [hci]
      have : ss[i]? = some (ss.getD i ByteArray.empty) := by
        rw [List.getD_eq_getElem?_getD, List.getElem?_eq_getElem (by omega)]; rfl
      rw [List.getElem?_map, List.getElem?_take, if_pos hi, this] at hu
      exact hu
end Go.Proofs.Ytinlcbljpclccaa
