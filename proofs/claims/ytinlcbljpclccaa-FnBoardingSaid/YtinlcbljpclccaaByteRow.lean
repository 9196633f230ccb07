/- A []byte that came in, as a reader needs it. No condition. -/
import Derived.Test.YtinlcbljpclccaaRows
import Derived.Test.YtinlcbljpclccaaRdArg
import Derived.OpenShut
namespace Go.Proofs.Ytinlcbljpclccaa
open Go.RowKit
set_option linter.unusedVariables false
/-- The first len cells of the slice are bytes, in one block. -/
def ByteRow (w : World) (a : Option Addr) (len : Nat) : Prop := len ≤ 9223372036854775807 ∧ ∀ i, i < len → ∃ (c : Nat) (o : Nat) (x : Nat), a = some ⟨c, o, none⟩ ∧ c < w.heap.size ∧ x ≤ 255 ∧ w.cell? ⟨c, o + i, none⟩ = some (.int .u8 (x : Int))
theorem byteRow_nil (w : World) : ByteRow w none 0 := ⟨by omega, fun i hi => by omega⟩
theorem byteRow_of (w : World) (a : Addr) (len cap : Nat) (zs : List Int) (hl : len ≤ cap) (hm : cap ≤ maxLen) (hz : zs.length = cap)
    (hc : ∀ i, i < zs.length → w.cell? (a.add i) = some (.int .u8 (zs.getD i 0))) (hw : ∀ n ∈ zs, (Lit.int .u8 n).wf = true) : ByteRow w (some a) len := by
  unfold maxLen at hm
  refine ⟨by omega, fun i hi => ?_⟩
  have hc0 := hc 0 (by omega)
  have hb := cell_block hc0
  obtain ⟨b, off, spot⟩ := a
  have hspot : spot = none := by simpa [Addr.add] using World.cell?_spot hc0
  subst hspot
  have hci := hc i (by omega)
  have e : (⟨b, off, none⟩ : Addr).add i = ⟨b, off + i, none⟩ := by
    unfold Addr.add; split
    · rename_i hz; rw [hz]; rfl
    · rfl
  rw [e] at hci
  have hmem : zs.getD i 0 ∈ zs := by
    rw [List.getD_eq_getElem?_getD, List.getElem?_eq_getElem (by omega)]
    exact List.getElem_mem _
  have hbd := bounds_u8 (hw _ hmem)
  refine ⟨b, off, (zs.getD i 0).toNat, rfl, by simpa [Addr.add] using hb, by omega, ?_⟩
  rw [hci, Int.toNat_of_nonneg hbd.1]
end Go.Proofs.Ytinlcbljpclccaa
