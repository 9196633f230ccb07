/- The text of a support, and of a line. Condition: the table of the library's is as laid. -/
import Derived.Test.YtiogjocbiagipabDoorFmtW
import Derived.Test.YtiogjocbiagipabDoorLineMath
import Derived.Deep.RegionWith
import Derived.Deep.RegionHeld3
namespace Go.Proofs.YtiogjocbiagipabDoor
open Go.RowKit
set_option linter.unusedVariables false
def supK (x : Sup) : ByteArray := if x.s then ⟨#[83]⟩ else ⟨#[84]⟩
/-- The text of a support. -/
def supT (x : Sup) : ByteArray := supK x ++ num x.a ++ (⟨#[58]⟩ : ByteArray) ++ num x.h
theorem itoa_c (n : Int) (w : World) (h0 : -9223372036854775808 ≤ n) (h1 : n ≤ 9223372036854775807) (ht : TabP w) :
    Calls Tryd.prog 54 #[.int .i64 n] w fun e w' => e = .returned (.string (num n)) ∧ Below w.heap.size w w' :=
  (Tryd.strconv_Itoa n h0 h1 w ht).mono fun _ _ ⟨he, k, os, hw⟩ => ⟨he, by rw [hw]; exact below_grow _ _ _⟩
theorem num_place {n : Int} (h0 : 0 ≤ n) (h1 : n ≤ 3000) : 1 ≤ (num n).size ∧ (num n).size ≤ 4 := by
  have := num_len 3 n h0 (by omega)
  omega
theorem bcell {W w1 : World} (hb : Below W.heap.size W w1) : (∀ b o, b < W.heap.size → w1.cell? ⟨b, o, none⟩ = W.cell? ⟨b, o, none⟩) :=
  fun b o h => hb.cell (p := ⟨b, o, none⟩) h
end Go.Proofs.YtiogjocbiagipabDoor
