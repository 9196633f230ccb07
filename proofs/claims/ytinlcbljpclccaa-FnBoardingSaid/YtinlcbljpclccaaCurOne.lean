/- More of the drawing cursor: a new one, a choice of yes or no, texts of zeros. Condition: sizes. -/
import Derived.Test.YtinlcbljpclccaaCurW
import Derived.Test.YtinlcbljpclccaaByteRow
import Derived.Laws.IdiomStrings
import Derived.Laws.MakeOwn
import Derived.Laws.OwnMore
namespace Go.Proofs.Ytinlcbljpclccaa
open Go.RowKit
set_option linter.unusedVariables false
/-- A new cursor over the code that came in. -/
theorem cur_new {w : World} {a : Option Addr} {len cap : Nat} (h : ByteRow w a len) (t : TypeId) :
    Cur w.heap.size w.heap.size 0 (w.alloc (.cells #[.slice a len cap, .int .i64 0, .int .u64 0] t)) := by
  refine ⟨Nat.le_refl _, by simp, a, len, cap, 0, 0, ?_, ?_, ?_, ?_, ?_, Nat.le_refl _, h.1, ?_⟩
  · rw [World.cell?_alloc_at _ _ _ _ rfl]; rfl
  · rw [World.cell?_alloc_at _ _ _ _ rfl]; rfl
  · rw [World.cell?_alloc_at _ _ _ _ rfl]; rfl
  · exact World.frozen?_alloc_at _ _ _ _ rfl
  · exact World.frozen?_alloc_at _ _ _ _ rfl
  · intro i hi
    obtain ⟨c, o, x, h1, h2, h3, h4⟩ := h.2 i hi
    exact ⟨c, o, x, h1, h2, h3, by rw [World.cell?_alloc_past _ _ _ h2]; exact h4⟩
theorem Cur.grown {B b k : Nat} {w w' : World} {row : Option Nat} (h : Cur B b k w) (hg : w.grownBy w' row) (hr : ∀ j, row = some j → b < j) : Cur B b k w' := by
  obtain ⟨hBb, hb, a, len, cap, at', seed, c0, c1, c2, f1, f2, hat, hlen, hcode⟩ := h
  have hne : ∀ j, j ≤ b → some j ≠ row := fun j hj e => by have := hr j e.symm; omega
  refine ⟨hBb, Nat.lt_of_lt_of_le hb hg.size, a, len, cap, at', seed, hg.cell c0 (hne b (Nat.le_refl _)), hg.cell c1 (hne b (Nat.le_refl _)), hg.cell c2 (hne b (Nat.le_refl _)), ?_, ?_, hat, hlen, ?_⟩
  · rw [World.frozen?_of_block (w := w) (a := ⟨b, 1, none⟩) (hg.block b hb (hne b (Nat.le_refl _)))]; exact f1
  · rw [World.frozen?_of_block (w := w) (a := ⟨b, 2, none⟩) (hg.block b hb (hne b (Nat.le_refl _)))]; exact f2
  · intro i hi
    obtain ⟨c, o, x, h1, h2, h3, h4⟩ := hcode i hi
    exact ⟨c, o, x, h1, h2, h3, hg.cell h4 (hne c (by omega))⟩
/-- What one leaves. -/
def OnePost (B b k : Nat) (w : World) (e : Ending) (w' : World) : Prop := ∃ p : Bool, e = .returned (.bool p) ∧ Cur B b (k + 2) w' ∧ w.grownBy w' (some b)
set_option maxHeartbeats 400000 in
theorem one_any (B b k : Nat) (n : Int) (w : World) (h : Cur B b k w) (hk : k ≤ 900000000) (hn : 1 ≤ n) (hn2 : n ≤ 60000) :
    Calls Try.prog 48 #[.pointer (some ⟨b, 0, none⟩), .int .i64 n] w (OnePost B b k w) := by
  have HH := Lib.hid h
  clear h
  go_enter Try.func48, Try.ntmps48
  go_wp2_with fail
  refine (pick_any B b k _ _ HH.out hk hn hn2).mono ?_
  rintro e w1 ⟨r, rfl, hr, hc1, hg1⟩
  have HC1 := Lib.hid hc1
  have HG1 := Lib.hid hg1
  clear hc1 hg1
  go_wp2_with fail
  go_ret
  exact ⟨_, rfl, HC1.out, HG1.out⟩
theorem Try.infoByte : (Try.prog.info? 5).map (fun i => (i.zero, i.size, i.bytes)) = some (some (.int .u8 0), 1, 1) := by kernel_rfl
/-- A text of n bytes 0. -/
def zeros (n : Nat) : ByteArray := ⟨(List.replicate n (0 : UInt8)).toArray⟩
theorem zeros_size (n : Nat) : (zeros n).size = n := by
  show (List.replicate n (0 : UInt8)).toArray.size = n
  simp
theorem zeros_conv (P : Program) (w : World) (src dst e B n : Nat) (hs : P.underlying src = some (.slice e)) (he : P.underlying e = some (.int .u8)) (hd : P.underlying dst = some .string)
    (g : Nat) (ho : w.ownsRow B e 1 (.slice (some ⟨g, 0, none⟩) n n) n (madeCells (Value.int .u8 0).cells (n * 1)).toList) :
    (convert src dst (.slice (some ⟨g, 0, none⟩) n n)).run P w = .ok (.string (zeros n)) w := by
  have h := run_convert_bytes_back (P := P) w src dst e ⟨g, 0, none⟩ n (List.replicate n (0 : UInt8)) hs he hd (fun j hj => by
    have hj' : j < n := by simpa using hj
    have e1 : (⟨g, 0, none⟩ : Addr).add j = ⟨g, j, none⟩ := by
      unfold Addr.add; split
      · rename_i hz; rw [hz]
      · simp
    rw [e1, ho.cellAt j (by omega)]
    have e2 : (Value.int .u8 0).cells = #[Value.int .u8 0] := rfl
    rw [e2, toList_madeCells_one]
    simp [hj'])
  simpa [zeros] using h
theorem own_grown {w w' : World} {B e size n : Nat} {v : Value} {xs : List Value} (h : w.ownsRow B e size v n xs) (hg : w.grownBy w' none) : w'.ownsRow B e size v n xs :=
  own_below h ⟨hg.os, hg.tape, hg.output, hg.size, fun k hk => hg.block k hk (by simp)⟩
end Go.Proofs.Ytinlcbljpclccaa
