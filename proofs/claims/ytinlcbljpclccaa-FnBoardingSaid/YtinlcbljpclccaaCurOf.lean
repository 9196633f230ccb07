/- The walks of the cursor's choices among texts. Condition: sizes. -/
import Derived.Test.YtinlcbljpclccaaCurW
namespace Go.Proofs.Ytinlcbljpclccaa
open Go.RowKit
set_option linter.unusedVariables false
/-- What a choice among texts leaves. -/
def OfPost (B b k : Nat) (l : List ByteArray) (w : World) (e : Ending) (w' : World) : Prop := ∃ s : ByteArray, s ∈ l ∧ e = .returned (.string s) ∧ Cur B b (k + 2) w' ∧ w.grownBy w' (some b)
theorem grown_cell {w w' : World} {row : Option Nat} (h : w.grownBy w' row) {p : Addr} {v : Value} (hc : w.cell? p = some v) (hne : some p.block ≠ row) : w'.cell? p = some v := h.cell hc hne
set_option maxHeartbeats 1000000 in
theorem of_any (B b k g n c : Nat) (l : List ByteArray) (w : World) (h : Cur B b k w) (hk : k ≤ 900000000) (hn : l.length = n) (hl : 1 ≤ n) (hl2 : n ≤ 60000) (hg : g ≠ b)
    (hc : ∀ (i : Nat) (h : i < l.length), w.cell? ⟨g, i, none⟩ = some (.string l[i])) :
    Calls Try.prog 59 #[.pointer (some ⟨b, 0, none⟩), .slice (some ⟨g, 0, none⟩) n c] w (OfPost B b k l w) := by
  have HN := Lib.hid hn
  clear hn
  have HH := Lib.hid h
  have HC := Lib.hid hc
  clear h hc
  go_enter Try.func59, Try.ntmps59
  go_wp2_with fail
  refine (pick_any B b k _ _ HH.out hk (by omega) (by omega)).mono ?_
  rintro e w1 ⟨r, rfl, hr, hc1, hg1⟩
  have hrl : r < l.length := by rw [HN.out]; omega
  have hrn : r < n := by omega
  have hx : w1.cell? ⟨g, r, none⟩ = some (.string l[r]) := grown_cell hg1 (HC.out r hrl) (by simp; exact hg)
  have HC1 := Lib.hid hc1
  have HG1 := Lib.hid hg1
  clear hc1 hg1
  go_wp2_with fail
  go_ret
  exact ⟨l[r], List.getElem_mem hrl, rfl, HC1.out, HG1.out⟩
theorem Cur.alloc {B b k : Nat} {w : World} (h : Cur B b k w) (o : Obj) : Cur B b k (w.alloc o) := by
  obtain ⟨hBb, hb, a, len, cap, at', seed, c0, c1, c2, f1, f2, hat, hlen, hcode⟩ := h
  refine ⟨hBb, by simp; omega, a, len, cap, at', seed, ?_, ?_, ?_, ?_, ?_, hat, hlen, ?_⟩
  · rw [World.cell?_alloc_past _ _ _ hb]; exact c0
  · rw [World.cell?_alloc_past _ _ _ hb]; exact c1
  · rw [World.cell?_alloc_past _ _ _ hb]; exact c2
  · rw [World.frozen?_alloc_past _ _ _ hb]; exact f1
  · rw [World.frozen?_alloc_past _ _ _ hb]; exact f2
  · intro i hi
    obtain ⟨c, o', x, h1, h2, h3, h4⟩ := hcode i hi
    exact ⟨c, o', x, h1, h2, h3, by rw [World.cell?_alloc_past _ _ _ (by show c < _; omega)]; exact h4⟩
theorem list_cells (w : World) (t : TypeId) (l : List ByteArray) (cs : Array Value) (hcs : cs = (l.map Value.string).toArray) :
    ∀ (i : Nat) (h : i < l.length), (w.alloc (.cells cs t)).cell? ⟨w.heap.size, i, none⟩ = some (.string l[i]) := by
  intro i h
  subst hcs
  rw [World.cell?_alloc_at _ _ _ _ rfl]
  simp [h]
def any1L : List ByteArray := [⟨#[]⟩, ⟨#[97]⟩, ⟨#[97, 44, 98]⟩, ⟨#[115, 111, 109, 101, 32, 119, 111, 114, 100, 115]⟩, ⟨#[120, 35, 121]⟩, ⟨#[45, 49, 50]⟩, ⟨#[0, 255]⟩, ⟨#[44, 44]⟩, ⟨#[48]⟩]
theorem any1_size : ∀ s ∈ any1L, s.size ≤ 10 := by decide
end Go.Proofs.Ytinlcbljpclccaa
