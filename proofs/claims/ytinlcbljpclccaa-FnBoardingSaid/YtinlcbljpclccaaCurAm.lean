/- The walks of the cursor's choices among numbers. Condition: sizes. -/
import Derived.Test.YtinlcbljpclccaaCurOf
import Derived.Test.YtinlcbljpclccaaCurOne
namespace Go.Proofs.Ytinlcbljpclccaa
open Go.RowKit
set_option linter.unusedVariables false
/-- What a choice among numbers leaves. -/
def AmPost (B b k : Nat) (l : List Int) (w : World) (e : Ending) (w' : World) : Prop := ∃ x : Int, x ∈ l ∧ e = .returned (.int .i64 x) ∧ Cur B b (k + 2) w' ∧ w.grownBy w' (some b)
set_option maxHeartbeats 1000000 in
theorem among_any (B b k g n c : Nat) (l : List Int) (w : World) (h : Cur B b k w) (hk : k ≤ 900000000) (hn : l.length = n) (hl : 1 ≤ n) (hl2 : n ≤ 60000) (hg : g ≠ b)
    (hc : ∀ (i : Nat) (h : i < l.length), w.cell? ⟨g, i, none⟩ = some (.int .i64 l[i])) :
    Calls Try.prog 64 #[.pointer (some ⟨b, 0, none⟩), .slice (some ⟨g, 0, none⟩) n c] w (AmPost B b k l w) := by
  have HN := Lib.hid hn
  clear hn
  have HH := Lib.hid h
  have HC := Lib.hid hc
  clear h hc
  go_enter Try.func64, Try.ntmps64
  go_wp2_with fail
  refine (pick_any B b k _ _ HH.out hk (by omega) (by omega)).mono ?_
  rintro e w1 ⟨r, rfl, hr, hc1, hg1⟩
  have hrl : r < l.length := by rw [HN.out]; omega
  have hrn : r < n := by omega
  have hx : w1.cell? ⟨g, r, none⟩ = some (.int .i64 l[r]) := grown_cell hg1 (HC.out r hrl) (by simp; exact hg)
  have HC1 := Lib.hid hc1
  have HG1 := Lib.hid hg1
  clear hc1 hg1
  go_wp2_with fail
  go_ret
  exact ⟨l[r], List.getElem_mem hrl, rfl, HC1.out, HG1.out⟩
theorem num_cells (w : World) (t : TypeId) (l : List Int) (cs : Array Value) (hcs : cs = (l.map (Value.int .i64)).toArray) :
    ∀ (i : Nat) (h : i < l.length), (w.alloc (.cells cs t)).cell? ⟨w.heap.size, i, none⟩ = some (.int .i64 l[i]) := by
  intro i h
  subst hcs
  rw [World.cell?_alloc_at _ _ _ _ rfl]
  simp [h]
/-! What a drawing function keeps: the cursor, and a row of its own above the cursor's block. -/
structure St (e : TypeId) (sz B b k : Nat) (w W : World) (v : Value) (n : Nat) (xs : List Value) : Prop where
  cur : Cur B b k W
  own : W.ownsRow w.heap.size e sz v n xs
  gr : w.grownBy W (some b)
  lt : b < w.heap.size
section
variable {e : TypeId} {sz B b k n : Nat} {w W W' : World} {v : Value} {xs : List Value}
theorem St.ne (h : St e sz B b k w W v n xs) : v.ownBlock = none ∨ v.ownBlock ≠ some b := by
  cases hv : v.ownBlock with
  | none => exact .inl rfl
  | some j =>
    refine .inr (fun e => ?_)
    have h1 := (h.own.lt j hv).1
    have h2 := h.lt
    cases e
    omega
theorem St.alloc (h : St e sz B b k w W v n xs) (o : Obj) : St e sz B b k w (W.alloc o) v n xs :=
  ⟨h.cur.alloc o, h.own.alloc o, grown_trans h.gr (World.grownBy_alloc W o (some b)), h.lt⟩
theorem St.call {k' : Nat} (h : St e sz B b k w W v n xs) (hc : Cur B b k' W') (hg : W.grownBy W' (some b)) : St e sz B b k' w W' v n xs :=
  ⟨hc, h.own.kept hg h.ne, grown_trans h.gr hg, h.lt⟩
theorem St.size (h : St e sz B b k w W v n xs) : w.heap.size ≤ W.heap.size := h.gr.size
theorem St.more {k' : Nat} (h : St e sz B b k w W v n xs) (hk : k ≤ k') : St e sz B b k' w W v n xs := ⟨h.cur.mono hk, h.own, h.gr, h.lt⟩
theorem St.drew (h : St e sz B b k w W v n xs) (m : Nat) : St e sz B b k w (W.drewN m) v n xs :=
  ⟨h.cur.grown (grown_drew W m none) (fun j e => by cases e), h.own, grown_trans h.gr (grown_drew W m _), h.lt⟩
/-- The row has grown, in place or anew. -/
theorem St.app {v' : Value} {n' : Nat} {xs' : List Value} (h : St e sz B b k w W v n xs) (hown : W'.ownsRow w.heap.size e sz v' n' xs') (hg : W.grownBy W' v.ownBlock) : St e sz B b k w W' v' n' xs' := by
  refine ⟨h.cur.grown hg (fun j hj => Nat.lt_of_lt_of_le h.lt (h.own.lt j hj).1), hown, ?_, h.lt⟩
  exact ⟨hg.os.trans h.gr.os, hg.tape.trans h.gr.tape, hg.output.trans h.gr.output, Nat.le_trans h.gr.size hg.size, fun i hi hr => (hg.block i (Nat.lt_of_lt_of_le hi h.gr.size) (fun e => by
    have h1 := (h.own.lt i e.symm).1
    omega)).trans (h.gr.block i hi hr)⟩
end
end Go.Proofs.Ytinlcbljpclccaa
