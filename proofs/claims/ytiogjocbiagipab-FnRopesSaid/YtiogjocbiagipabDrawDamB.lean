/- What the law FnDamages draws. Condition: sizes. -/
import Derived.Test.YtiogjocbiagipabDrawDmgs
import Derived.Test.YtiogjocbiagipabBig
namespace Go.Proofs.Ytiogjocbiagipab
open Go.RowKit
set_option linter.unusedVariables false
theorem cur_at {w : World} {a : Option Addr} {len cap : Nat} (h : ByteRow w a len) (t : TypeId) {n : Nat} (hn : n = w.heap.size) : Cur n n 0 (w.alloc (.cells #[.slice a len cap, .int .i64 0, .int .u64 0] t)) := by subst hn; exact cur_new h t
theorem rs_grownD {w w' : World} {S n : Nat} {v : Value} {xs : List Value} (h : Rs w v n xs) (hg : w.grownBy w' (some S)) (hb : ∀ j, v.ownBlock = some j → j ≠ S) : Rs w' v n xs := by
  rcases h with ⟨rfl, h⟩ | ⟨b, off, cap, rfl, hlt, hm, hc⟩
  · exact .inl ⟨rfl, h⟩
  · have hne : b ≠ S := hb b rfl
    exact .inr ⟨b, off, cap, rfl, Nat.lt_of_lt_of_le hlt hg.size, hm, fun i u hi => grown_cell hg (hc i u hi) (by simp; exact hne)⟩
theorem StD.blk {B b k : Nat} {w W : World} {v : Value} {l : List Dmg} (h : StD B b k w W v l) : ∀ j, v.ownBlock = some j → b < j := fun j hj => by
  have h1 := (h.own.lt j hj).1
  have h2 := h.lt
  omega
theorem setO {W : World} {S T i : Nat} {v : Value} {o : Obj} (hne : S ≠ T) (h : W.heap[S]? = some o) : (W.setCell ⟨T, i, none⟩ v).heap[S]? = some o := by
  simp only [World.setCell, Array.getElem?_modify]
  rw [if_neg (by show ¬ T = S; omega)]
  exact h
/-- What drawing a kind alone leaves, a kind with damages, and with a damage more. -/
def K1Post (w : World) (e : Ending) (w' : World) : Prop := ∃ x : RK, e = .returned x.agg ∧ Below w.heap.size w w'
def K2Post (w : World) (e : Ending) (w' : World) : Prop := ∃ (x : RK) (v : Value) (l : List Dmg), e = .returned (.tuple #[x.agg, v]) ∧ Rs w' v l.length (dmgs l) ∧ l.length ≤ 17 ∧ (∀ j, v.ownBlock = some j → w.heap.size ≤ j) ∧ Below w.heap.size w w'
def K3Post (w : World) (e : Ending) (w' : World) : Prop := ∃ (x : RK) (v : Value) (l : List Dmg) (d : Dmg), e = .returned (.tuple #[x.agg, v, .agg #[.int .i64 d.a, .int .i64 d.s, .int .i64 d.w]]) ∧ (∃ B, w'.ownsRow B 34 3 v l.length (dmgs l)) ∧ l.length ≤ 17 ∧ d.wf ∧ Below w.heap.size w w'
end Go.Proofs.Ytiogjocbiagipab
