/- Common parts of the draws. Condition: sizes. -/
import Derived.Test.YtinlcbljpclccaaDrawBase
import Derived.Test.YtinlcbljpclccaaCurAm
import Derived.Test.YtinlcbljpclccaaRs
import Derived.Deep.DeepCutAuto
namespace Go.Proofs.Ytinlcbljpclccaa
open Go.RowKit
set_option linter.unusedVariables false
theorem num_part (w : World) (t : TypeId) (l : List Int) (n : Nat) (cs : Array Value) (hcs : cs = (l.map (Value.int .i64)).toArray) (W : World) (b : Nat) (hg : (w.alloc (.cells cs t)).grownBy W (some b)) (hb : w.heap.size ≠ b) :
    ∀ (i : Nat) (h : i < (l.take n).length), W.cell? ⟨w.heap.size, i, none⟩ = some (.int .i64 (l.take n)[i]) := by
  intro i h
  have h2 : i < l.length := by rw [List.length_take] at h; omega
  have h1 := num_cells w t l cs hcs i h2
  rw [List.getElem_take]
  exact grown_cell hg h1 (by simp; exact hb)
theorem keepD {W W' : World} {b g : Nat} {o : Obj} (hg : W.grownBy W' (some b)) (hne : g ≠ b) (h : W.heap[g]? = some o) : W'.heap[g]? = some o :=
  (hg.block g ((Array.getElem?_eq_some_iff.1 h).1) (fun e => hne (Option.some.inj e))).trans h
theorem cur_at {w : World} {a : Option Addr} {len cap : Nat} (h : ByteRow w a len) (t : TypeId) {n : Nat} (hn : n = w.heap.size) : Cur n n 0 (w.alloc (.cells #[.slice a len cap, .int .i64 0, .int .u64 0] t)) := by subst hn; exact cur_new h t
theorem rs_grownD {w w' : World} {S n : Nat} {v : Value} {xs : List Value} (h : Rs w v n xs) (hg : w.grownBy w' (some S)) (hb : ∀ j, v.ownBlock = some j → j ≠ S) : Rs w' v n xs := by
  rcases h with ⟨rfl, h⟩ | ⟨b, off, cap, rfl, hlt, hm, hc⟩
  · exact .inl ⟨rfl, h⟩
  · have hne : b ≠ S := hb b rfl
    exact .inr ⟨b, off, cap, rfl, Nat.lt_of_lt_of_le hlt hg.size, hm, fun i u hi => grown_cell hg (hc i u hi) (by simp; exact hne)⟩
theorem results_tmp4 {fn : Func} {t u v x : Tmp} (h : fn.results = #[.tmp t, .tmp u, .tmp v, .tmp x]) (tmps : Array Value) (P : Program) (w : World) :
    (results fn tmps).run P w = .ok (.tuple #[tmps.getD t undef, tmps.getD u undef, tmps.getD v undef, tmps.getD x undef]) w := by
  simp [results, h]
theorem sel3 (r : Nat) (hr : (r : Int) < 24) : ∃ c n : Nat, (3 ≤ n ∧ n ≤ 5) ∧ Int.tdiv (r : Int) 11 = (c : Int) ∧ IntKind.i64.wrap (c : Int) = (c : Int) ∧ IntKind.i64.wrap (3 + (c : Int)) = (n : Int) := by
  refine ⟨r / 11, 3 + r / 11, by omega, by rw [Int.tdiv_eq_ediv_of_nonneg (by omega)]; omega, IntWalk.i64_in _ (by omega), ?_⟩
  rw [IntWalk.i64_in _ (by omega)]
  omega
theorem sel4 (r : Nat) (hr : (r : Int) < 24) : ∃ c n : Nat, (4 ≤ n ∧ n ≤ 6) ∧ Int.tdiv (r : Int) 11 = (c : Int) ∧ IntKind.i64.wrap (c : Int) = (c : Int) ∧ IntKind.i64.wrap (4 + (c : Int)) = (n : Int) := by
  refine ⟨r / 11, 4 + r / 11, by omega, by rw [Int.tdiv_eq_ediv_of_nonneg (by omega)]; omega, IntWalk.i64_in _ (by omega), ?_⟩
  rw [IntWalk.i64_in _ (by omega)]
  omega
theorem sel5 (r : Nat) (hr : (r : Int) < 24) : ∃ c n : Nat, (5 ≤ n ∧ n ≤ 7) ∧ Int.tdiv (r : Int) 11 = (c : Int) ∧ IntKind.i64.wrap (c : Int) = (c : Int) ∧ IntKind.i64.wrap (5 + (c : Int)) = (n : Int) := by
  refine ⟨r / 11, 5 + r / 11, by omega, by rw [Int.tdiv_eq_ediv_of_nonneg (by omega)]; omega, IntWalk.i64_in _ (by omega), ?_⟩
  rw [IntWalk.i64_in _ (by omega)]
  omega
theorem sel6 (r : Nat) (hr : (r : Int) < 24) : ∃ c n : Nat, (6 ≤ n ∧ n ≤ 8) ∧ Int.tdiv (r : Int) 11 = (c : Int) ∧ IntKind.i64.wrap (c : Int) = (c : Int) ∧ IntKind.i64.wrap (6 + (c : Int)) = (n : Int) := by
  refine ⟨r / 11, 6 + r / 11, by omega, by rw [Int.tdiv_eq_ediv_of_nonneg (by omega)]; omega, IntWalk.i64_in _ (by omega), ?_⟩
  rw [IntWalk.i64_in _ (by omega)]
  omega
end Go.Proofs.Ytinlcbljpclccaa
