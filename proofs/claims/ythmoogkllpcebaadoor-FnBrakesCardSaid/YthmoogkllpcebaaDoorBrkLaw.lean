/- What the laws of the brakes ask of safe speeds, worst pulls and worst losses. No condition. -/
import Derived.Test.YthmoogkllpcebaaDoorBrkP
namespace Go.Proofs.YthmoogkllpcebaaDoor
open Go.RowKit
set_option linter.unusedVariables false
theorem blk_kept {w w' : World} {b : Nat} {o : Obj} (h : w.heap[b]? = some o) (k : Below w.heap.size w w') : w'.heap[b]? = some o := blk_keep h k (blk_lt h)
theorem named10 {a w' : World} {B : Nat} (h : Hid (Below B a w')) : ∃ W : World, W = w' := ⟨_, rfl⟩
theorem ss_bd (L S : Int) (l : List Brk) (y : Int) : 0 ≤ ssV L S l y ∧ ssV L S l y ≤ 100 := by
  unfold ssV
  split
  · have := runC_le (ssF L S l y) 100
    omega
  · omega
/-- Each speed up to the safe one stops within the way. -/
theorem ss_keeps {L S : Int} {l : List Brk} {y : Int} {v : Nat} (h1 : 1 ≤ v) (h : (v : Int) ≤ ssV L S l y) : sw10 L S l (v : Int) (full10 l.length) = true ∧ wy10 L S l (v : Int) (full10 l.length) ≤ y := by
  cases hok : ssOk L S l y with
  | false => rw [ss_no hok] at h; omega
  | true =>
    rw [ss_yes hok] at h
    have hd : drvOk L S l = true := by unfold ssOk at hok; simp at hok; exact hok.1
    have hle := runC_le (ssF L S l y) 100
    have hg := runC_good (f := ssF L S l y) (n := 100) (j := v) (by omega) (by omega)
    unfold ssF at hg
    rw [Bool.and_eq_true, decide_eq_true_iff] at hg
    obtain ⟨a, _, c⟩ := sw10_yes (ask_of (k := v) hd (by omega)) hg.1
    exact ⟨a, by rw [c]; exact hg.2⟩
theorem lw_each {f : Nat → Bool} {n : Nat} (h : lwOk f n = true) : 0 < n ∧ ∀ k, k < n → f k = true := by
  unfold lwOk at h
  simpa using h
/-- No pull of the range is worse than the worst one. -/
theorem wp_keeps {L S : Int} {l : List Brk} {x lo hi : Int} (h : wpOk L S l x lo hi = true) : sw10 L hi l x (full10 l.length) = true ∧ wy10 L hi l x (full10 l.length) ≤ wpM L S l x lo hi ∧ lo ≤ wpI L S l x lo hi ∧ wpI L S l x lo hi ≤ hi := by
  have h2 := h
  unfold wpOk at h2
  rw [Bool.and_eq_true, Bool.and_eq_true] at h2
  obtain ⟨⟨hd, hr⟩, hw⟩ := h2
  obtain ⟨_, r1, _, _⟩ := (rng_iff _ _).1 hr
  obtain ⟨hn, hall⟩ := lw_each hw
  have hc := cnt_hi r1
  have e : lo + ((cnt10 lo hi - 1 : Nat) : Int) = hi := by omega
  have h1 := hall (cnt10 lo hi - 1) (by omega)
  have h3 := topI_max (puW L l x lo) (cnt10 lo hi - 1) (cnt10 lo hi - 1) (Nat.le_refl _)
  have h4 := topI_le (puW L l x lo) (cnt10 lo hi - 1)
  have eI : wpI L S l x lo hi = lo + (topI (puW L l x lo) (cnt10 lo hi - 1) : Int) := by
    unfold wpI topB
    rw [if_pos h, if_neg (by omega)]
  have eM : wpM L S l x lo hi = puW L l x lo (topI (puW L l x lo) (cnt10 lo hi - 1)) := by
    unfold wpM topM
    rw [if_pos h, if_neg (by omega)]
  rw [eI, eM]
  unfold puO at h1
  have h5 : puW L l x lo (cnt10 lo hi - 1) = wy10 L hi l x (full10 l.length) := by unfold puW; rw [e]
  rw [e] at h1
  rw [h5] at h3
  exact ⟨h1, h3, by omega, by omega⟩
/-- Without no brake the way is longer than without the worst one. -/
theorem wl_keeps {L S : Int} {l : List Brk} {x : Int} {i : Nat} (h : wlOk L S l x = true) (hi : i < l.length) : wwOk L S l x (i : Int) = true ∧ wwV L S l x (i : Int) ≤ wlM L S l x := by
  obtain ⟨hn, hall⟩ := lw_each h
  have h1 := hall i hi
  have h3 := topI_max (lsW L S l x) (l.length - 1) i (by omega)
  have eM : wlM L S l x = lsW L S l x (topI (lsW L S l x) (l.length - 1)) := by
    have h2 : lwOk (lsO L S l x) l.length = true := h
    unfold wlM lwM topM
    rw [if_pos h2, if_neg (by omega)]
  rw [eM]
  exact ⟨h1, h3⟩
end Go.Proofs.YthmoogkllpcebaaDoor
