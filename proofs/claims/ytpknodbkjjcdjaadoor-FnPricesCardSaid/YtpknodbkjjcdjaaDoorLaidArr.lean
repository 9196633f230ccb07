/- Tables of the program's own, read out of a row's condition: arrays of bools, of strings, of such arrays. No condition. -/
import Derived.Test.YtpknodbkjjcdjaaDoorRs
import Derived.Lib.LaidTab
namespace Go.Proofs.YtpknodbkjjcdjaaDoor
open Go.RowKit
set_option linter.unusedVariables false
section
variable {H : Type} {enc : TypeId × Value → H} {P : Program} {w : World} {base : Nat} {sp : Nat → Bool} {held : Bool}
/-- An array whose elements read as known data holds their cells. -/
theorem cells_of_arr {ρ : Type} [Inhabited ρ] (dat : ρ → DataW H) (cel : ρ → List Value) (c : Nat) (hc0 : 0 < c) (hcl : ∀ r, (cel r).length = c) {t e : TypeId} {n : Nat} {fuel : Nat} {cs : List Value} {rs : List ρ} {p : List MemPlace}
    (ht : P.underlying t = some (.array n e)) (hce : P.cellsOf e = c) (hct : P.cellsOf t = n * c)
    (hinv : ∀ fuel cs r q, DataW.trod enc P w base sp held fuel e cs = some (dat r, q) → cs = cel r)
    (h : DataW.trod enc P w base sp held fuel t cs = some (.agg (rs.map dat), p)) : cs = flat cel rs := by
  cases fuel with
  | zero => simp [DataW.trod] at h
  | succ fuel =>
    simp only [DataW.trod, ht, hce, hct] at h
    split at h
    · rename_i hl
      obtain ⟨xs, hm, hx⟩ := Option.map_eq_some_iff.1 h
      have hxs : xs.map (·.1) = rs.map dat := by
        have := congrArg Prod.fst hx
        simpa using this
      have hxl : xs.length = n := by simpa using Lib.mapM_length hm
      have hrl : rs.length = n := by
        have := congrArg List.length hxs
        simp at this
        omega
      apply List.ext_getElem?
      intro j
      by_cases hj : j < n * c
      · have hi : j / c < n := Nat.div_lt_of_lt_mul (by rwa [Nat.mul_comm] at hj)
        have hr := Nat.mod_lt j hc0
        obtain ⟨b, hb, hf⟩ := Lib.mapM_at hm (j / c) (j / c) (by simp [hi])
        have h2 : (xs.map (·.1))[j / c]? = some b.1 := by simp [hb]
        rw [hxs, List.getElem?_map] at h2
        obtain ⟨r, hr1, hr2⟩ := Option.map_eq_some_iff.1 h2
        have h3 := hinv fuel _ r b.2 (by rw [hf, hr2])
        have h4 := flat_at hcl default rs (j / c) (j % c) (by omega) hr
        rw [Nat.mul_comm (j / c) c, Nat.div_add_mod] at h4
        rw [h4]
        have e1 : rs.getD (j / c) default = r := by simp [List.getD, hr1]
        rw [e1, ← h3, List.getElem?_take_of_lt hr, List.getElem?_drop]
        congr 1
        rw [Nat.mul_comm]
        exact (Nat.div_add_mod j c).symm
      · rw [List.getElem?_eq_none (by omega), List.getElem?_eq_none (by rw [flat_len hcl]; rw [hrl]; omega)]
    · cases h
theorem cells_of_bool {e : TypeId} (he : P.underlying e = some .bool) : ∀ (fuel : Nat) (cs : List Value) (b : Bool) (q : List MemPlace), DataW.trod enc P w base sp held fuel e cs = some (.lit (.bool b), q) → cs = [.bool b] := by
  intro fuel cs b q h
  obtain ⟨b', hc, hx⟩ := DataW.trod_bool he h
  simp only [Prod.mk.injEq, DataW.lit.injEq, Lit.bool.injEq] at hx
  rw [hc, hx.1]
theorem cells_of_string {e : TypeId} (he : P.underlying e = some .string) : ∀ (fuel : Nat) (cs : List Value) (s : List UInt8) (q : List MemPlace), DataW.trod enc P w base sp held fuel e cs = some (.lit (.string s), q) → cs = [.string ⟨s.toArray⟩] := by
  intro fuel cs s q h
  obtain ⟨b', hc, hx, _⟩ := DataW.trod_string he h
  have h1 := congrArg Prod.fst hx
  simp only [DataW.lit.injEq, Lit.string.injEq] at h1
  rw [hc, h1]
theorem flat_bools (bs : List Bool) : flat (fun b => [Value.bool b]) bs = bs.map Value.bool := by
  induction bs with
  | nil => rfl
  | cons x r ih => simp [flat] at ih ⊢; exact ih
theorem cells_of_boolArr {t e : TypeId} {n : Nat} (ht : P.underlying t = some (.array n e)) (he : P.underlying e = some .bool) (hce : P.cellsOf e = 1) (hct : P.cellsOf t = n) : ∀ (fuel : Nat) (cs : List Value) (bs : List Bool) (q : List MemPlace), DataW.trod enc P w base sp held fuel t cs = some (.agg (bs.map fun b => .lit (.bool b)), q) → cs = bs.map Value.bool := by
  intro fuel cs bs q h
  have := cells_of_arr (fun b : Bool => .lit (.bool b)) (fun b => [.bool b]) 1 (by decide) (fun _ => rfl) ht hce (by rw [hct, Nat.mul_one]) (cells_of_bool he) h
  rw [this]
  exact flat_bools bs
end
end Go.Proofs.YtpknodbkjjcdjaaDoor
