/- Queues with groups: the answers of the chapter's functions. No condition. -/
import Derived.Test.YtkjdkfoeolcnkaaQuV
import Derived.Test.YtkjdkfoeolcnkaaCabMath14
namespace Go.Proofs.Ytkjdkfoeolcnkaa
open Go.RowKit
set_option linter.unusedVariables false
/-- The places of a list, as numbers. -/
def nIs (L : List Nat) : List Int := L.map fun i : Nat => (i : Int)
theorem nIs_len (L : List Nat) : (nIs L).length = L.length := by simp [nIs]
theorem nIs_at {L : List Nat} {j : Nat} (h : j < L.length) : (nIs L).getD j 0 = ((gth L j : Nat) : Int) := by
  unfold nIs; simp [List.getD, h, gth]
theorem nIs_app (a b : List Nat) : nIs (a ++ b) = nIs a ++ nIs b := by simp [nIs]
theorem nIs_mem {L : List Nat} {k : Nat} : ((k : Int) ∈ nIs L) ↔ k ∈ L := by
  unfold nIs
  rw [List.mem_map]
  constructor
  · rintro ⟨i, hi, e⟩
    obtain rfl : i = k := by omega
    exact hi
  · exact fun h => ⟨k, h, rfl⟩
noncomputable def flV (l : List Gro) (s : Int) : List Int := if asQ l s then ix13 (in13 (szQ l) (qkQ l) l.length s) l.length else []
def afV (l : List Gro) (s : Int) : List Gro := if asQ l s then gs13 l (fun k => !in13 (szQ l) (qkQ l) l.length s k) l.length else []
def apV (l : List Gro) (s : Int) : Int := if asQ l s then su13 (in13 (szQ l) (qkQ l) l.length s) (szQ l) l.length else 0
noncomputable def ndV (l : List Gro) (s : Int) : Int := if asQ l s then (nd13 (szQ l) (qkQ l) l.length s : Int) else 0
def cbOk (l : List Gro) (s g : Int) : Bool := asQ l s && inR g 0 ((l.length : Int) - 1)
noncomputable def cbV (l : List Gro) (s g : Int) : Int := if cbOk l s g then (cb13 (szQ l) (qkQ l) l.length s g.toNat : Int) else 0
def peK (l : List Gro) (k : Nat) : Int := su13 (fun _ => true) (szQ l) k
def quK (l : List Gro) (k : Nat) : Int := su13 (qkQ l) (szQ l) k
def ppV (l : List Gro) : Int := if isQ l then peK l l.length else 0
def qqV (l : List Gro) : Int := if isQ l then quK l l.length else 0
def lcOk (l : List Gro) (s : Int) : Bool := asQ l s && decide (l.length ≤ 8)
def zsQ (l : List Gro) : List Int := l.map fun x => x.z
noncomputable def lcV (l : List Gro) (s : Int) : Int := if lcOk l s then (lcK s (zsQ l) : Int) else 0
noncomputable def emV (l : List Gro) (s : Int) : Int := if asQ l s then (nd13 (szQ l) (qkQ l) l.length s : Int) * s - peK l l.length else 0
noncomputable def spOk (l : List Gro) (s : Int) : Bool := isQ l && inR s 1 10 && decide ((sp13 s l).length ≤ 12)
noncomputable def spV (l : List Gro) (s : Int) : List Gro := if spOk l s then sp13 s l else []
theorem as_is {l : List Gro} {s : Int} (h : asQ l s = true) : isQ l = true := ((asQ_iff l s).1 h).1
theorem as_s {l : List Gro} {s : Int} (h : asQ l s = true) : 1 ≤ s ∧ s ≤ 10 := ((asQ_iff l s).1 h).2.1
theorem as_fit {l : List Gro} {s : Int} (h : asQ l s = true) : ∀ i, i < l.length → szQ l i ≤ s := ((asQ_iff l s).1 h).2.2
theorem is_len {l : List Gro} (h : isQ l = true) : l.length ≤ 12 := ((isQ_iff l).1 h).1
theorem is_bd {l : List Gro} (h : isQ l = true) : ∀ i, i < l.length → 1 ≤ szQ l i ∧ szQ l i ≤ 8 := ((isQ_iff l).1 h).2
theorem peK_succ (l : List Gro) (k : Nat) : peK l (k + 1) = peK l k + szQ l k := by unfold peK; rw [su13_yes rfl]
theorem quK_yes {l : List Gro} {k : Nat} (h : (gth l k).q = true) : quK l (k + 1) = quK l k + szQ l k := by unfold quK; rw [su13_yes h]
theorem quK_no {l : List Gro} {k : Nat} (h : (gth l k).q = false) : quK l (k + 1) = quK l k := by unfold quK; rw [su13_no h]
theorem su13_bd {p : Nat → Bool} {sz : Nat → Int} : ∀ n, (∀ i, i < n → 0 ≤ sz i ∧ sz i ≤ 8) → 0 ≤ su13 p sz n ∧ su13 p sz n ≤ n * 8
  | 0, _ => by simp [su13]
  | n + 1, h => by
    have ih := su13_bd (p := p) n fun i hi => h i (by omega)
    have := h n (by omega)
    rw [su13]
    split <;> omega
theorem peK_bd {l : List Gro} (h : isQ l = true) {k : Nat} (hk : k ≤ l.length) : 0 ≤ peK l k ∧ peK l k ≤ 96 := by
  have h1 := is_len h
  have := su13_bd (p := fun _ => true) (sz := szQ l) k fun i hi => by have := is_bd h i (by omega); omega
  unfold peK; omega
theorem quK_bd {l : List Gro} (h : isQ l = true) {k : Nat} (hk : k ≤ l.length) : 0 ≤ quK l k ∧ quK l k ≤ 96 := by
  have h1 := is_len h
  have := su13_bd (p := qkQ l) (sz := szQ l) k fun i hi => by have := is_bd h i (by omega); omega
  unfold quK; omega
theorem ndV_bd (l : List Gro) (s : Int) : 0 ≤ ndV l s ∧ ndV l s ≤ 12 := by
  unfold ndV
  cases h : asQ l s with
  | false => simp
  | true =>
    have h1 := (nd13_is (qk := qkQ l) (as_fit h)).2
    have h2 := is_len (as_is h)
    rw [if_pos rfl]
    omega
theorem flV_len (l : List Gro) (s : Int) : (flV l s).length ≤ 12 := by
  unfold flV
  cases h : asQ l s with
  | false => simp
  | true =>
    have h1 := ix13_len (in13 (szQ l) (qkQ l) l.length s) l.length
    have h2 := is_len (as_is h)
    rw [if_pos rfl]
    omega
theorem afV_len (l : List Gro) (s : Int) : (afV l s).length ≤ 12 := by
  unfold afV
  cases h : asQ l s with
  | false => simp
  | true =>
    have h1 := gs13_len l (fun k => !in13 (szQ l) (qkQ l) l.length s k) l.length
    have h2 := is_len (as_is h)
    rw [if_pos rfl]
    omega
theorem spV_len (l : List Gro) (s : Int) : (spV l s).length ≤ 12 := by
  unfold spV
  cases h : spOk l s with
  | false => simp
  | true =>
    unfold spOk at h
    rw [Bool.and_eq_true, decide_eq_true_eq] at h
    rw [if_pos rfl]
    exact h.2
/-- The free seats of a lane lie within the cabin's. -/
theorem sa13_bd {b : Bool} {sz : Nat → Int} {qk : Nat → Bool} {s : Int} (h0 : 0 ≤ s) : ∀ k, (∀ j, j < k → 0 ≤ sz j) → 0 ≤ sa13 b sz qk s k ∧ sa13 b sz qk s k ≤ s
  | 0, _ => ⟨h0, Int.le_refl _⟩
  | k + 1, hz => by
    have ih := sa13_bd (b := b) (sz := sz) (qk := qk) h0 k fun j hj => hz j (by omega)
    have := hz k (by omega)
    cases h : tk13 b sz qk s k with
    | true => rw [sa13_yes h]; have := (tk13_lane h).2; omega
    | false => rw [sa13_no h]; exact ih
end Go.Proofs.Ytkjdkfoeolcnkaa
