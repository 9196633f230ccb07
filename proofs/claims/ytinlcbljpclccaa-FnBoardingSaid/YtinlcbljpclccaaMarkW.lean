/- Marks: what is written into a result, so that one sees whether memory is shared. Condition: sizes. -/
import Derived.Test.YtinlcbljpclccaaRows
import Derived.LoopTactic
import Derived.OwnWalk
import Derived.Below
import Derived.Outline
import Derived.WalkKit
import Derived.Lib.Hide
import Derived.Laws.IdiomStrings
namespace Go.Proofs.Ytinlcbljpclccaa
open Go.RowKit
set_option linter.unusedVariables false
/-- The text of a mark: digits in front of what is there. -/
def mtF : Nat → Nat → ByteArray → ByteArray
  | 0, _, out => out
  | f + 1, j, out => if j = 0 then out else mtF f (j / 10) ((⟨#[48 + UInt8.ofNat (j % 10)]⟩ : ByteArray) ++ out)
theorem mtF_step (j : Nat) (hj : 0 < j) : ∀ (f : Nat), j ≤ f → ∀ out, mtF f j out = mtF (f - 1) (j / 10) ((⟨#[48 + UInt8.ofNat (j % 10)]⟩ : ByteArray) ++ out) := by
  intro f hf out
  cases f with
  | zero => omega
  | succ f => rw [mtF, if_neg (by omega)]; rfl
theorem mtF_fuel : ∀ (f g j : Nat), j ≤ f → j ≤ g → ∀ out, mtF f j out = mtF g j out := by
  intro f
  induction f with
  | zero => intro g j hf hg out
            obtain rfl : j = 0 := by omega
            cases g <;> simp [mtF]
  | succ f ih =>
    intro g j hf hg out
    by_cases h : j = 0
    · subst h; cases g <;> simp [mtF]
    · rw [mtF_step j (by omega) _ hf, mtF_step j (by omega) _ hg]
      exact ih _ _ (by show j / 10 ≤ f; omega) (by omega) _
def mt (k : Nat) : ByteArray := if k = 0 then ⟨#[109, 48]⟩ else (⟨#[109]⟩ : ByteArray) ++ mtF k k ⟨#[]⟩
theorem byte_text (P : Program) (W : World) (src dst e : TypeId) (j : Nat) (hs : P.underlying src = some (.slice e)) (he : P.underlying e = some (.int .u8)) (hd : P.underlying dst = some .string) :
    (convert src dst (.slice (some ⟨W.heap.size, 0, none⟩) 1 1)).run P (W.alloc (.cells #[.int .u8 (48 + (j : Int) % 10)] e)) = .ok (.string ⟨#[48 + UInt8.ofNat (j % 10)]⟩) (W.alloc (.cells #[.int .u8 (48 + (j : Int) % 10)] e)) := by
  have h := run_convert_bytes_back (P := P) (W.alloc (.cells #[.int .u8 (48 + (j : Int) % 10)] e)) src dst e ⟨W.heap.size, 0, none⟩ 1 [48 + UInt8.ofNat (j % 10)] hs he hd (fun i hi => by
    obtain rfl : i = 0 := by simpa using hi
    have hb : ((48 + UInt8.ofNat (j % 10)).toNat : Int) = 48 + (j : Int) % 10 := by
      simp; omega
    simp only [List.getElem_cons_zero]
    rw [hb]
    show (W.alloc _).cell? ⟨W.heap.size, 0, none⟩ = _
    rw [World.cell?_alloc_at _ _ _ _ rfl]; rfl)
  exact h
set_option maxHeartbeats 400000 in
theorem markText_any (k : Nat) (hk : k ≤ 1099511627776) (w : World) :
    Calls Try.prog 62 #[.int .i64 (k : Int)] w fun e w' => e = .returned (.string (mt k)) ∧ Below w.heap.size w w' := by
  by_cases h0 : k = 0
  · subst h0
    go_enter Try.func62, Try.ntmps62
    go_wp2
    go_ret
    exact ⟨rfl, Below.refl _ _⟩
  · have h1 : ¬ (k : Int) ≤ 0 := by omega
    have HM := Lib.hid (show mt k = (⟨#[109]⟩ : ByteArray) ++ mtF k k ⟨#[]⟩ from by rw [mt, if_neg h0])
    go_enter Try.func62, Try.ntmps62
    go_wp2
    go_loopw [0, 3] (fun n o wr => ∃ (j : Nat) (out : ByteArray), j ≤ k ∧ n = .int .i64 j ∧ o = .string out ∧ Below w.heap.size w wr ∧ out.size + j ≤ k ∧ Hid (mtF j j out = mtF k k ⟨#[]⟩)) (fun n _ _ => (intOf n).toNat)
    case atStart => exact ⟨k, _, Nat.le_refl _, rfl, rfl, Below.refl _ _, by show 0 + k ≤ k; omega, rfl⟩
    case round =>
      obtain ⟨j, out, hj, rfl, rfl, hb, hz, HE⟩ := hrel
      by_cases hp : (0 : Int) < (j : Int)
      · have hconv := byte_text Try.prog wr 22 9 5 j Try.underlying22 Try.underlying5 Try.underlying9
        go_wp2
        go_roundw
        case rel =>
          refine ⟨j / 10, _, by omega, by go_num, rfl, hb.alloc hb.size _, by rw [ByteArray.size_append]; show 1 + out.size + j / 10 ≤ k; omega, ?_⟩
          have h2 := HE.out
          rw [mtF_step j (by omega) j (Nat.le_refl _)] at h2
          exact (mtF_fuel _ _ _ (Nat.le_refl _) (by omega) _).trans h2
        case measure => simp [intOf]; omega
      · obtain rfl : j = 0 := by omega
        go_wp2
        go_ret
        refine ⟨?_, hb⟩
        rw [HM.out, ← HE.out]
        rfl
end Go.Proofs.Ytinlcbljpclccaa
