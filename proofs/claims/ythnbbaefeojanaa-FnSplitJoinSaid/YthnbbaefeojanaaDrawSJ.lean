/- The walks of what FnSplitJoin draws. Condition: sizes. -/
import Derived.Test.YthnbbaefeojanaaCurOf
import Derived.Test.YthnbbaefeojanaaByteRow
import Derived.Test.YthnbbaefeojanaaSplitW
import Derived.Test.YthnbbaefeojanaaRd
namespace Go.Proofs.Ythnbbaefeojanaa
open Go.RowKit
set_option linter.unusedVariables false
/-- A new cursor over the code that came in. -/
theorem cur_new {w : World} {a : Option Addr} {len cap : Nat} (h : ByteRow w a len) (t : TypeId) :
    Cur w.heap.size w.heap.size 0 (w.alloc (.cells #[.slice a len cap, .int .i64 0, .int .u64 0] t)) := by
  refine ⟨Nat.le_refl _, by simp, a, len, cap, 0, 0, ?_, ?_, ?_, ?_, ?_, Nat.le_refl _, h.1, ?_⟩
  · rw [World.cell?_alloc_at _ _ _ _ rfl]; rfl
  · rw [World.cell?_alloc_at _ _ _ _ rfl]; rfl
  · rw [World.cell?_alloc_at _ _ _ _ rfl]; rfl
  · exact World.frozen?_alloc_at _ _ _ _ rfl
  · exact World.frozen?_alloc_at _ _ _ _ rfl
  · intro i hi
    obtain ⟨c, o, x, h1, h2, h3, h4⟩ := h.2 i hi
    exact ⟨c, o, x, h1, h2, h3, by rw [World.cell?_alloc_past _ _ _ h2]; exact h4⟩
def sepL : List ByteArray := [⟨#[44]⟩, ⟨#[44]⟩, ⟨#[32]⟩, ⟨#[]⟩, ⟨#[44, 44]⟩]
/-- What drawing two texts leaves. -/
def TwoPost (l1 l2 : List ByteArray) (w : World) (e : Ending) (w' : World) : Prop := ∃ s t : ByteArray, s ∈ l1 ∧ t ∈ l2 ∧ e = .returned (.tuple #[.string s, .string t]) ∧ Below w.heap.size w w'
set_option maxHeartbeats 1000000 in
theorem DrawSplitString_any (a : Option Addr) (len cap : Nat) (w : World) (h : ByteRow w a len) :
    Calls Try.prog 9 #[.slice a len cap] w (TwoPost any1L sepL w) := by
  have HC := Lib.hid (cur_new (cap := cap) h 44)
  clear h
  go_enter Try.func9, Try.ntmps9
  go_wp2_with fail
  refine (any1_any w.heap.size w.heap.size 0 _ HC.out (by omega)).mono ?_
  rintro e w1 ⟨s, hs, rfl, hc, hg⟩
  have HS := Lib.hid hs
  have HG := Lib.hid hg
  have hw1 : w.heap.size < w1.heap.size := hc.2.1
  have HC1 := Lib.hid hc
  clear hs hg hc
  go_wp2_with fail
  refine (of_any w.heap.size w.heap.size 2 w1.heap.size 5 5 sepL _ (HC1.out.alloc _) (by omega) rfl (by omega) (by omega) (by omega) (list_cells w1 9 sepL _ rfl)).mono ?_
  rintro e w2 ⟨t, ht, rfl, hc, hg⟩
  have HT := Lib.hid ht
  have HG2 := Lib.hid hg
  clear ht hg hc
  go_wp2_with fail
  go_ret2
  refine ⟨s, t, HS.out, HT.out, rfl, ?_⟩
  have g1 := grown_trans (grown_trans (World.grownBy_alloc w _ (some w.heap.size)) HG.out) (grown_trans (World.grownBy_alloc w1 _ (some w.heap.size)) HG2.out)
  exact grown_below g1 (Nat.le_refl _) (fun k hk => by cases hk; exact Nat.le_refl _)
set_option maxHeartbeats 1000000 in
theorem DrawLessString_any (a : Option Addr) (len cap : Nat) (w : World) (h : ByteRow w a len) :
    Calls Try.prog 14 #[.slice a len cap] w (TwoPost any1L any1L w) := by
  have HC := Lib.hid (cur_new (cap := cap) h 44)
  clear h
  go_enter Try.func14, Try.ntmps14
  go_wp2_with fail
  refine (any1_any w.heap.size w.heap.size 0 _ HC.out (by omega)).mono ?_
  rintro e w1 ⟨s, hs, rfl, hc, hg⟩
  have HS := Lib.hid hs
  have HG := Lib.hid hg
  have HC1 := Lib.hid hc
  clear hs hg hc
  go_wp2_with fail
  refine (any1_any w.heap.size w.heap.size 2 _ HC1.out (by omega)).mono ?_
  rintro e w2 ⟨t, ht, rfl, hc, hg⟩
  have HT := Lib.hid ht
  have HG2 := Lib.hid hg
  clear ht hg hc
  go_wp2_with fail
  go_ret2
  refine ⟨s, t, HS.out, HT.out, rfl, ?_⟩
  have g1 := grown_trans (grown_trans (World.grownBy_alloc w _ (some w.heap.size)) HG.out) HG2.out
  exact grown_below g1 (Nat.le_refl _) (fun k hk => by cases hk; exact Nat.le_refl _)
end Go.Proofs.Ythnbbaefeojanaa
