/- Rows of integers for the speed profiles: how they read, their copies, small numbers. Condition: sizes. -/
import Derived.Test.YtkjdkfoeolcnkaaProfMath
import Derived.Test.YtkjdkfoeolcnkaaAppAny
import Derived.Test.YtkjdkfoeolcnkaaAft
import Derived.Test.YtkjdkfoeolcnkaaShelfC
import Derived.Deep.AppendLies
import Derived.Deep.RegionHeld3
namespace Go.Proofs.Ytkjdkfoeolcnkaa
open Go.RowKit
set_option linter.unusedVariables false
/-- the row at off in b holds l -/
def RowAt (w : World) (b off : Nat) (l : List Int) : Prop := ∀ i, i < l.length → w.cell? ⟨b, off + i, none⟩ = some (.int .i64 (l.getD i 0))
theorem RowAt.below {w w' : World} {b off : Nat} {l : List Int} (h : RowAt w b off l) (hb : Below w.heap.size w w') (hl : b < w.heap.size) : RowAt w' b off l := fun i hi => (hb.cell (p := ⟨b, off + i, none⟩) hl).trans (h i hi)
theorem RowAt.drew {w w' : World} {b off : Nat} {l : List Int} (h : RowAt w b off l) (hd : Drew w w') : RowAt w' b off l := fun i hi => by rw [hd.cell]; exact h i hi
theorem Rd.formR {w : World} {v : Value} {l : List Int} (h : Rd w v (intVs l)) :
    ∃ ao b off cap, v = .slice ao l.length cap ∧ (0 < l.length → ao = some ⟨b, off, none⟩ ∧ b < w.heap.size ∧ l.length ≤ maxLen) ∧ RowAt w b off l := by
  by_cases h0 : l = []
  · subst h0
    obtain ⟨a, ca, hv⟩ := h.iv0
    exact ⟨a, 0, 0, ca, hv, fun h => by simp at h, fun i hi => by simp at hi⟩
  · obtain ⟨b, off, cap, hv, hb, hm, hx⟩ := h.iv h0
    exact ⟨_, b, off, cap, hv, fun _ => ⟨rfl, hb, hm⟩, hx⟩
theorem Try.infoIntR : (Try.prog.info? 3).map (fun i => (i.zero, i.size, i.bytes)) = some (some (.int .i64 0), 1, 8) := by kernel_rfl
theorem ret_vR {g : Value} {a b : Bool} (h : a = b) : Ending.returned (.tuple #[g, .bool a]) = .returned (.tuple #[g, .bool b]) := by rw [h]
theorem ret_ib9 {x y : Int} {a b : Bool} (g : x = y) (h : a = b) : Ending.returned (.tuple #[.int .i64 x, .bool a]) = .returned (.tuple #[.int .i64 y, .bool b]) := by rw [g, h]
theorem ret_bb9 {x y : Bool} {a b : Bool} (g : x = y) (h : a = b) : Ending.returned (.tuple #[.bool x, .bool a]) = .returned (.tuple #[.bool y, .bool b]) := by rw [g, h]
theorem iv_one (l : List Int) (x : Int) : intVs (l ++ [x]) = intVs l ++ [.int .i64 x] := by simp [intVs]
theorem iv_cellR (a : List Int) : ∀ v ∈ intVs a, v.oneCell' = true := by
  intro v hv
  obtain ⟨x, _, rfl⟩ := List.mem_map.1 hv
  rfl
theorem Rd.newsR {w : World} {v : Value} {l : List Int} (h : Rd w v (intVs l)) :
    ∃ ao c, v = .slice ao l.length c ∧ (0 < l.length → ∃ ad : Addr, ao = some ad ∧ ad.block < w.heap.size ∧ ∀ j u, (intVs l)[j]? = some u → w.cell? (ad.add j) = some u) := by
  have hl : (intVs l).length = l.length := by simp [intVs]
  rcases h with ⟨h0, a, cap, rfl⟩ | ⟨b, off, cap, rfl, hlt, hm, hc⟩
  · have : l.length = 0 := by rw [← hl, h0]; rfl
    exact ⟨a, cap, by rw [this], fun h => by omega⟩
  · exact ⟨_, cap, by rw [hl], fun _ => ⟨⟨b, off, none⟩, rfl, hlt, fun j u hu => by rw [gs_addr]; exact hc j u hu⟩⟩
set_option maxRecDepth 100000 in
set_option maxHeartbeats 1000000 in
theorem ownR_c (v : Value) (l : List Int) (w : World) (hr : Rd w v (intVs l)) (hn : l.length ≤ 1048576) :
    Calls Try.prog 91 #[v] w fun e w' => ∃ g, e = .returned g ∧ w'.ownsRow w.heap.size 3 1 g l.length (intVs l) ∧ g.ownBlock ≠ none ∧ Below w.heap.size w w' := by
  obtain ⟨i0, hi, hz0, hz1, hz2⟩ := info_parts Try.infoIntR
  obtain ⟨ao, c, rfl, hnew⟩ := hr.newsR
  have HN := Lib.hid hnew
  have hll : (intVs l).length = l.length * 1 := by simp [intVs]
  have HC := Lib.hid (iv_cellR l)
  clear hr hnew
  go_enter Try.func91, Try.ntmps91
  go_wp2_with (at_builtin; go_loud (refine wpList_append_any _ rfl _ _ 31 rfl w.heap.size 3 i0 (.int .i64 0) 1 8 Try.underlying31 hi hz0 hz1 hz2 rfl (by omega) (.slice (some ⟨w.heap.size, 0, none⟩) 0 0) 0 [] rfl (World.ownsRow_made w #[] 0 (Nat.le_refl _) (by decide) rfl) ao l.length c (intVs l) rfl hll (fun h => by
    obtain ⟨ad, e, hb, hx⟩ := HN.out h
    exact ⟨ad, e, fun j u hu => (World.cell?_alloc_some w _ _ (by rw [hx j u hu]; rfl)).trans (hx j u hu)⟩) HC.out (by unfold maxLen; omega) (by omega) (by simp) ?_; intro v' w1 hown hgrow hat))
  go_ret
  refine ⟨v', rfl, ?_, ?_, ?_⟩
  · simpa using hown
  · rcases hat with h | h <;> rw [h] <;> simp [Value.ownBlock]
  · exact ((Below.refl _ _).alloc (Nat.le_refl _) _).grown hgrow (by simp) (fun j hj => by simp [Value.ownBlock] at hj; omega)
set_option maxHeartbeats 1000000 in
theorem cloneR_c (v : Value) (l : List Int) (w : World) (hr : Rd w v (intVs l)) (hn : l.length ≤ 1048576) :
    Calls Try.prog 85 #[v] w fun e w' => ∃ g, e = .returned g ∧ w'.ownsRow w.heap.size 3 1 g l.length (intVs l) ∧ Below w.heap.size w w' := by
  obtain ⟨ao, b, off, cap, rfl, hao, hat⟩ := hr.formR
  by_cases h0 : 0 < l.length
  · obtain ⟨rfl, hb, hm⟩ := hao h0
    refine (Try.slices_Clone_int b off l.length cap l w (Nat.le_refl _) (by omega) hat).mono ?_
    rintro e w' ⟨v', rfl, ho, _, hbl⟩
    exact ⟨v', rfl, by rw [List.take_length] at ho; exact ho, hbl⟩
  · have hl : l = [] := List.eq_nil_of_length_eq_zero (by omega)
    subst hl
    cases ao with
    | none =>
      refine (Try.slices_Clone_int_nil 0 cap w).mono ?_
      rintro e w' ⟨rfl, rfl⟩
      exact ⟨_, rfl, World.ownsRow_nil _ _ _ _, Below.refl _ _⟩
    | some ad =>
      refine (Try.slices_Clone_int_zero ad cap w).mono ?_
      rintro e w' ⟨v', rfl, ho, _, hbl⟩
      exact ⟨v', rfl, ho, hbl⟩
def iabs9 (n : Int) : Int := if n < 0 then -n else n
theorem most9_c (a b : Int) (w : World) :
    Calls Try.prog 82 #[.int .i64 a, .int .i64 b] w fun e w' => e = .returned (.int .i64 (if b < a then a else b)) ∧ w' = w := by
  by_cases h : b < a
  · rw [if_pos h]
    go_enter Try.func82, Try.ntmps82
    go_wp2
    go_ret
    exact ⟨rfl, rfl⟩
  · rw [if_neg h]
    go_enter Try.func82, Try.ntmps82
    go_wp2
    go_ret
    exact ⟨rfl, rfl⟩
theorem least9_c (a b : Int) (w : World) :
    Calls Try.prog 69 #[.int .i64 a, .int .i64 b] w fun e w' => e = .returned (.int .i64 (if a < b then a else b)) ∧ w' = w := by
  by_cases h : a < b
  · rw [if_pos h]
    go_enter Try.func69, Try.ntmps69
    go_wp2
    go_ret
    exact ⟨rfl, rfl⟩
  · rw [if_neg h]
    go_enter Try.func69, Try.ntmps69
    go_wp2
    go_ret
    exact ⟨rfl, rfl⟩
end Go.Proofs.Ytkjdkfoeolcnkaa
