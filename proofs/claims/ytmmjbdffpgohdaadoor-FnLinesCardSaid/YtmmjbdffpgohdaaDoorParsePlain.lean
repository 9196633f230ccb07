/- What reading a line's text means, in plain words. No condition. -/
import Derived.Test.YtmmjbdffpgohdaaDoorParseSupW
import Derived.Test.YtmmjbdffpgohdaaDoorLineTextC
import Derived.Test.YtmmjbdffpgohdaaDoorSplitImpl
namespace Go.Proofs.YtmmjbdffpgohdaaDoor
open Go.RowKit
set_option linter.unusedVariables false
def Pl (s : ByteArray) (l : List Sup) : Prop := IsL l ∧ lineT l = s
noncomputable def plOk (s : ByteArray) : Bool := @decide (∃ l, Pl s l) (Classical.propDecidable _)
noncomputable def plL (s : ByteArray) : List Sup := @dite _ (∃ l, Pl s l) (Classical.propDecidable _) (fun h => Classical.choose h) (fun _ => [])
theorem sm_of {l : List Sup} (hl : IsL l) {x : Sup} (hx : x ∈ l) : Sm x := by
  obtain ⟨i, hi, rfl⟩ := mem_nth hx
  have := hl.bd hi
  exact ⟨by omega, by omega⟩
theorem txts_len (l : List Sup) : (txts l).length = l.length := by simp [txts]
theorem txts_ne {l : List Sup} (hl : IsL l) : txts l ≠ [] := by
  intro h
  have := txts_len l
  rw [h] at this
  have := hl.two
  simp at *; omega
theorem words_of {s : ByteArray} {l : List Sup} (h : Pl s l) : splitAll 32 s = txts l := by
  obtain ⟨hl, rfl⟩ := h
  unfold lineT sp1
  refine split_of_join 32 (txts l) (txts_ne hl) ?_
  intro x hx
  obtain ⟨y, hy, rfl⟩ := List.mem_map.1 hx
  exact supT_no32 y
theorem txts_inj : ∀ {l m : List Sup}, txts l = txts m → l = m
  | [], [], _ => rfl
  | [], y :: m, h => by simp [txts] at h
  | x :: l, [], h => by simp [txts] at h
  | x :: l, y :: m, h => by
    simp only [txts, List.map_cons, List.cons.injEq] at h
    rw [supT_inj h.1, txts_inj h.2]
theorem pl_unique {s : ByteArray} {l m : List Sup} (h : Pl s l) (g : Pl s m) : l = m := txts_inj ((words_of h).symm.trans (words_of g))
theorem pl_yes {s : ByteArray} {l : List Sup} (h : Pl s l) : plOk s = true ∧ plL s = l := by
  have he : ∃ l, Pl s l := ⟨l, h⟩
  refine ⟨by unfold plOk; simp [he], ?_⟩
  unfold plL
  rw [dif_pos he]
  exact pl_unique (Classical.choose_spec he) h
theorem pl_no {s : ByteArray} (h : ∀ l, ¬ Pl s l) : plOk s = false ∧ plL s = [] := by
  have he : ¬ ∃ l, Pl s l := fun ⟨l, hl⟩ => h l hl
  refine ⟨by unfold plOk; simp [he], ?_⟩
  unfold plL
  rw [dif_neg he]
theorem lineT_size {l : List Sup} (hl : IsL l) : (lineT l).size ≤ 120 := by
  have h1 := jnK_size (txts l) sp1 rfl (txts l).length (Nat.le_refl _)
  rw [jnK_all, List.take_length] at h1
  have h2 := szs_le (txts l) 10 (fun x hx => by
      obtain ⟨y, hy, rfl⟩ := List.mem_map.1 hx
      obtain ⟨i, hi, rfl⟩ := mem_nth hy
      exact supT_size _ ⟨(hl.bd hi).1, (hl.bd hi).2.1⟩ (hl.bd hi).2.2)
  rw [txts_len] at h1 h2
  have := hl.eight
  unfold lineT
  omega
theorem pl_big {s : ByteArray} (h : 120 < s.size) : plOk s = false ∧ plL s = [] := pl_no (fun l hl => by
  have := lineT_size hl.1
  rw [hl.2] at this
  omega)
theorem szs_mem {L : List ByteArray} {x : ByteArray} (h : x ∈ L) : x.size ≤ szs L := by
  induction L with
  | nil => simp at h
  | cons y r ih =>
    have e : szs (y :: r) = y.size + szs r := by simp [szs]
    rcases List.mem_cons.1 h with rfl | h
    · omega
    · have := ih h; omega
theorem split_size (c : UInt8) (s : ByteArray) {x : ByteArray} (h : x ∈ splitAll c s) : x.size ≤ s.size := by
  have h1 := szs_mem h
  have h2 := jnK_size (splitAll c s) ⟨#[c]⟩ rfl (splitAll c s).length (Nat.le_refl _)
  rw [jnK_all, List.take_length, split_join] at h2
  omega
/-- The first k words are read. -/
def RdTo (s : ByteArray) (l : List Sup) (k : Nat) : Prop := txts l = (splitAll 32 s).take k
theorem rdTo_len {s : ByteArray} {l : List Sup} {k : Nat} (h : RdTo s l k) (hk : k ≤ (splitAll 32 s).length) : l.length = k := by
  have := congrArg List.length h
  rw [txts_len, List.length_take] at this
  omega
theorem rdTo_step {s : ByteArray} {l : List Sup} {k : Nat} {x : Sup} (h : RdTo s l k) (hk : k < (splitAll 32 s).length) (hx : supT x = (splitAll 32 s)[k]) : RdTo s (l ++ [x]) (k + 1) := by
  unfold RdTo at *
  rw [List.take_succ_eq_append_getElem hk, ← h, ← hx]
  simp [txts]
theorem rdTo_all {s : ByteArray} {l : List Sup} (h : RdTo s l (splitAll 32 s).length) : lineT l = s := by
  unfold RdTo at h
  rw [List.take_length] at h
  unfold lineT sp1
  rw [h]
  exact split_join 32 s
theorem no_word {s : ByteArray} {k : Nat} (hk : k < (splitAll 32 s).length) (hx : ¬ Txt (splitAll 32 s)[k]) : ∀ l, ¬ Pl s l := by
  intro l hl
  have hw := words_of hl
  apply hx
  have hm : (splitAll 32 s)[k] ∈ txts l := by rw [← hw]; exact List.getElem_mem hk
  obtain ⟨y, hy, he⟩ := List.mem_map.1 hm
  exact ⟨y, sm_of hl.1 hy, he⟩
theorem pick_txt (t : ByteArray) : ∃ (x : Sup) (b : Bool), (b = true ∧ Sm x ∧ supT x = t) ∨ (b = false ∧ x = noSup ∧ ¬ Txt t) := by
  by_cases h : Txt t
  · obtain ⟨x, h1, h2⟩ := h; exact ⟨x, true, .inl ⟨rfl, h1, h2⟩⟩
  · exact ⟨noSup, false, .inr ⟨rfl, rfl, h⟩⟩
end Go.Proofs.YtmmjbdffpgohdaaDoor
