/- Reading the text of a line back, in plain words. No condition. -/
import Derived.Test.YtmmjbdffpgohdaaDoorSupTxtW
import Derived.Test.YtmmjbdffpgohdaaDoorReadMath
import Derived.Test.YtmmjbdffpgohdaaDoorSplitJoinMath
import Derived.Lib.IndexMore
namespace Go.Proofs.YtmmjbdffpgohdaaDoor
open Go.RowKit
set_option linter.unusedVariables false
theorem ba_ext {a b : ByteArray} (h : a.data.toList = b.data.toList) : a = b := by
  apply ByteArray.ext; apply Array.ext'; exact h
theorem first_eq {c : UInt8} : ∀ {x y A B : List UInt8}, c ∉ x → c ∉ y → x ++ c :: A = y ++ c :: B → x = y ∧ A = B
  | [], [], A, B, _, _, h => by simpa using h
  | [], b :: y, A, B, _, h2, h => by simp at h; simp at h2; exact absurd h.1 h2.1
  | b :: x, [], A, B, h1, _, h => by simp at h; simp at h1; exact absurd h.1.symm h1.1
  | b :: x, d :: y, A, B, h1, h2, h => by
    simp at h h1 h2
    obtain ⟨rfl, h⟩ := h
    obtain ⟨rfl, rfl⟩ := first_eq h1.2 h2.2 h
    exact ⟨rfl, rfl⟩
theorem join_cons2 (c : UInt8) (x : List UInt8) (r : List (List UInt8)) (h : r ≠ []) : Lib.join (x :: r) [c] = x ++ c :: Lib.join r [c] := by
  cases r with
  | nil => exact absurd rfl h
  | cons y t => rw [Lib.join_cons, Lib.join_cons]; simp [Lib.joinTail]
theorem join_inj (c : UInt8) : ∀ (L M : List (List UInt8)), L ≠ [] → M ≠ [] → (∀ x ∈ L, c ∉ x) → (∀ x ∈ M, c ∉ x) → Lib.join L [c] = Lib.join M [c] → L = M
  | [], _, h, _, _, _, _ => absurd rfl h
  | _, [], _, h, _, _, _ => absurd rfl h
  | x :: r, y :: t, _, _, h1, h2, h => by
    have hx := h1 x (by simp)
    have hy := h2 y (by simp)
    by_cases hr : r = []
    · by_cases ht : t = []
      · subst hr; subst ht; rw [Lib.join_one, Lib.join_one] at h; rw [h]
      · subst hr
        rw [Lib.join_one, join_cons2 c y t ht] at h
        exact absurd (by rw [h]; simp) hx
    · by_cases ht : t = []
      · subst ht
        rw [Lib.join_one, join_cons2 c x r hr] at h
        exact absurd (by rw [← h]; simp) hy
      · rw [join_cons2 c x r hr, join_cons2 c y t ht] at h
        obtain ⟨rfl, h'⟩ := first_eq hx hy h
        rw [join_inj c r t hr ht (fun z hz => h1 z (by simp [hz])) (fun z hz => h2 z (by simp [hz])) h']
theorem split_of_join (c : UInt8) (L : List ByteArray) (h0 : L ≠ []) (hno : ∀ x ∈ L, c ∉ x.data.toList) : splitAll c (joinAll L ⟨#[c]⟩) = L := by
  have h1 := split_join c (joinAll L ⟨#[c]⟩)
  have h2 := split_no c (joinAll L ⟨#[c]⟩)
  have h3 := (splitAll_len c (joinAll L ⟨#[c]⟩)).1
  generalize splitAll c (joinAll L ⟨#[c]⟩) = M at *
  have e : Lib.join (M.map (·.data.toList)) [c] = Lib.join (L.map (·.data.toList)) [c] := by
    have := congrArg (fun b : ByteArray => b.data.toList) h1
    simpa [joinAll] using this
  have hm := join_inj c _ _ (by intro h; simp at h; subst h; simp at h3) (by simpa using h0) (by simpa using h2) (by simpa using hno) e
  have : M.map (fun b : ByteArray => b.data.toList) = L.map (fun b : ByteArray => b.data.toList) := hm
  have hinj : ∀ (A B : List ByteArray), A.map (fun b : ByteArray => b.data.toList) = B.map (fun b : ByteArray => b.data.toList) → A = B := by
    intro A
    induction A with
    | nil => intro B h; simpa using h.symm
    | cons a r ih =>
      intro B h
      cases B with
      | nil => simp at h
      | cons b t =>
        simp only [List.map_cons, List.cons.injEq] at h
        rw [ba_ext h.1, ih t h.2]
  exact hinj _ _ this
theorem num_bytes (n : Int) : ∀ c ∈ (num n).data.toList, c = 45 ∨ (48 ≤ c.toNat ∧ c.toNat ≤ 57) := by
  intro c hc
  rw [num_list] at hc
  unfold Lib.itoa at hc
  split at hc
  · rcases List.mem_cons.1 hc with h | h
    · exact .inl h
    · exact .inr (decDigits_dig _ c h)
  · exact .inr (decDigits_dig _ c hc)
theorem num_no {n : Int} {c : UInt8} (h : c = 58 ∨ c = 32) : c ∉ (num n).data.toList := by
  intro hc
  rcases h with rfl | rfl
  · rcases num_bytes n _ hc with h | h
    · cases h
    · revert h; decide
  · rcases num_bytes n _ hc with h | h
    · cases h
    · revert h; decide
/-- Within the numbers that can be written. -/
def Sm (x : Sup) : Prop := (-999999 ≤ x.a ∧ x.a ≤ 999999) ∧ (-999999 ≤ x.h ∧ x.h ≤ 999999)
def Txt (s : ByteArray) : Prop := ∃ x : Sup, Sm x ∧ supT x = s
def kb (b : Bool) : UInt8 := if b then 83 else 84
theorem supK_list (x : Sup) : (supK x).data.toList = [kb x.s] := by
  unfold supK kb; split <;> rfl
theorem supT_list (x : Sup) : (supT x).data.toList = kb x.s :: ((num x.a).data.toList ++ 58 :: (num x.h).data.toList) := by
  unfold supT
  simp [supK_list]
theorem supT_inj {x y : Sup} (h : supT x = supT y) : x = y := by
  have e := congrArg (fun b : ByteArray => b.data.toList) h
  simp only [supT_list, List.cons.injEq] at e
  obtain ⟨e1, e2⟩ := e
  obtain ⟨e3, e4⟩ := first_eq (num_no (.inl rfl)) (num_no (.inl rfl)) e2
  have ha := num_inj (ba_ext e3)
  have hh := num_inj (ba_ext e4)
  have hs : x.s = y.s := by
    revert e1; unfold kb; cases x.s <;> cases y.s <;> simp
  cases x; cases y; simp_all
theorem supT_no32 (x : Sup) : (32 : UInt8) ∉ (supT x).data.toList := by
  rw [supT_list]
  intro h
  rcases List.mem_cons.1 h with h | h
  · revert h; unfold kb; split <;> decide
  · rcases List.mem_append.1 h with h | h
    · exact num_no (.inr rfl) h
    · rcases List.mem_cons.1 h with h | h
      · revert h; decide
      · exact num_no (.inr rfl) h
theorem supT_split (x : Sup) : splitAll 58 (supT x) = [supK x ++ num x.a, num x.h] := by
  have e : supT x = joinAll [supK x ++ num x.a, num x.h] ⟨#[58]⟩ := by
    apply ba_ext
    rw [supT_list]
    have h : Lib.join [(supK x ++ num x.a).data.toList, (num x.h).data.toList] [58] = kb x.s :: ((num x.a).data.toList ++ 58 :: (num x.h).data.toList) := by
      rw [Lib.join_cons]; simp [Lib.joinTail, supK_list]
    simpa [joinAll] using h.symm
  rw [e]
  refine split_of_join 58 _ (by simp) ?_
  intro y hy
  simp at hy
  rcases hy with rfl | rfl
  · intro hm
    rw [ByteArray.data_append, Array.toList_append, List.mem_append, supK_list] at hm
    rcases hm with hm | hm
    · revert hm; unfold kb; split <;> decide
    · exact num_no (.inl rfl) hm
  · exact num_no (.inl rfl)
/-- The library's cut at one byte. -/
theorem index_one (c : UInt8) : ∀ l : List UInt8, (Lib.index l [c] = -1 ∧ c ∉ l) ∨ ∃ p q, l = p ++ c :: q ∧ c ∉ p ∧ Lib.index l [c] = (p.length : Int)
  | [] => .inl ⟨by simp [Lib.index], by simp⟩
  | b :: l => by
    by_cases hb : b = c
    · subst hb; exact .inr ⟨[], l, rfl, by simp, by simp [Lib.index]⟩
    · have hp : ([c] : List UInt8).isPrefixOf (b :: l) = false := by
        simp [List.isPrefixOf]; exact fun e => hb e.symm
      rcases index_one c l with ⟨h1, h2⟩ | ⟨p, q, rfl, h2, h3⟩
      · refine .inl ⟨by simp [Lib.index, hp, h1], ?_⟩
        simp; exact ⟨fun e => hb e.symm, h2⟩
      · refine .inr ⟨b :: p, q, rfl, by simp; exact ⟨fun e => hb e.symm, h2⟩, ?_⟩
        have : ¬ (Lib.index (p ++ c :: q) [c] == -1) = true := by simp; omega
        rw [Lib.index, hp, if_neg (by simp), if_neg this, h3]
        simp
theorem cut_one (c : UInt8) (l : List UInt8) : ((Lib.cut l [c]).1 = l ∧ (Lib.cut l [c]).2.1 = [] ∧ c ∉ l) ∨ (l = (Lib.cut l [c]).1 ++ c :: (Lib.cut l [c]).2.1 ∧ c ∉ (Lib.cut l [c]).1) := by
  unfold Lib.cut
  rcases index_one c l with ⟨h1, h2⟩ | ⟨p, q, rfl, h2, h3⟩
  · rw [h1, if_neg (by omega)]; exact .inl ⟨rfl, rfl, h2⟩
  · rw [h3, if_pos (by omega)]
    right
    have e : ((p.length : Int)).toNat = p.length := by omega
    rw [e]
    simp [h2]
end Go.Proofs.YtmmjbdffpgohdaaDoor
