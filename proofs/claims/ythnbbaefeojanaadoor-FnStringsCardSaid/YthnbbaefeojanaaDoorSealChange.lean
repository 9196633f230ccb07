/- A sealed string with one byte changed is not sealed: plain facts. No condition. -/
import Derived.Test.YthnbbaefeojanaaDoorSealMath
import Derived.Test.YthnbbaefeojanaaDoorReadMath
namespace Go.Proofs.YthnbbaefeojanaaDoor
open Go.RowKit
set_option linter.unusedVariables false
theorem uniq_mark {α : Type} (m : α) : ∀ (a c b d : List α), m ∉ a → m ∉ c → a ++ m :: b = c ++ m :: d → a = c ∧ b = d := by
  intro a
  induction a with
  | nil =>
    intro c b d _ hc h
    cases c with
    | nil => simp at h; exact ⟨rfl, h⟩
    | cons y c => simp at h; exact absurd (by rw [h.1]; simp) hc
  | cons x a ih =>
    intro c b d ha hc h
    cases c with
    | nil => simp at h; exact absurd (by rw [h.1]; simp) ha
    | cons y c =>
      simp at h
      obtain ⟨h1, h2⟩ := h
      obtain ⟨e1, e2⟩ := ih c b d (fun hm => ha (by simp [hm])) (fun hm => hc (by simp [hm])) h2
      exact ⟨by rw [h1, e1], e2⟩
def ckf (h : Int) (l : List UInt8) : Int := l.foldl (fun h c => (41 * h + (c.toNat : Int) + 1) % 999979) h
theorem ckf_inj (q : List UInt8) : ∀ h1 h2 : Int, 0 ≤ h1 → h1 < 999979 → 0 ≤ h2 → h2 < 999979 → ckf h1 q = ckf h2 q → h1 = h2 := by
  induction q with
  | nil => intro h1 h2 _ _ _ _ h; exact h
  | cons c q ih =>
    intro h1 h2 a1 a2 b1 b2 h
    have := ih ((41 * h1 + (c.toNat : Int) + 1) % 999979) ((41 * h2 + (c.toNat : Int) + 1) % 999979) (by omega) (by omega) (by omega) (by omega) h
    omega
theorem ck_change (p q : List UInt8) (c c' : UInt8) (h : ck (p ++ c :: q) = ck (p ++ c' :: q)) : c = c' := by
  have e : ∀ d : UInt8, ck (p ++ d :: q) = ckf ((41 * ck p + (d.toNat : Int) + 1) % 999979) q := by
    intro d; simp [ck, ckf, List.foldl_append]
  rw [e, e] at h
  have hb := ck_bd p
  have := ckf_inj q _ _ (by omega) (by omega) (by omega) (by omega) h
  have h1 := c.toNat_lt
  have h2 := c'.toNat_lt
  exact UInt8.toNat_inj.1 (by omega)
theorem num_no (n : Int) (h : 0 ≤ n) : (35 : UInt8) ∉ (num n).data.toList := by
  rw [num_list, Lib.itoa, if_neg (by omega)]
  intro hm
  have := decDigits_dig _ _ hm
  simp at this
theorem seal_list (s : ByteArray) : (sealB s).data.toList = s.data.toList ++ 35 :: (num (ck s.data.toList)).data.toList := by
  simp [sealB]
theorem seal_change (x y' : ByteArray) (k : Nat) (b' : UInt8) (hx : (35 : UInt8) ∉ x.data.toList) (hk : k < (sealB x).data.toList.length) (hb : (sealB x).data.toList[k] ≠ b')
    (hy : y'.data.toList = (sealB x).data.toList.set k b') : ¬ Vok y' := by
  rintro ⟨_, hs⟩
  have ht := pre_no y'
  have hl : (pre y').data.toList ++ 35 :: (num (ck (pre y').data.toList)).data.toList = (sealB x).data.toList.set k b' := by rw [← seal_list, hs, hy]
  have hdt := num_no (ck (pre y').data.toList) (ck_bd _).1
  have hdx := num_no (ck x.data.toList) (ck_bd _).1
  generalize hD : (num (ck (pre y').data.toList)).data.toList = Dt at hl hdt
  generalize (pre y').data.toList = Lt at hl ht hD
  have hsl := seal_list x
  generalize hDx : (num (ck x.data.toList)).data.toList = Dx at hsl hdx
  generalize (sealB x).data.toList = S at hl hsl hk hb
  generalize hLx : x.data.toList = Lx at hsl hx hDx
  subst hsl
  rcases Nat.lt_trichotomy k Lx.length with hlt | heq | hgt
  · rw [List.set_append_left _ _ hlt] at hl
    have hb1 : Lx[k] ≠ b' := by rwa [List.getElem_append_left hlt] at hb
    have hsplit : Lx = Lx.take k ++ Lx[k] :: Lx.drop (k + 1) := by rw [← List.drop_eq_getElem_cons hlt, List.take_append_drop]
    have hset : Lx.set k b' = Lx.take k ++ b' :: Lx.drop (k + 1) := by rw [List.set_eq_take_append_cons_drop, if_pos hlt]
    by_cases h35 : b' = 35
    · subst h35
      rw [hset, List.append_assoc, List.cons_append] at hl
      have := (uniq_mark 35 _ _ _ _ ht (fun hm => hx (List.mem_of_mem_take hm)) hl).2
      exact hdt (by rw [this]; simp)
    · have hno : (35 : UInt8) ∉ Lx.set k b' := by
        intro hm
        rcases List.mem_or_eq_of_mem_set hm with h | h
        · exact hx h
        · exact h35 h.symm
      obtain ⟨e1, e2⟩ := uniq_mark 35 _ _ _ _ ht hno hl
      have e3 : num (ck Lt) = num (ck Lx) := by
        have h1 : (num (ck Lt)).data.toList = (num (ck Lx)).data.toList := by rw [hD, hDx, e2]
        cases ha : num (ck Lt); cases hb : num (ck Lx)
        rw [ha, hb] at h1
        simp at h1
        rw [h1]
      have e4 := num_inj e3
      rw [e1, hset] at e4
      have e5 := e4.symm
      rw [hsplit] at e5
      have hcc : ck (Lx.take k ++ Lx[k] :: Lx.drop (k + 1)) = ck (Lx.take k ++ b' :: Lx.drop (k + 1)) := by
        rw [← hsplit]; rw [← hsplit] at e5; exact e4.symm
      exact hb1 (ck_change _ _ _ _ hcc)
  · subst heq
    rw [List.set_append_right _ _ (Nat.le_refl _), Nat.sub_self, List.set_cons_zero] at hl
    have hb1 : (35 : UInt8) ≠ b' := by simpa using hb
    have hm : (35 : UInt8) ∈ Lx ++ b' :: Dx := by rw [← hl]; simp
    rcases List.mem_append.1 hm with h | h
    · exact hx h
    · rcases List.mem_cons.1 h with h | h
      · exact hb1 h
      · exact hdx h
  · obtain ⟨j, rfl⟩ : ∃ j, k = Lx.length + 1 + j := ⟨k - Lx.length - 1, by omega⟩
    have hj : j < Dx.length := by simp at hk; omega
    rw [List.set_append_right _ _ (by omega)] at hl
    have e0 : Lx.length + 1 + j - Lx.length = j + 1 := by omega
    rw [e0, List.set_cons_succ] at hl
    obtain ⟨e1, e2⟩ := uniq_mark 35 _ _ _ _ ht hx hl
    have e3 : Dt = Dx := by rw [← hD, ← hDx, e1]
    rw [e3] at e2
    have hb1 : Dx[j] ≠ b' := by
      intro h
      apply hb
      rw [List.getElem_append_right (by omega)]
      simp only [e0, List.getElem_cons_succ]
      exact h
    apply hb1
    have : Dx[j]? = (Dx.set j b')[j]? := by rw [← e2]
    rw [List.getElem?_eq_getElem hj, List.getElem?_set_self hj] at this
    exact Option.some.inj this
end Go.Proofs.YthnbbaefeojanaaDoor
