/- ParseCabin's plain meaning: the cabin whose text it is; how the program's cuts find it. No condition. -/
import Derived.Test.YtiogjocbiagipabDoorCabTextC
import Derived.Test.YtiogjocbiagipabDoorParseMath
import Derived.Test.YtiogjocbiagipabDoorParseW
namespace Go.Proofs.YtiogjocbiagipabDoor
open Go.RowKit
set_option linter.unusedVariables false
def cabB : ByteArray := ⟨#[99, 97, 98, 105, 110, 32]⟩
def colB : ByteArray := ⟨#[58, 32]⟩
def seatB : ByteArray := ⟨#[32, 115, 101, 97, 116, 115, 44, 32]⟩
def kgB : ByteArray := ⟨#[32, 107, 103, 44, 32]⟩
def comB : ByteArray := ⟨#[44, 32]⟩
def tripB : ByteArray := ⟨#[32, 116, 114, 105, 112, 115]⟩
theorem cabT_list (c : Cab) : (cabT c).data.toList = cabB.data.toList ++ ((num c.i).data.toList ++ (58 :: [32] ++ ((num c.s).data.toList ++ (32 :: [115, 101, 97, 116, 115, 44, 32] ++ ((num c.w).data.toList ++ (32 :: [107, 103, 44, 32] ++ ((staT c.g).data.toList ++ (44 :: [32] ++ ((num c.p).data.toList ++ tripB.data.toList))))))))) := by
  unfold cabT
  simp only [ByteArray.data_append, Array.toList_append, List.append_assoc]
  rfl
theorem index_at {x : UInt8} {t q : List UInt8} : ∀ {p : List UInt8}, x ∉ p → Lib.index (p ++ (x :: t ++ q)) (x :: t) = (p.length : Int)
  | [], _ => by
    have h : (x :: t).isPrefixOf (x :: (t ++ q)) = true := by rw [List.isPrefixOf_iff_prefix]; exact List.prefix_append (x :: t) q
    show Lib.index (x :: (t ++ q)) (x :: t) = 0
    rw [Lib.index, if_pos h]
  | b :: p, hn => by
    have h1 : x ≠ b := fun e => hn (by simp [e])
    have h2 : (x :: t).isPrefixOf (b :: (p ++ (x :: t ++ q))) = false := by
      simp only [List.isPrefixOf, Bool.and_eq_false_iff]; left; simpa using h1
    have h3 := index_at (t := t) (q := q) (p := p) (fun hm => hn (List.mem_cons_of_mem _ hm))
    show Lib.index (b :: (p ++ (x :: t ++ q))) (x :: t) = _
    rw [Lib.index, h2, if_neg (by simp), h3]
    simp only [List.length_cons]
    split
    · rename_i hh; simp at hh
    · rfl
theorem cut_at2 {x : UInt8} {t p q : List UInt8} (h : x ∉ p) : Lib.cut (p ++ (x :: t ++ q)) (x :: t) = (p, q, true) := by
  unfold Lib.cut
  rw [index_at h, if_pos (by omega)]
  have e : ((p.length : Int)).toNat = p.length := by omega
  rw [e]
  simp only [List.take_left', Prod.mk.injEq, true_and, and_true]
  rw [← List.drop_drop, List.drop_left' rfl, List.drop_left' rfl]
theorem trimP (p q : List UInt8) : Lib.trimPrefix (p ++ q) p = q := by
  unfold Lib.trimPrefix Lib.hasPrefix
  rw [if_pos (by rw [List.isPrefixOf_iff_prefix]; exact List.prefix_append _ _), List.drop_left' rfl]
theorem trimS (p q : List UInt8) : Lib.trimSuffix (q ++ p) p = q := by
  unfold Lib.trimSuffix Lib.hasSuffix
  rw [if_pos (by rw [List.isSuffixOf_iff_suffix]; exact List.suffix_append _ _), List.length_append, Nat.add_sub_cancel, List.take_left' rfl]
/-! What the program's cuts give. -/
def tpB (s p : ByteArray) : ByteArray := ⟨(Lib.trimPrefix s.data.toList p.data.toList).toArray⟩
def tsB (s p : ByteArray) : ByteArray := ⟨(Lib.trimSuffix s.data.toList p.data.toList).toArray⟩
def cpB (s p : ByteArray) : ByteArray := ⟨(Lib.cut s.data.toList p.data.toList).1.toArray⟩
def ctB (s p : ByteArray) : ByteArray := ⟨(Lib.cut s.data.toList p.data.toList).2.1.toArray⟩
def cfB (s p : ByteArray) : Bool := (Lib.cut s.data.toList p.data.toList).2.2
theorem tsB_list (s p : ByteArray) : (tsB s p).data.toList = Lib.trimSuffix s.data.toList p.data.toList := by simp [tsB]
theorem tpB_list (s p : ByteArray) : (tpB s p).data.toList = Lib.trimPrefix s.data.toList p.data.toList := by simp [tpB]
theorem cpB_list (s p : ByteArray) : (cpB s p).data.toList = (Lib.cut s.data.toList p.data.toList).1 := by simp [cpB]
theorem ctB_list (s p : ByteArray) : (ctB s p).data.toList = (Lib.cut s.data.toList p.data.toList).2.1 := by simp [ctB]
theorem bsz (s : ByteArray) : s.size = s.data.toList.length := (size_list s).symm
theorem mksz (l : List UInt8) : (⟨l.toArray⟩ : ByteArray).size = l.length := by rw [bsz]
theorem tpB_size (s p : ByteArray) : (tpB s p).size ≤ s.size := by
  rw [tpB, mksz, bsz]; unfold Lib.trimPrefix; split <;> simp
theorem tsB_size (s p : ByteArray) : (tsB s p).size ≤ s.size := by
  rw [tsB, mksz, bsz]; unfold Lib.trimSuffix; split
  · rw [List.length_take]; omega
  · exact Nat.le_refl _
theorem cpB_size (s p : ByteArray) : (cpB s p).size ≤ s.size := by
  rw [cpB, mksz, bsz]; unfold Lib.cut; split
  · show (List.take _ _).length ≤ _; rw [List.length_take]; omega
  · exact Nat.le_refl _
theorem ctB_size (s p : ByteArray) : (ctB s p).size ≤ s.size := by
  rw [ctB, mksz, bsz]; unfold Lib.cut; split
  · show (List.drop _ _).length ≤ _; rw [List.length_drop]; omega
  · exact Nat.zero_le _
/-- The state of a name, or -1. -/
def stN (x : ByteArray) : Int := if x = staT 0 then 0 else if x = staT 1 then 1 else if x = staT 2 then 2 else if x = staT 3 then 3 else -1
theorem stN_sta {g : Int} (h : 0 ≤ g ∧ g ≤ 3) : stN (staT g) = g := by
  rcases (by omega : g = 0 ∨ g = 1 ∨ g = 2 ∨ g = 3) with rfl | rfl | rfl | rfl <;> decide
theorem num_no2 {n : Int} {c : UInt8} (h : c = 58 ∨ c = 32 ∨ c = 44) : c ∉ (num n).data.toList := by
  rcases h with h | h | h
  · exact num_no (.inl h)
  · exact num_no (.inr h)
  · intro hc
    subst h
    rcases num_bytes n _ hc with h | h
    · cases h
    · revert h; decide
theorem sta_no44 (g : Int) : (44 : UInt8) ∉ (staT g).data.toList := by
  unfold staT; repeat' split
  all_goals decide
structure Parts where
  a : ByteArray
  b : ByteArray
  e : ByteArray
  s : ByteArray
  t : ByteArray
/-- The five parts that the cuts give. -/
def parts (s : ByteArray) : Parts :=
  let r0 := tpB s cabB
  let r1 := ctB r0 colB
  let r2 := ctB r1 seatB
  let r3 := ctB r2 kgB
  ⟨cpB r0 colB, cpB r1 seatB, cpB r2 kgB, cpB r3 comB, tsB (ctB r3 comB) tripB⟩
theorem parts_eq (s : ByteArray) : parts s = ⟨cpB (tpB s cabB) colB, cpB (ctB (tpB s cabB) colB) seatB, cpB (ctB (ctB (tpB s cabB) colB) seatB) kgB, cpB (ctB (ctB (ctB (tpB s cabB) colB) seatB) kgB) comB, tsB (ctB (ctB (ctB (ctB (tpB s cabB) colB) seatB) kgB) comB) tripB⟩ := rfl
theorem ba_mk (s : ByteArray) : (⟨s.data.toList.toArray⟩ : ByteArray) = s := ba_ext (by simp)
theorem parts_of (c : Cab) : parts (cabT c) = ⟨num c.i, num c.s, num c.w, staT c.g, num c.p⟩ := by
  have h0 : (tpB (cabT c) cabB).data.toList = (num c.i).data.toList ++ (58 :: [32] ++ ((num c.s).data.toList ++ (32 :: [115, 101, 97, 116, 115, 44, 32] ++ ((num c.w).data.toList ++ (32 :: [107, 103, 44, 32] ++ ((staT c.g).data.toList ++ (44 :: [32] ++ ((num c.p).data.toList ++ tripB.data.toList)))))))) := by
    rw [tpB_list, cabT_list, trimP]

  have cut2 : ∀ (r sp : ByteArray) (x : UInt8) (t p q : List UInt8), sp.data.toList = x :: t → r.data.toList = p ++ (x :: t ++ q) → x ∉ p → (cpB r sp).data.toList = p ∧ (ctB r sp).data.toList = q := by
    intro r sp x t p q hs hr hx
    have h : Lib.cut r.data.toList sp.data.toList = (p, q, true) := by rw [hs, hr]; exact cut_at2 hx
    constructor
    · rw [cpB_list, h]
    · rw [ctB_list, h]
  obtain ⟨a1, r1⟩ := cut2 _ colB 58 [32] _ _ rfl h0 (num_no2 (.inl rfl))
  obtain ⟨a2, r2⟩ := cut2 _ seatB 32 [115, 101, 97, 116, 115, 44, 32] _ _ rfl r1 (num_no2 (.inr (.inl rfl)))
  obtain ⟨a3, r3⟩ := cut2 _ kgB 32 [107, 103, 44, 32] _ _ rfl r2 (num_no2 (.inr (.inl rfl)))
  obtain ⟨a4, r4⟩ := cut2 _ comB 44 [32] _ _ rfl r3 (sta_no44 _)
  have a5 : (tsB (ctB (ctB (ctB (ctB (tpB (cabT c) cabB) colB) seatB) kgB) comB) tripB).data.toList = (num c.p).data.toList := by
    rw [tsB_list, r4]; exact trimS _ _
  have e1 := ba_ext a1
  have e2 := ba_ext a2
  have e3 := ba_ext a3
  have e4 := ba_ext a4
  have e5 := ba_ext a5
  rw [parts_eq, e1, e2, e3, e4, e5]
/-- The cabins whose texts are told. -/
theorem cab_inj {c d : Cab} (hc : isC c = true) (hd : isC d = true) (h : cabT c = cabT d) : c = d := by
  have h1 := parts_of c
  rw [h, parts_of d] at h1
  simp only [Parts.mk.injEq] at h1
  obtain ⟨e1, e2, e3, e4, e5⟩ := h1
  have gc := ((isC_iff c).1 hc).2.2.2.1
  have gd := ((isC_iff d).1 hd).2.2.2.1
  have e6 := congrArg stN e4
  rw [stN_sta gc, stN_sta gd] at e6
  exact Cab.ext (num_inj e1).symm (num_inj e2).symm (num_inj e3).symm e6.symm (num_inj e5).symm
def Pc (s : ByteArray) (c : Cab) : Prop := isC c = true ∧ cabT c = s
noncomputable def pcOk (s : ByteArray) : Bool := @decide (∃ c, Pc s c) (Classical.propDecidable _)
noncomputable def pcC (s : ByteArray) : Cab := @dite _ (∃ c, Pc s c) (Classical.propDecidable _) (fun h => h.choose) (fun _ => ⟨0, 0, 0, 0, 0⟩)
theorem pc_yes {s : ByteArray} {c : Cab} (h : Pc s c) : pcOk s = true ∧ pcC s = c := by
  have hx : ∃ c, Pc s c := ⟨c, h⟩
  refine ⟨by unfold pcOk; simp [hx], ?_⟩
  unfold pcC
  rw [dif_pos hx]
  have h2 := hx.choose_spec
  exact cab_inj h2.1 h.1 (h2.2.trans h.2.symm)
theorem pc_no {s : ByteArray} (h : ∀ c, ¬ Pc s c) : pcOk s = false ∧ pcC s = ⟨0, 0, 0, 0, 0⟩ := by
  have hx : ¬ ∃ c, Pc s c := fun ⟨c, hc⟩ => h c hc
  exact ⟨by unfold pcOk; simp [hx], by unfold pcC; rw [dif_neg hx]⟩
/-- A number read off a part. -/
def RdN (x : ByteArray) (n : Int) (b : Bool) : Prop := (b = true ∧ num n = x ∧ -999999 ≤ n ∧ n ≤ 999999) ∨ (b = false ∧ n = 0 ∧ ¬ Dec x)
theorem RdN.of {x : ByteArray} {n m : Int} {b : Bool} (h : RdN x n b) (hx : x = num m) (h0 : -999999 ≤ m) (h1 : m ≤ 999999) : n = m := by
  rcases h with ⟨_, h, _, _⟩ | ⟨_, _, h⟩
  · exact num_inj (h.trans hx)
  · exact absurd ⟨m, h0, h1, hx.symm⟩ h
theorem rdN_ex (x : ByteArray) : ∃ (n : Int) (b : Bool), RdN x n b := by
  by_cases h : Dec x
  · obtain ⟨n, h0, h1, h2⟩ := h
    exact ⟨n, true, .inl ⟨rfl, h2, h0, h1⟩⟩
  · exact ⟨0, false, .inr ⟨rfl, rfl, h⟩⟩
theorem RdN.bd {x : ByteArray} {n : Int} {b : Bool} (h : RdN x n b) : -999999 ≤ n ∧ n ≤ 999999 := by
  rcases h with ⟨_, _, h0, h1⟩ | ⟨_, rfl, _⟩
  · exact ⟨h0, h1⟩
  · omega
/-- What the program reads is the cabin, if there is one. -/
theorem impl_finds {s : ByteArray} {n1 n2 n3 n4 : Int} {b1 b2 b3 b4 : Bool} (h1 : RdN (parts s).a n1 b1) (h2 : RdN (parts s).b n2 b2) (h3 : RdN (parts s).e n3 b3) (h4 : RdN (parts s).t n4 b4) {d : Cab} (hd : Pc s d) : (⟨n1, n2, n3, stN (parts s).s, n4⟩ : Cab) = d := by
  obtain ⟨hv, rfl⟩ := hd
  obtain ⟨g1, g2, g3, g4, g5⟩ := (isC_iff d).1 hv
  rw [parts_of d] at h1 h2 h3 h4 ⊢
  exact Cab.ext (h1.of rfl (by omega) (by omega)) (h2.of rfl (by omega) (by omega)) (h3.of rfl (by omega) (by omega)) (stN_sta g4) (h4.of rfl (by omega) (by omega))
end Go.Proofs.YtiogjocbiagipabDoor
