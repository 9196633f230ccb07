/- The walk of impl.parseSupport. Condition: the library's listed variables are as laid. -/
import Derived.Test.YtmmjbdffpgohdaaDoorParseMath
import Derived.Test.YtmmjbdffpgohdaaDoorParseW
import Derived.Test.YtmmjbdffpgohdaaDoorIsLineC
namespace Go.Proofs.YtmmjbdffpgohdaaDoor
open Go.RowKit
set_option linter.unusedVariables false
/-- The library's variable that its search reads is a number. -/
def MlP (w : World) : Prop := ∃ m : Int, w.cell? ⟨0, 0, none⟩ = some (.int .i64 m)
theorem MlP.below {w w' : World} (h : MlP w) (hb : Below w.heap.size w w') : MlP w' := by
  obtain ⟨m, hm⟩ := h
  have hlt := World.block_lt_of_cell? w _ hm
  exact ⟨m, (hb.cell (p := ⟨0, 0, none⟩) hlt).trans hm⟩
theorem ml_of {w : World} (h : w.ShapedOpen Tryd.prog) : MlP w := Tryd.laysM145.s1_3 w h
/-- All that the parser reads of the library's variables. -/
structure Vars (w : World) : Prop where
  tab : TabP w
  err : ErrP w
  ml : MlP w
theorem Vars.below {w w' : World} (h : Vars w) (hb : Below w.heap.size w w') : Vars w' := ⟨h.tab.below hb, h.err.below hb, h.ml.below hb⟩
/-- What ParseInt answers at any text. -/
theorem ParseInt_any (s : ByteArray) (w : World) (hs : s.size ≤ maxLen) (hv : Vars w) (n : Int) (b : Bool) (h : (b = true ∧ num n = s ∧ -999999 ≤ n ∧ n ≤ 999999) ∨ (b = false ∧ n = 0 ∧ ¬ Dec s)) :
    Calls Tryd.prog 38 #[.string s] w fun e w' => e = .returned (.tuple #[.int .i64 n, .bool b]) ∧ Below w.heap.size w w' := by
  rcases h with ⟨rfl, rfl, h0, h1⟩ | ⟨rfl, rfl, h0⟩
  · exact ParseInt_yes n w h0 h1 hv.tab
  · exact ParseInt_no s w hs h0 hv.tab hv.err
theorem dec_cases (s : ByteArray) : ∃ (n : Int) (b : Bool), (b = true ∧ num n = s ∧ -999999 ≤ n ∧ n ≤ 999999) ∨ (b = false ∧ n = 0 ∧ ¬ Dec s) := by
  by_cases h : Dec s
  · obtain ⟨n, h0, h1, h2⟩ := h
    exact ⟨n, true, .inl ⟨rfl, h2, h0, h1⟩⟩
  · exact ⟨0, false, .inr ⟨rfl, rfl, h⟩⟩
def SupRes (x : Sup) (b : Bool) : Value := .tuple #[.agg #[.int .i64 x.a, .int .i64 x.h, .bool x.s], .bool b]
def noSup : Sup := ⟨0, 0, false⟩
def cutP (t : ByteArray) : ByteArray := ⟨(Lib.cut t.data.toList [58]).1.toArray⟩
def cutT (t : ByteArray) : ByteArray := ⟨(Lib.cut t.data.toList [58]).2.1.toArray⟩
def cutF (t : ByteArray) : Bool := (Lib.cut t.data.toList [58]).2.2
theorem cut_c (t : ByteArray) (w : World) (hs : t.size ≤ 4000) (hm : MlP w) :
    Calls Tryd.prog 37 #[.string t, .string ⟨#[58]⟩] w fun e w' => e = .returned (.tuple #[.string (cutP t), .string (cutT t), .bool (cutF t)]) ∧ Drew w w' := by
  obtain ⟨m, hm⟩ := hm
  exact Tryd.strings_Cut t ⟨#[58]⟩ m w (by omega) hm
theorem cutP_list (t : ByteArray) : (cutP t).data.toList = (Lib.cut t.data.toList [58]).1 := by simp [cutP]
theorem cutT_list (t : ByteArray) : (cutT t).data.toList = (Lib.cut t.data.toList [58]).2.1 := by simp [cutT]
theorem cut_sizes (t : ByteArray) : (cutP t).size ≤ t.size ∧ (cutT t).size ≤ t.size := by
  rw [← sz_list, ← sz_list, ← sz_list, cutP_list, cutT_list]
  rcases cut_one 58 t.data.toList with ⟨h1, h2, _⟩ | ⟨h, _⟩
  · rw [h1, h2]; simp
  · have := congrArg List.length h
    simp only [List.length_append, List.length_cons] at this
    omega
theorem dec_ne {s : ByteArray} (h : Dec s) : s.data.toList ≠ [] := by
  obtain ⟨n, h0, h1, rfl⟩ := h
  intro e
  have := (num_size n h0 h1).2
  rw [← sz_list, e] at this
  simp at this
theorem cut_found {t : ByteArray} (h : Dec (cutT t)) : t.data.toList = (cutP t).data.toList ++ 58 :: (cutT t).data.toList := by
  have hn := dec_ne h
  rw [cutT_list] at hn
  rw [cutP_list, cutT_list]
  rcases cut_one 58 t.data.toList with ⟨_, h2, _⟩ | ⟨h, _⟩
  · exact absurd h2 hn
  · exact h
theorem cut_at {t : ByteArray} {p q : List UInt8} (h : t.data.toList = p ++ 58 :: q) (hp : (58 : UInt8) ∉ p) : (cutP t).data.toList = p ∧ (cutT t).data.toList = q := by
  rw [cutP_list, cutT_list]
  rcases cut_one 58 t.data.toList with ⟨_, _, h3⟩ | ⟨h3, h4⟩
  · exfalso; apply h3; rw [h]; simp
  · rw [h] at h3 h4 ⊢
    obtain ⟨h5, h6⟩ := first_eq hp h4 h3
    exact ⟨h5.symm, h6.symm⟩
/-- What stands behind the first byte decides. -/
theorem sup_decides {s : ByteArray} {x : Sup} {b : Bool} {k : UInt8} {r : List UInt8} {t : ByteArray} (hl : s.data.toList = k :: r) (ht : t.data.toList = r) (hk : k = 83 ∨ k = 84)
    (hx : (b = true ∧ Sm x ∧ supT x = s) ∨ (b = false ∧ x = noSup ∧ ¬ Txt s)) {n1 n2 : Int} {b1 b2 : Bool}
    (h1 : (b1 = true ∧ num n1 = cutP t ∧ -999999 ≤ n1 ∧ n1 ≤ 999999) ∨ (b1 = false ∧ n1 = 0 ∧ ¬ Dec (cutP t)))
    (h2 : (b2 = true ∧ num n2 = cutT t ∧ -999999 ≤ n2 ∧ n2 ≤ 999999) ∨ (b2 = false ∧ n2 = 0 ∧ ¬ Dec (cutT t))) :
    (b1 = true ∧ b2 = true ∧ b = true ∧ x = ⟨n1, n2, decide (k = 83)⟩) ∨ ((b1 = false ∨ b2 = false) ∧ b = false ∧ x = noSup) := by
  have hyes : ∀ y : Sup, supT y = s → Sm y → Dec (cutP t) ∧ Dec (cutT t) := by
    intro y hy hs
    have e := congrArg (fun b : ByteArray => b.data.toList) hy
    simp only [supT_list, hl, List.cons.injEq] at e
    have e2 : t.data.toList = (num y.a).data.toList ++ 58 :: (num y.h).data.toList := by rw [ht]; exact e.2.symm
    obtain ⟨e3, e4⟩ := cut_at e2 (num_no (.inl rfl))
    exact ⟨⟨y.a, hs.1.1, hs.1.2, (ba_ext e3).symm⟩, ⟨y.h, hs.2.1, hs.2.2, (ba_ext e4).symm⟩⟩
  have hno : (b1 = false ∨ b2 = false) → b = false ∧ x = noSup := by
    intro hb
    rcases hx with ⟨_, hs, h⟩ | ⟨h3, h4, _⟩
    · obtain ⟨d1, d2⟩ := hyes x h hs
      rcases hb with hb | hb
      · rcases h1 with ⟨h, _⟩ | ⟨_, _, h⟩
        · rw [hb] at h; cases h
        · exact absurd d1 h
      · rcases h2 with ⟨h, _⟩ | ⟨_, _, h⟩
        · rw [hb] at h; cases h
        · exact absurd d2 h
    · exact ⟨h3, h4⟩
  rcases h1 with ⟨rfl, p1, p2, p3⟩ | ⟨rfl, _, _⟩
  · rcases h2 with ⟨rfl, q1, q2, q3⟩ | ⟨rfl, _, _⟩
    · have hf := cut_found (t := t) ⟨n2, q2, q3, q1⟩
      rw [← p1, ← q1, ht] at hf
      have hsup : supT ⟨n1, n2, decide (k = 83)⟩ = s := by
        apply ba_ext
        rw [supT_list, hl, hf]
        congr 1
        unfold kb
        rcases hk with rfl | rfl <;> simp
      refine .inl ⟨rfl, rfl, ?_⟩
      rcases hx with ⟨h3, _, h⟩ | ⟨_, _, h⟩
      · exact ⟨h3, supT_inj (h.trans hsup.symm)⟩
      · exact absurd ⟨_, ⟨⟨p2, p3⟩, ⟨q2, q3⟩⟩, hsup⟩ h
    · exact .inr ⟨.inr rfl, hno (.inr rfl)⟩
  · exact .inr ⟨.inl rfl, hno (.inl rfl)⟩
theorem noTxt {s : ByteArray} {x : Sup} {b : Bool} (hx : (b = true ∧ Sm x ∧ supT x = s) ∨ (b = false ∧ x = noSup ∧ ¬ Txt s)) (h : ¬ Txt s) : b = false ∧ x = noSup := by
  rcases hx with ⟨_, h1, h2⟩ | ⟨h1, h2, _⟩
  · exact absurd ⟨x, h1, h2⟩ h
  · exact ⟨h1, h2⟩
set_option maxRecDepth 100000 in
set_option maxHeartbeats 4000000 in
theorem parseSupport_c (s : ByteArray) (x : Sup) (b : Bool) (w : World) (hs : s.size ≤ 4000) (hv : Vars w) (hx : (b = true ∧ Sm x ∧ supT x = s) ∨ (b = false ∧ x = noSup ∧ ¬ Txt s)) :
    Calls Tryd.prog 26 #[.string s] w fun e w' => e = .returned (SupRes x b) ∧ Below w.heap.size w w' := by
  by_cases h0 : s.size = 0
  · have hnil : s.data.toList = [] := by
      apply List.eq_nil_of_length_eq_zero; rw [sz_list]; exact h0
    obtain ⟨rfl, rfl⟩ := noTxt hx (by
      rintro ⟨y, _, hy⟩
      have := congrArg (fun b : ByteArray => b.data.toList) hy
      simp only [supT_list, hnil] at this
      cases this)
    obtain rfl : s = ⟨#[]⟩ := ba_ext (by rw [hnil])
    clear hx hv hnil
    go_enter Tryd.func26, Tryd.ntmps26
    go_wp2
    exact bodyPost_ret (v := SupRes noSup false) (by simp [results, Tryd.results26, go_sem, SupRes, noSup]) rfl ⟨rfl, (Below.refl _ _).alloc (Nat.le_refl _) _⟩
  · obtain ⟨k, r, hl⟩ : ∃ k r, s.data.toList = k :: r := by
      cases h : s.data.toList with
      | nil => have := sz_list s; rw [h] at this; simp at this; omega
      | cons k r => exact ⟨k, r, rfl⟩
    have hpos : 0 < s.size := by omega
    have hk : s[0] = k := head_byte s k r hl hpos
    have ht : (s.extract 1 s.size).data.toList = r := tail_list s k r hl
    have hne1 : ¬ s.toList = [] := by rw [ByteArray.toList_eq]; show ¬ s.data.toList = []; rw [hl]; simp
    have hne2 : s.toList.isEmpty = false := by simpa using hne1
    by_cases hk2 : k = 83 ∨ k = 84
    · obtain ⟨n1, b1, h1⟩ := dec_cases (cutP (s.extract 1 s.size))
      obtain ⟨n2, b2, h2⟩ := dec_cases (cutT (s.extract 1 s.size))
      have HD := Lib.hid (sup_decides hl ht hk2 hx h1 h2)
      have hzz := cut_sizes (s.extract 1 s.size)
      have hz : (s.extract 1 s.size).size ≤ s.size := by simp
      have H1 := Lib.hid h1
      have H2 := Lib.hid h2
      have hW : Hid (∀ W, Below w.heap.size w W → Vars W) := Lib.hid (fun W hW => hv.below hW)
      have hdk : Hid (decide (k = 83) = ((s[0].toNat : Int) == 83)) := Lib.hid (by
        rw [hk]
        rcases hk2 with rfl | rfl <;> decide)
      have hgu : (((s[0].toNat : Int) != 83) = false) ∨ (((s[0].toNat : Int) != 83) = true ∧ ((s[0].toNat : Int) != 84) = false) := by
        rw [hk]
        rcases hk2 with rfl | rfl <;> decide
      clear h1 h2 hx hk hl ht hk2 hv
      rcases hgu with hgu | ⟨hgu, hgu2⟩
      all_goals
        go_enter Tryd.func26, Tryd.ntmps26
        go_wp2_with fail
        refine (cut_c (s.extract 1 s.size) _ (by omega) (hW.out _ ((Below.refl _ _).alloc (Nat.le_refl _) _)).ml).mono ?_
        rintro e w1 ⟨rfl, d1⟩
        have B1 := Lib.hid (Drew.below_trans ((Below.refl w.heap.size w).alloc (Nat.le_refl _) (.cells #[.int .i64 0, .int .i64 0, .bool false] 33)) d1)
        go_wp2_with fail
        refine (ParseInt_any _ _ (by unfold maxLen; omega) (hW.out _ B1.out) n1 b1 H1.out).mono ?_
        rintro e w2 ⟨rfl, b2'⟩
        have B2 := Lib.hid (B1.out.trans (b2'.mono B1.out.size))
        go_wp2_with fail
        refine (ParseInt_any _ _ (by unfold maxLen; omega) (hW.out _ B2.out) n2 b2 H2.out).mono ?_
        rintro e w3 ⟨rfl, b3'⟩
        have B3 := Lib.hid (B2.out.trans (b3'.mono B2.out.size))
        have l1 : w.heap.size < w1.heap.size := by rw [d1.size]; simp
        have l2 : w.heap.size < w2.heap.size := Nat.lt_of_lt_of_le l1 b2'.size
        have l3 : w.heap.size < w3.heap.size := Nat.lt_of_lt_of_le l2 b3'.size
        have blk : w3.heap[w.heap.size]? = some (.cells #[.int .i64 0, .int .i64 0, .bool false] 33 (0, 0)) := by
          rw [b3'.block _ l2, b2'.block _ l1]
          obtain ⟨m, rfl⟩ := d1
          exact heap_alloc_new w _
        have q0 := cell_of_row w3 w.heap.size 0 _ _ _ blk
        have q1 := cell_of_row w3 w.heap.size 1 _ _ _ blk
        have q2 := cell_of_row w3 w.heap.size 2 _ _ _ blk
        have f0 := frozen_of_row w3 w.heap.size 0 _ _ blk
        have f1 := frozen_of_row w3 w.heap.size 1 _ _ blk
        have f2 := frozen_of_row w3 w.heap.size 2 _ _ blk
        simp at q0 q1 q2
        clear d1 b2' b3' blk l1 l2
        rcases HD.out with ⟨rfl, rfl, rfl, rfl⟩ | ⟨hb12, rfl, rfl⟩
        · go_wp2
          refine bodyPost_ret (v := SupRes ⟨n1, n2, ((s[0].toNat : Int) == 83)⟩ true) (by simp [results, Tryd.results26, go_sem, SupRes, q0, q1, q2]) rfl ⟨by rw [hdk.out], ?_⟩
          exact Below.setCell (p := ⟨w.heap.size, 2, none⟩) (Below.setCell (p := ⟨w.heap.size, 1, none⟩) (Below.setCell (p := ⟨w.heap.size, 0, none⟩) B3.out (Nat.le_refl _) _) (Nat.le_refl _) _) (Nat.le_refl _) _
        · cases b1 with
          | false =>
            go_wp2
            refine bodyPost_ret (v := SupRes noSup false) (by simp [results, Tryd.results26, go_sem, SupRes, noSup, q0, q1, q2]) rfl ⟨rfl, ?_⟩
            exact Below.setCell (p := ⟨w.heap.size, 2, none⟩) (Below.setCell (p := ⟨w.heap.size, 1, none⟩) (Below.setCell (p := ⟨w.heap.size, 0, none⟩) B3.out (Nat.le_refl _) _) (Nat.le_refl _) _) (Nat.le_refl _) _
          | true =>
            obtain rfl : b2 = false := by rcases hb12 with h | h <;> simp_all
            go_wp2
            refine bodyPost_ret (v := SupRes noSup false) (by simp [results, Tryd.results26, go_sem, SupRes, noSup, q0, q1, q2]) rfl ⟨rfl, ?_⟩
            exact Below.setCell (p := ⟨w.heap.size, 2, none⟩) (Below.setCell (p := ⟨w.heap.size, 1, none⟩) (Below.setCell (p := ⟨w.heap.size, 0, none⟩) B3.out (Nat.le_refl _) _) (Nat.le_refl _) _) (Nat.le_refl _) _
    · obtain ⟨rfl, rfl⟩ := noTxt hx (by
        rintro ⟨y, _, hy⟩
        have := congrArg (fun b : ByteArray => b.data.toList) hy
        simp only [supT_list, hl, List.cons.injEq] at this
        apply hk2; rw [← this.1]; unfold kb; split <;> simp)
      have e1 : ((s[0].toNat : Int) != 83) = true := by rw [bne_iff_ne, hk]; intro h; exact hk2 (.inl (UInt8.toNat_inj.1 (by show k.toNat = 83; omega)))
      have e2 : ((s[0].toNat : Int) != 84) = true := by rw [bne_iff_ne, hk]; intro h; exact hk2 (.inr (UInt8.toNat_inj.1 (by show k.toNat = 84; omega)))
      clear hx hv hk2 hk ht hl
      go_enter Tryd.func26, Tryd.ntmps26
      go_wp2
      exact bodyPost_ret (v := SupRes noSup false) (by simp [results, Tryd.results26, go_sem, SupRes, noSup]) rfl ⟨rfl, (Below.refl _ _).alloc (Nat.le_refl _) _⟩
end Go.Proofs.YtmmjbdffpgohdaaDoor
