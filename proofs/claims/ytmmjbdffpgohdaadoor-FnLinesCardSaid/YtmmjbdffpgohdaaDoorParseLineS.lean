/- ParseLine, the specification's. Condition: sizes. -/
import Derived.Test.YtmmjbdffpgohdaaDoorParseLineC
import Derived.Deep.Heap
namespace Go.Proofs.YtmmjbdffpgohdaaDoor
open Go.RowKit
set_option linter.unusedVariables false
/-- What the first k words of any line that s is must be. -/
def Keep (s : ByteArray) (l : List Sup) (k : Nat) : Prop := ∀ m, Pl s m → l = m.take k
theorem sp_word {s : ByteArray} {m : List Sup} {k : Nat} (h : Pl s m) (hk : k < (splitAll 32 s).length) : ∃ x, Sm x ∧ m.take (k + 1) = m.take k ++ [x] ∧ (splitAll 32 s)[k] = supT x := by
  have hw := words_of h
  have hm : k < m.length := by rw [hw, txts_len] at hk; exact hk
  refine ⟨m[k], sm_of h.1 (List.getElem_mem hm), List.take_succ_eq_append_getElem hm, ?_⟩
  have e : (splitAll 32 s)[k]? = (txts m)[k]? := by rw [hw]
  rw [List.getElem?_eq_getElem hk] at e
  simpa [txts, List.getElem?_eq_getElem hm] using e
theorem keep_nil (s : ByteArray) : Keep s [] 0 := fun m _ => by simp
theorem num_pos {n : Int} (h : -999999 ≤ n ∧ n ≤ 999999) : 1 ≤ (num n).size := (num_size n h.1 h.2).2
theorem sz_one (b : UInt8) (t : ByteArray) (x : Sup) (h : t = supK x) : t.size = 1 := by
  subst h; unfold supK; split <;> rfl
theorem sp_no {s : ByteArray} {k : Nat} (hk : k < (splitAll 32 s).length) (h : ∀ f0 f1, splitAll 58 (splitAll 32 s)[k] = [f0, f1] → f0.size < 2) : ∀ m, ¬ Pl s m := by
  intro m hm
  obtain ⟨x, hx, _, he⟩ := sp_word hm hk
  have h1 := h _ _ (by rw [he]; exact supT_split x)
  have h2 := num_pos hx.1
  have h3 := sz_one 0 _ x rfl
  rw [ByteArray.size_append] at h1
  omega
theorem read_of {t : ByteArray} {n m : Int} {b : Bool} (h : (b = true ∧ num n = t ∧ -999999 ≤ n ∧ n ≤ 999999) ∨ (b = false ∧ n = 0 ∧ ¬ Dec t)) (hm : -999999 ≤ m ∧ m ≤ 999999) (ht : t = num m) : n = m := by
  rcases h with ⟨_, h, _, _⟩ | ⟨_, _, h⟩
  · exact num_inj (h.trans ht)
  · exact absurd ⟨m, hm.1, hm.2, ht.symm⟩ h
theorem sp_step {s : ByteArray} {l : List Sup} {k : Nat} (hk : k < (splitAll 32 s).length) (hl : Keep s l k) {f0 f1 : ByteArray} (hf : splitAll 58 (splitAll 32 s)[k] = [f0, f1]) (hp : 0 < f0.size)
    {n1 n2 : Int} {b1 b2 : Bool}
    (h1 : (b1 = true ∧ num n1 = f0.extract 1 f0.size ∧ -999999 ≤ n1 ∧ n1 ≤ 999999) ∨ (b1 = false ∧ n1 = 0 ∧ ¬ Dec (f0.extract 1 f0.size)))
    (h2 : (b2 = true ∧ num n2 = f1 ∧ -999999 ≤ n2 ∧ n2 ≤ 999999) ∨ (b2 = false ∧ n2 = 0 ∧ ¬ Dec f1)) :
    Keep s (l ++ [⟨n1, n2, ((f0[0].toNat : Int) == 83)⟩]) (k + 1) := by
  intro m hm
  obtain ⟨x, hx, ht, he⟩ := sp_word hm hk
  rw [he, supT_split x] at hf
  simp only [List.cons.injEq, and_true] at hf
  obtain ⟨e0, e1⟩ := hf
  have hl0 : f0.data.toList = kb x.s :: (num x.a).data.toList := by
    rw [← e0, ByteArray.data_append, Array.toList_append, supK_list]; rfl
  have ha : n1 = x.a := read_of h1 hx.1 (ba_ext (tail_list f0 _ _ hl0))
  have hh : n2 = x.h := read_of h2 hx.2 e1.symm
  have hs : ((f0[0].toNat : Int) == 83) = x.s := by
    rw [head_byte f0 _ _ hl0 hp]; unfold kb; cases x.s <;> decide
  rw [ht, hl m hm, ha, hh, hs]
theorem keep_all {s : ByteArray} {l m : List Sup} (h : Keep s l (splitAll 32 s).length) (hm : Pl s m) : l = m := by
  have h1 := h m hm
  rw [words_of hm, txts_len, List.take_length] at h1
  exact h1
theorem l1Read_any (s : ByteArray) (n : Int) (b : Bool) (w : World) (hs : s.size ≤ maxLen) (h : (b = true ∧ num n = s ∧ -999999 ≤ n ∧ n ≤ 999999) ∨ (b = false ∧ n = 0 ∧ ¬ Dec s)) :
    Calls Tryd.prog 32 #[.string s] w fun e w' => e = .returned (.tuple #[.int .i64 n, .bool b]) ∧ Below w.heap.size w w' := by
  rcases h with ⟨rfl, rfl, h0, h1⟩ | ⟨rfl, rfl, h0⟩
  · exact l1Read_yes n w h0 h1
  · exact l1Read_no s w hs h0
theorem blk_set {w : World} {b i : Nat} {cs : Array Value} {t : TypeId} {v : Value} (h : w.heap[b]? = some (.cells cs t (0, 0))) : (w.setCell ⟨b, i, none⟩ v).heap[b]? = some (.cells (cs.setIfInBounds i v) t (0, 0)) := by
  simp [World.setCell, Array.getElem?_modify, h]
set_option maxRecDepth 100000 in
set_option maxHeartbeats 4000000 in
theorem specParseLine_c (s : ByteArray) (w : World) (hs : s.size ≤ maxLen) :
    Calls Tryd.prog 17 #[.string s] w fun e w' => ∃ g, e = .returned (.tuple #[g, .bool (plOk s)]) ∧ w'.ownsRow w.heap.size 33 3 g (plL s).length (sups (plL s)) ∧ Below w.heap.size w w' := by
  obtain ⟨i0, hi, hz0, hz1, hz2⟩ := info_parts Tryd.infoSup
  by_cases hbig : 120 < s.size
  · obtain ⟨h1, h2⟩ := pl_big (s := s) hbig
    rw [h1, h2]
    clear h1 h2
    go_enter Tryd.func17, Tryd.ntmps17
    go_wp2
    go_ret2
    exact ⟨_, rfl, World.ownsRow_made w #[] 0 (Nat.le_refl _) (by decide) rfl, (Below.refl _ _).alloc (Nat.le_refl _) _⟩
  · have hsz : s.size ≤ 120 := by omega
    have hlen := splitAll_len 32 s
    clear hbig
    go_enter Tryd.func17, Tryd.ntmps17
    go_wp2_with fail
    refine (l1Split_any s 32 _ (by omega)).mono ?_
    rintro e w1 ⟨v, rfl, o, b1⟩
    have hsh : ∃ a cap, v = .slice a (splitAll 32 s).length cap := by
      rcases own_cases o with ⟨h0, _, a, cap, rfl⟩ | ⟨g, cap, rfl, _⟩
      · omega
      · exact ⟨_, _, rfl⟩
    obtain ⟨va, vc, rfl⟩ := hsh
    have hpos : 0 < (splitAll 32 s).length := by omega
    obtain ⟨g1, rfl, hg1⟩ : ∃ g, va = some ⟨g, 0, none⟩ ∧ g < w1.heap.size := by
      rcases own_cases o with ⟨h0, _, _⟩ | ⟨g, cap, h, _, hg, _⟩
      · omega
      · simp at h; exact ⟨g, h.1, hg⟩
    have HC : Hid (∀ W, Below w1.heap.size w1 W → ∀ k (h : k < (splitAll 32 s).length), W.cell? ⟨g1, k, none⟩ = some (.string (splitAll 32 s)[k])) := Lib.hid (fun W hb k h => by
      have h1 := (hb.cell (p := ⟨g1, k, none⟩) hg1)
      rw [h1]
      exact (o.cellAt k (by omega)).trans (by simp [h]))
    have B1 := Lib.hid b1
    have hs1 := b1.size
    have HWz : Hid (∀ k (h : k < (splitAll 32 s).length), (splitAll 32 s)[k].size ≤ 120) := Lib.hid (fun k h => by have := split_size 32 s (List.getElem_mem h); omega)
    have HNW : Hid (∀ k (h : k < (splitAll 32 s).length), (∀ f0 f1, splitAll 58 (splitAll 32 s)[k] = [f0, f1] → f0.size < 2) → plOk s = false ∧ plL s = []) := Lib.hid (fun k h hx => pl_no (sp_no h hx))
    have HST : Hid (∀ (l : List Sup) (k : Nat) (hk : k < (splitAll 32 s).length), Keep s l k → ∀ (f0 f1 : ByteArray) (hf : splitAll 58 (splitAll 32 s)[k] = [f0, f1]) (hp : 0 < f0.size) (n1 n2 : Int) (b1 b2 : Bool),
      ((b1 = true ∧ num n1 = f0.extract 1 f0.size ∧ -999999 ≤ n1 ∧ n1 ≤ 999999) ∨ (b1 = false ∧ n1 = 0 ∧ ¬ Dec (f0.extract 1 f0.size))) →
      ((b2 = true ∧ num n2 = f1 ∧ -999999 ≤ n2 ∧ n2 ≤ 999999) ∨ (b2 = false ∧ n2 = 0 ∧ ¬ Dec f1)) →
      Keep s (l ++ [⟨n1, n2, ((f0[0].toNat : Int) == 83)⟩]) (k + 1)) := Lib.hid (fun l k hk h f0 f1 hf hp n1 n2 b1 b2 h1 h2 => sp_step hk h hf hp h1 h2)
    have HAll : Hid (∀ l m : List Sup, Keep s l (splitAll 32 s).length → Pl s m → l = m) := Lib.hid (fun l m h hm => keep_all h hm)
    have H0 : Hid (Keep s [] 0) := Lib.hid (keep_nil s)
    clear o b1
    go_wp2_with fail
    go_loopw [5, 6] (fun v5 i wr => ∃ (k : Nat) (l : List Sup), k ≤ (splitAll 32 s).length ∧ i = .int .i64 k ∧ l.length = k ∧ Hid (Keep s l k) ∧ Hid (wr.ownsRow w1.heap.size 33 3 v5 k (sups l)) ∧ Hid (Below w1.heap.size w1 wr)) (fun _ i _ => (splitAll 32 s).length - (intOf i).toNat)
    case atStart => exact ⟨0, [], Nat.zero_le _, rfl, rfl, H0, Lib.hid (World.ownsRow_made w1 #[] 0 (Nat.le_refl _) (by decide) rfl), Lib.hid ((Below.refl _ _).alloc (Nat.le_refl _) _)⟩
    case round =>
      obtain ⟨k, l, hk, rfl, hll, HT, HO, HB⟩ := hrel
      have TB := Lib.hid (B1.out.trans (HB.out.mono hs1))
      by_cases hlt : k < (splitAll 32 s).length
      · have c0 := HC.out _ HB.out k hlt
        have hzk := HWz.out k hlt
        have hno := Lib.hid (HNW.out k hlt)
        have hst := Lib.hid (HST.out l k hlt HT.out)
        generalize (splitAll 32 s)[k] = t at *
        go_wp2_with fail
        refine (l1Split_any t 58 _ (by omega)).mono ?_
        rintro e w2 ⟨u, rfl, o, b2⟩
        have O2 := Lib.hid (owns_below HO.out b2)
        have HB2 := Lib.hid (HB.out.trans (b2.mono HB.out.size))
        have TB2 := Lib.hid (TB.out.trans (b2.mono TB.out.size))
        have hlF := splitAll_len 58 t
        have hHF : Hid (splitAll 58 t = splitAll 58 t) := Lib.hid rfl
        generalize hF : splitAll 58 t = F at *
        clear b2 c0 HO HB TB hHF
        obtain ⟨ua, uc, rfl⟩ : ∃ a cap, u = .slice a F.length cap := by
          rcases own_cases o with ⟨h0, _, a, cap, rfl⟩ | ⟨g, cap, rfl, _⟩
          · omega
          · exact ⟨_, _, rfl⟩
        by_cases h2 : F.length = 2
        · obtain ⟨f0, f1, rfl⟩ : ∃ f0 f1, F = [f0, f1] := by
            match F, h2 with
            | [a, b], _ => exact ⟨a, b, rfl⟩
          obtain ⟨g2, rfl, hg2⟩ : ∃ g, ua = some ⟨g, 0, none⟩ ∧ g < w2.heap.size := by
            rcases own_cases o with ⟨h0, _, _⟩ | ⟨g, cap, h, _, hg, _⟩
            · cases h0
            · simp at h; exact ⟨g, h.1, hg⟩
          have d0 : w2.cell? ⟨g2, 0, none⟩ = some (.string f0) := (o.cellAt 0 (by simp)).trans rfl
          have d1 : w2.cell? ⟨g2, 1, none⟩ = some (.string f1) := (o.cellAt 1 (by simp)).trans rfl
          have z0 : f0.size ≤ 120 := by have := split_size 58 t (x := f0) (by rw [hF]; simp); omega
          have z1 : f1.size ≤ 120 := by have := split_size 58 t (x := f1) (by rw [hF]; simp); omega
          have hbt : ((([f0, f1] : List ByteArray).length : Int) != 2) = false := rfl
          clear o h2 hF hlF
          by_cases hf2 : f0.size < 2
          · have HE := Lib.hid (hno.out (fun a b h => by simp only [List.cons.injEq] at h; rw [← h.1]; exact hf2))
            go_wp2
            go_ret2
            refine ⟨_, by rw [HE.out.1]; rfl, ?_, TB2.out.alloc TB2.out.size _⟩
            rw [HE.out.2]
            exact World.ownsRow_made w2 #[] 0 TB2.out.size (by decide) rfl
          · obtain ⟨n1, c1, r1⟩ := dec_cases (f0.extract 1 f0.size)
            obtain ⟨n2, c2, r2⟩ := dec_cases f1
            have hp : 0 < f0.size := by omega
            have HK := Lib.hid (hst.out f0 f1 rfl hp n1 n2 c1 c2 r1 r2)
            have R1 := Lib.hid r1
            have R2 := Lib.hid r2
            have hze : (f0.extract 1 f0.size).size ≤ 120 := by simp; omega
            clear r1 r2 hno hst HT
            go_wp2_with fail
            refine (l1Read_any _ n1 c1 _ (by unfold maxLen; omega) R1.out).mono ?_
            rintro e w3 ⟨rfl, b3⟩
            have q1 : Below w2.heap.size w2 w3 := ((Below.refl w2.heap.size w2).alloc (Nat.le_refl _) _).trans (b3.mono (by simp))
            have l3 : w2.heap.size < w3.heap.size := by have := b3.size; simp at this; omega
            have blk3 : w3.heap[w2.heap.size]? = some (.cells #[.int .i64 0, .int .i64 0, .bool ((f0[0].toNat : Int) == 83)] 33 (0, 0)) := (b3.block _ (by simp)).trans (heap_alloc_new _ _)
            have p0 := cell_of_row w3 w2.heap.size 0 _ _ _ blk3
            have p1 := cell_of_row w3 w2.heap.size 1 _ _ _ blk3
            have p2 := cell_of_row w3 w2.heap.size 2 _ _ _ blk3
            have m0 := frozen_of_row w3 w2.heap.size 0 _ _ blk3
            have m1 := frozen_of_row w3 w2.heap.size 1 _ _ blk3
            have m2 := frozen_of_row w3 w2.heap.size 2 _ _ blk3
            simp at p0 p1 p2
            have e1 : w3.cell? ⟨g2, 1, none⟩ = some (.string f1) := (q1.cell (p := ⟨g2, 1, none⟩) hg2).trans d1
            have Q1 := Lib.hid q1
            have BLK3 := Lib.hid (blk_set (i := 0) (v := .int .i64 n1) blk3)
            clear q1 b3 blk3
            go_wp2_with fail
            refine (l1Read_any f1 n2 c2 _ (by unfold maxLen; omega) R2.out).mono ?_
            rintro e w4 ⟨rfl, b4⟩
            have s4 := b4.size
            rw [Go.Deep.nblk_setCell] at s4
            have q2 : Below w2.heap.size w2 w4 := (Q1.out.setCell (p := ⟨w2.heap.size, 0, none⟩) (Nat.le_refl _) _).trans (b4.mono (by rw [Go.Deep.nblk_setCell]; omega))
            have l4 : w2.heap.size < w4.heap.size := by omega
            have blk4 : w4.heap[w2.heap.size]? = some (.cells #[.int .i64 n1, .int .i64 0, .bool ((f0[0].toNat : Int) == 83)] 33 (0, 0)) := by
              rw [b4.block _ (by rw [Go.Deep.nblk_setCell]; omega), BLK3.out]; rfl
            clear m0 m1 m2 p0 p1 p2 e1 BLK3 Q1 d0 d1 b4 R1 R2
            have p0 := cell_of_row w4 w2.heap.size 0 _ _ _ blk4
            have p1 := cell_of_row w4 w2.heap.size 1 _ _ _ blk4
            have p2 := cell_of_row w4 w2.heap.size 2 _ _ _ blk4
            have m0 := frozen_of_row w4 w2.heap.size 0 _ _ blk4
            have m1 := frozen_of_row w4 w2.heap.size 1 _ _ blk4
            have m2 := frozen_of_row w4 w2.heap.size 2 _ _ blk4
            simp at p0 p1 p2
            have q3 := q2.setCell (p := ⟨w2.heap.size, 1, none⟩) (Nat.le_refl _) (.int .i64 n2)
            have s5 : (w4.setCell ⟨w2.heap.size, 1, none⟩ (.int .i64 n2)).heap.size = w4.heap.size := Go.Deep.nblk_setCell _ _ _
            have HB5 := Lib.hid (HB2.out.trans (q3.mono HB2.out.size))
            have hown1 := owns_below O2.out q3
            have hown2 := hown1.alloc (.cells #[.int .i64 n1, .int .i64 n2, .bool ((f0[0].toNat : Int) == 83)] 33)
            have hnb := heap_alloc_new (w4.setCell ⟨w2.heap.size, 1, none⟩ (.int .i64 n2)) (.cells #[.int .i64 n1, .int .i64 n2, .bool ((f0[0].toNat : Int) == 83)] 33)
            rw [s5] at hnb
            have HNB := Lib.hid hnb
            have hsz3 := HB2.out.size
            clear hnb blk4 q2 q3 hown1
            go_wp2_with (at_builtin; go_loud (refine wpList_append_own _ rfl _ _ 24 rfl w1.heap.size 33 i0 (.agg #[.int .i64 0, .int .i64 0, .bool false]) 3 24 Tryd.underlying24 hi hz0 hz1 hz2 rfl (by decide) _ _ _ rfl hown2 ⟨w4.heap.size, 0, none⟩ 1 1 [.int .i64 n1, .int .i64 n2, .bool ((f0[0].toNat : Int) == 83)] rfl rfl (World.news_of_block (cs := #[.int .i64 n1, .int .i64 n2, .bool ((f0[0].toNat : Int) == 83)]) (t := 33) (fr := (0, 0)) HNB.out) (by simp [Value.oneCell']) (by unfold maxLen; omega) (by omega) (by simp; omega) ?_; intro v' w6 hown' hgrow _))
            go_roundw
            case rel =>
              refine ⟨k + 1, l ++ [⟨n1, n2, ((f0[0].toNat : Int) == 83)⟩], by omega, by go_num, by simp; omega, HK, Lib.hid ?_, Lib.hid ?_⟩
              · rw [sups_append, sups_one]; exact hown'
              · exact (HB5.out.alloc HB5.out.size _).grown hgrow (by have := HB5.out.size; simp; omega) (fun j hj => (hown2.lt j hj).1)
            case measure => simp [intOf]; omega
        · have HE := Lib.hid (hno.out (fun f0 f1 h => by rw [h] at h2; simp at h2))
          have hne : ((F.length : Int) != 2) = true := by simp; omega
          clear o h2 hF hlF
          go_wp2
          go_ret2
          refine ⟨_, by rw [HE.out.1]; rfl, ?_, TB2.out.alloc TB2.out.size _⟩
          rw [HE.out.2]
          exact World.ownsRow_made w2 #[] 0 TB2.out.size (by decide) rfl
      · obtain rfl : k = (splitAll 32 s).length := by omega
        have HLL := Lib.hid hll
        have O3 : Hid (Rs wr u5 l.length (sups l)) := Lib.hid (by rw [hll]; exact Rs.of_own HO.out)
        have hAll := Lib.hid (fun m => HAll.out l m HT.out)
        clear hll
        go_wp2_with fail
        refine (l2Line_c _ l _ O3.out (by rw [HLL.out]; omega)).mono ?_
        rintro e w2 ⟨rfl, d2⟩
        have b2 : Below wr.heap.size wr w2 := d2.below _
        have O4 := Lib.hid (owns_below HO.out b2)
        have O5 := Lib.hid (d2.rs O3.out)
        have TB2 := Lib.hid (TB.out.trans (b2.mono TB.out.size))
        clear b2 d2
        cases hb : isL l with
        | true =>
          have HL := Lib.hid (isL_yes hb)
          clear hb
          go_wp2_with fail
          refine (l2Text_c _ l _ O5.out HL.out).mono ?_
          rintro e w3 ⟨rfl, d3⟩
          have b3 : Below w2.heap.size w2 w3 := d3.below _
          have O6 := Lib.hid (owns_below O4.out b3)
          have TB3 := Lib.hid (TB2.out.trans (b3.mono TB2.out.size))
          clear b3 d3
          by_cases hq : lineT l = s
          · have HE := Lib.hid (pl_yes (s := s) (l := l) ⟨HL.out, hq⟩)
            have hb := str_eq hq
            clear hq
            go_wp2
            go_ret2
            refine ⟨_, by rw [HE.out.1]; rfl, ?_, TB3.out⟩
            rw [HE.out.2, HLL.out]
            exact World.ownsRow.mono O6.out hs1
          · have HE := Lib.hid (pl_no (s := s) (fun m hm => hq (by rw [hAll.out m hm]; exact hm.2)))
            have hb := str_ne hq
            clear hq
            go_wp2
            go_ret2
            refine ⟨_, by rw [HE.out.1]; rfl, ?_, TB3.out.alloc TB3.out.size _⟩
            rw [HE.out.2]
            exact World.ownsRow_made _ #[] 0 TB3.out.size (by decide) rfl
        | false =>
          have HE := Lib.hid (pl_no (s := s) (fun m hm => isL_no hb (by rw [hAll.out m hm]; exact hm.1)))
          clear hb
          go_wp2
          go_ret2
          refine ⟨_, by rw [HE.out.1]; rfl, ?_, TB2.out.alloc TB2.out.size _⟩
          rw [HE.out.2]
          exact World.ownsRow_made _ #[] 0 TB2.out.size (by decide) rfl
end Go.Proofs.YtmmjbdffpgohdaaDoor
