/- ReverseLine: the program's and the specification's answer as one function of the line. Condition: sizes. -/
import Derived.Test.YtmmjbdffpgohdaaDoorSpanW
import Derived.Test.YtmmjbdffpgohdaaDoorReverseW
import Derived.Test.YtmmjbdffpgohdaaDoorCopyAll
import Derived.Deep.RegionHeld3
import Derived.Deep.AppendLies
import Derived.WalkSpells
import Derived.StillTactics
import Derived.Deep.DeepCutAuto
namespace Go.Proofs.YtmmjbdffpgohdaaDoor
open Go.RowKit
set_option linter.unusedVariables false
/-- A support as it is seen from the other end. -/
def turn (e : Int) (x : Sup) : Sup := ⟨e - x.a, x.h, x.s⟩
def revK (l : List Sup) : List Sup := l.reverse.map (turn (nth l (l.length - 1)).a)
noncomputable def rev (l : List Sup) : List Sup := if isL l then revK l else []
theorem revK_len (l : List Sup) : (revK l).length = l.length := by simp [revK]
theorem rev_yes {l : List Sup} (h : isL l = true) : rev l = revK l := by simp [rev, h]
theorem rev_no {l : List Sup} (h : isL l = false) : rev l = [] := by simp [rev, h]
theorem rev_len (l : List Sup) : (rev l).length ≤ 8 := by
  cases h : isL l with
  | false => rw [rev_no h]; simp
  | true => rw [rev_yes h, revK_len]; exact (isL_yes h).eight
theorem nth_map {l : List Sup} {f : Sup → Sup} {i : Nat} (h : i < l.length) : nth (l.map f) i = f (nth l i) := by
  simp [nth, List.getD, h]
theorem revK_nth {l : List Sup} {i : Nat} (h : i < l.length) : nth (revK l) i = turn (nth l (l.length - 1)).a (nth l (l.length - 1 - i)) := by
  unfold revK
  rw [nth_map (by simpa using h), nth_reverse h]
theorem sups_set_a : ∀ (l : List Sup) (i : Nat) (x : Int), i < l.length → sups (l.set i ⟨x, (nth l i).h, (nth l i).s⟩) = (sups l).set (i * 3) (.int .i64 x)
  | [], i, x, h => by simp at h
  | y :: r, 0, x, _ => by simp [flat, Sup.enc, nth]
  | y :: r, i + 1, x, h => by
    have ih := sups_set_a r i x (by simpa using h)
    have e0 : sups (y :: r) = y.enc ++ sups r := by simp [flat]
    have hn : nth (y :: r) (i + 1) = nth r i := by simp [nth]
    have e1 : sups ((y :: r).set (i + 1) ⟨x, (nth r i).h, (nth r i).s⟩) = y.enc ++ sups (r.set i ⟨x, (nth r i).h, (nth r i).s⟩) := by simp [flat]
    rw [hn, e1, ih, e0]
    have hl : y.enc.length = 3 := rfl
    rw [List.set_append_right _ _ (by omega), hl]
    rw [show (i + 1) * 3 - 3 = i * 3 by omega]
/-- The first k are turned. -/
def TurnTo (l lk : List Sup) (k : Nat) : Prop := lk.length = l.length ∧ ∀ i, i < l.length → nth lk i = if i < k then nth (revK l) i else nth l.reverse i
theorem turnTo_zero (l : List Sup) : TurnTo l l.reverse 0 := ⟨by simp, fun i hi => by rw [if_neg (by omega)]⟩
theorem turnTo_step {l lk : List Sup} {k : Nat} (h : TurnTo l lk k) (hk : k < l.length) : TurnTo l (lk.set k ⟨(nth l (l.length - 1)).a - (nth lk k).a, (nth lk k).h, (nth lk k).s⟩) (k + 1) := by
  obtain ⟨hl, hx⟩ := h
  refine ⟨by simp [hl], fun i hi => ?_⟩
  rw [nth_set (by omega) (by omega)]
  by_cases h1 : k = i
  · subst h1
    rw [if_pos rfl, if_pos (by omega), revK_nth hk, hx k hk, if_neg (by omega), nth_reverse hk]
    rfl
  · rw [if_neg h1, hx i hi]
    by_cases h3 : i < k
    · rw [if_pos h3, if_pos (by omega)]
    · rw [if_neg h3, if_neg (by omega)]
theorem turnTo_done {l lk : List Sup} (h : TurnTo l lk l.length) : lk = revK l := by
  obtain ⟨hl, hx⟩ := h
  apply ext_nth (by rw [hl, revK_len])
  intro i hi
  rw [hl] at hi
  rw [hx i hi, if_pos hi]
theorem sups_one_cell (l : List Sup) : ∀ v ∈ sups l, v.oneCell' = true := by
  intro v hv
  obtain ⟨x, _, hx⟩ := List.mem_flatMap.1 hv
  simp [Sup.enc] at hx
  rcases hx with rfl | rfl | rfl <;> rfl
theorem addr_add (b off i : Nat) : (⟨b, off, none⟩ : Addr).add i = ⟨b, off + i, none⟩ := by
  unfold Addr.add; split
  · rename_i hz; rw [hz]; rfl
  · rfl
set_option maxRecDepth 100000 in
set_option maxHeartbeats 2000000 in
theorem implReverseLine_c (v : Value) (l : List Sup) (w : World) (hr : Rs w v l.length (sups l)) (hn : l.length ≤ 1048576) :
    Calls Tryd.prog 6 #[v] w fun e w' => ∃ g, e = .returned (.tuple #[g, .bool (isL l)]) ∧ w'.ownsRow w.heap.size 33 3 g (rev l).length (sups (rev l)) ∧ Below w.heap.size w w' := by
  obtain ⟨i0, hi, hz0, hz1, hz2⟩ := info_parts Tryd.infoSup
  cases hb : isL l with
  | false =>
    rw [rev_no hb]
    have HB := Lib.hid hb
    have HR := Lib.hid hr
    clear hr hb
    go_enter Tryd.func6, Tryd.ntmps6
    go_wp2_with fail
    refine (implIsLine_c v l _ HR.out hn).mono ?_
    rw [HB.out]
    rintro e w1 ⟨rfl, b1⟩
    go_wp2
    go_ret2
    exact ⟨_, rfl, World.ownsRow_made w1 #[] 0 b1.size (by decide) rfl, b1.alloc b1.size _⟩
  | true =>
    have hl := isL_yes hb
    rw [rev_yes hb]
    have HB := Lib.hid hb
    have h2 := hl.two
    have h8 := hl.eight
    have HL := Lib.hid hl
    obtain ⟨a, oa, ca, rfl, hla, hcap, hm, hca⟩ := hr.pos (by omega)
    have HR := Lib.hid hr
    have HC : Hid (∀ W, Below w.heap.size w W → ∀ j v, (sups l)[j]? = some v → W.cell? ((⟨a, oa, none⟩ : Addr).add j) = some v) := Lib.hid (fun W hW j v hv => by
      rw [addr_add]; exact (hW.cell (p := ⟨a, oa + j, none⟩) hla).trans (hca j v hv))
    have hsl : (sups l).length = l.length * 3 := sups_len l
    clear hr hb hl hca
    go_enter Tryd.func6, Tryd.ntmps6
    go_wp2_with fail
    refine (implIsLine_c _ l _ HR.out hn).mono ?_
    rw [HB.out]
    rintro e w1 ⟨rfl, b1⟩
    go_upto_region 4 with (at_make; refine wpList_make_full _ rfl _ _ 24 rfl w.heap.size 33 i0 (.agg #[.int .i64 0, .int .i64 0, .bool false]) 3 Tryd.underlying24 hi hz0 hz1 _ _ _ _ l.length rfl rfl rfl rfl (by rw [hz2]; omega) (by unfold maxLen; omega) b1.size ?_; intro w2 hown2 hgrow2)
    have b2 := b1.grown hgrow2 b1.size (fun k h => by cases h)
    clear hgrow2
    generalize (madeCells (Value.agg #[.int .i64 0, .int .i64 0, .bool false]).cells (l.length * 3)).toList = xs at hown2
    generalize hgg : w1.heap.size = g at *
    have hBg : w.heap.size ≤ g := by rw [← hgg]; exact b1.size
    clear hgg
    go_wp2_with (refine wpList_copy_all (o := ⟨some 16, _, _, _, _, _⟩) rfl (.tmp 14) (.tmp 15) 24 24 rfl 33 3 Tryd.underlying24 (by kernel_rfl) w.heap.size 33 g l.length l.length ⟨a, oa, none⟩ ca (by rfl) (by rfl) xs hown2 (sups l) hsl (HC.out _ b2) (sups_one_cell l) ?_; intro w3 hown3 hgrow3)
    have b3 := b2.grown hgrow3 b2.size (fun k h => by cases h; exact hBg)
    clear hgrow3 hown2 b2
    go_wp2_with fail
    refine (reverse_c w.heap.size g l.length l w3 hn hBg hown3).mono ?_
    rintro e w4 ⟨rfl, hown4, b4'⟩
    have b4 := b3.trans b4'
    clear b3 b4' hown3
    have hz : 0 < l.length := by omega
    obtain ⟨e0, _, _⟩ := sups_at l.reverse 0 (by simp; omega)
    have c0 := (hown4.cellAt 0 (by omega)).trans e0
    rw [nth_reverse (by omega), Nat.sub_zero] at c0
    clear e0
    have hEB : 0 ≤ (nth l (l.length - 1)).a ∧ (nth l (l.length - 1)).a ≤ 3000 := ⟨(HL.out.bd (i := l.length - 1) (by omega)).1, (HL.out.bd (i := l.length - 1) (by omega)).2.1⟩
    have HTz := Lib.hid (turnTo_zero l)
    have HTs : Hid (∀ (lk : List Sup) (k : Nat), TurnTo l lk k → k < l.length → TurnTo l (lk.set k ⟨(nth l (l.length - 1)).a - (nth lk k).a, (nth lk k).h, (nth lk k).s⟩) (k + 1)) := Lib.hid (fun lk k h hk => turnTo_step h hk)
    generalize (nth l (l.length - 1)).a = E at *
    go_wp2
    go_loopw [25] (fun i wr => ∃ (k : Nat) (lk : List Sup), k ≤ l.length ∧ i = .int .i64 k ∧ Hid (TurnTo l lk k) ∧ wr.ownsRow w.heap.size 33 3 (.slice (some ⟨g, 0, none⟩) l.length l.length) l.length (sups lk) ∧ Below w.heap.size w wr) (fun i _ => l.length - (intOf i).toNat)
    case atStart => exact ⟨0, l.reverse, Nat.zero_le _, rfl, HTz, hown4, b4⟩
    case round =>
      obtain ⟨k, lk, hk, rfl, HT, ho, hbl⟩ := hrel
      clear c0
      by_cases hlt : k < l.length
      · have hlk : lk.length = l.length := HT.out.1
        have HS := Lib.hid (HTs.out lk k HT.out hlt)
        have hbd : 0 ≤ (nth lk k).a ∧ (nth lk k).a ≤ 3000 := by
          rw [HT.out.2 k hlt, if_neg (by omega), nth_reverse hlt]
          exact ⟨(HL.out.bd (i := l.length - 1 - k) (by omega)).1, (HL.out.bd (i := l.length - 1 - k) (by omega)).2.1⟩
        have HX := Lib.hid (sups_set_a lk k (E - (nth lk k).a) (by omega))
        obtain ⟨f0, _, _⟩ := sups_at lk k (by omega)
        have d0 := (ho.cellAt (k * 3) (by omega)).trans f0
        have y0 := ho.frozenAt (k * 3)
        have q1 := (ho.stored (k * 3) (.int .i64 (E - (nth lk k).a))).1
        rw [← HX.out] at q1
        have Q1 := Lib.hid q1
        clear q1 f0
        generalize nth lk k = X at *
        have hs1 : IntKind.i64.wrap (E - X.a) = E - X.a := IntWalk.i64_in _ (by omega)
        have hgs := (ho.lt g rfl).2
        go_wp2
        go_roundw
        case rel => exact ⟨k + 1, _, by omega, by go_num, HS, Q1.out, hbl.setCell (p := ⟨g, k * 3, none⟩) hBg _⟩
        case measure => simp [intOf]; omega
      · obtain rfl : k = l.length := by omega
        have HE := Lib.hid (turnTo_done HT.out)
        go_wp2
        go_ret2
        refine ⟨_, rfl, ?_, hbl⟩
        rw [revK_len, ← HE.out]
        exact ho
set_option maxRecDepth 100000 in
set_option maxHeartbeats 2000000 in
theorem specReverseLine_c (v : Value) (l : List Sup) (w : World) (hr : Rs w v l.length (sups l)) (hn : l.length ≤ 1048576) :
    Calls Tryd.prog 7 #[v] w fun e w' => ∃ g, e = .returned (.tuple #[g, .bool (isL l)]) ∧ w'.ownsRow w.heap.size 33 3 g (rev l).length (sups (rev l)) ∧ Below w.heap.size w w' := by
  obtain ⟨i0, hi, hz0, hz1, hz2⟩ := info_parts Tryd.infoSup
  cases hb : isL l with
  | false =>
    rw [rev_no hb]
    have HB := Lib.hid hb
    have HR := Lib.hid hr
    clear hr hb
    go_enter Tryd.func7, Tryd.ntmps7
    go_wp2_with fail
    refine (l2Line_c v l _ (HR.out.below ((Below.refl _ _).alloc (Nat.le_refl _) _) rfl) hn).mono ?_
    rw [HB.out]
    rintro e w1 ⟨rfl, d1⟩
    go_wp2
    go_ret2
    exact ⟨_, rfl, own_drew (World.ownsRow_made w #[] 0 (Nat.le_refl _) (by decide) rfl) d1, Drew.below_trans ((Below.refl _ _).alloc (Nat.le_refl _) _) d1⟩
  | true =>
    have hl := isL_yes hb
    rw [rev_yes hb]
    have HB := Lib.hid hb
    have h2 := hl.two
    have h8 := hl.eight
    have HL := Lib.hid hl
    obtain ⟨a, oa, ca, rfl, hla, hm, hs⟩ := hr.sup (by omega)
    have HR := Lib.hid hr
    have HA := Lib.hid hs
    clear hr hb hl hs
    go_enter Tryd.func7, Tryd.ntmps7
    go_wp2_with fail
    refine (l2Line_c _ l _ (HR.out.below ((Below.refl _ _).alloc (Nat.le_refl _) _) rfl) hn).mono ?_
    rw [HB.out]
    rintro e w1 ⟨rfl, d1⟩
    have b1 := Drew.below_trans ((Below.refl w.heap.size w).alloc (Nat.le_refl _) (.cells #[] 33)) d1
    have o1 : w1.ownsRow w.heap.size 33 3 (.slice (some ⟨w.heap.size, 0, none⟩) 0 0) 0 [] := own_drew (World.ownsRow_made w #[] 0 (Nat.le_refl _) (by decide) rfl) d1
    clear d1
    obtain ⟨y0, _, _⟩ := (HA.out.below b1 hla) (l.length - 1) (by omega)
    have hz1' : l.length - 1 < l.length := by omega
    have hz2' : (l.length : Int) - 1 < (l.length : Int) := by omega
    have HEdef := Lib.hid (show ∀ i, i < l.length → nth (revK l) i = turn (nth l (l.length - 1)).a (nth l (l.length - 1 - i)) from fun i h => revK_nth h)
    have hEB : 0 ≤ (nth l (l.length - 1)).a ∧ (nth l (l.length - 1)).a ≤ 3000 := ⟨(HL.out.bd (i := l.length - 1) (by omega)).1, (HL.out.bd (i := l.length - 1) (by omega)).2.1⟩
    generalize (nth l (l.length - 1)).a = E at *
    go_wp2
    go_loopw [4, 6] (fun o i wr => ∃ m : Nat, m ≤ l.length ∧ i = .int .i64 ((l.length : Int) - 1 - (m : Int)) ∧ wr.ownsRow w.heap.size 33 3 o m (sups ((revK l).take m)) ∧ Below w.heap.size w wr) (fun _ i _ => ((intOf i) + 1).toNat)
    case atStart => exact ⟨0, Nat.zero_le _, by go_num, by simpa [flat] using o1, b1⟩
    case round =>
      obtain ⟨m, hm', rfl, hown, hbel⟩ := hrel
      clear y0
      by_cases hlt : m < l.length
      · obtain ⟨j, hj⟩ : ∃ j, j = l.length - 1 - m := ⟨_, rfl⟩
        have hje : (l.length : Int) - 1 - (m : Int) = (j : Int) := by omega
        have hjl : j < l.length := by omega
        have HS : Hid (sups ((revK l).take (m + 1)) = sups ((revK l).take m) ++ [.int .i64 (E - (nth l j).a), .int .i64 (nth l j).h, .bool (nth l j).s]) := Lib.hid (by
          rw [take_nth _ _ (by rw [revK_len]; exact hlt), sups_append, sups_one, HEdef.out m hlt, ← hj]; rfl)
        rw [hje]
        have HJ := Lib.hid (And.intro hj hje)
        clear hj hje
        obtain ⟨c0, c1, c2⟩ := (HA.out.below hbel hla) j hjl
        have hbd : 0 ≤ (nth l j).a ∧ (nth l j).a ≤ 3000 := ⟨(HL.out.bd hjl).1, (HL.out.bd hjl).2.1⟩
        have hs1 : IntKind.i64.wrap (E - (nth l j).a) = E - (nth l j).a := IntWalk.i64_in _ (by omega)
        have hal : a < wr.heap.size := by have := hbel.size; omega
        have hbs := hbel.size
        have hab : u4.ownBlock ≠ some a := fun e => by have := (hown.lt a e).1; omega
        generalize nth l j = X at *
        go_wp2_with fail
        go_region_held3 (fun w' => w'.cell? ⟨a, oa + j * 3, none⟩ = some (.int .i64 X.a) ∧ w'.cell? ⟨a, oa + j * 3 + 1, none⟩ = some (.int .i64 X.h) ∧ w'.cell? ⟨a, oa + j * 3 + 2, none⟩ = some (.bool X.s))
          (first
            | go_keep
            | (go_split_ands
               refine ⟨?_, ?_, ?_⟩
               · (rw [hgrow.cell_far _ (by simp; omega) (Ne.symm hab)]; assumption)
               · (rw [hgrow.cell_far _ (by simp; omega) (Ne.symm hab)]; assumption)
               · (rw [hgrow.cell_far _ (by simp; omega) (Ne.symm hab)]; assumption)))
          ((refine step_append_lies _ (by rfl) _ _ _ (by rfl) w.heap.size 33 i0 (.agg #[.int .i64 0, .int .i64 0, .bool false]) 3 24 Tryd.underlying24 hi hz0 hz1 hz2 rfl (by omega) u4 m (sups ((revK l).take m)) (by rfl) ((hown.alloc _).drew)
              ⟨wr.heap.size, 0, none⟩ 1 1 [.int .i64 (E - X.a), .int .i64 X.h, .bool X.s] (by rfl) (by rfl) (World.news_of_block (cs := #[.int .i64 (E - X.a), .int .i64 X.h, .bool X.s]) (t := 33) (fr := (0, 0)) (heap_alloc_new wr _)) (by simp [Value.oneCell'])
              (by omega) (by unfold maxLen; omega) (by omega) (by simp; omega) (wr.heap.size + 1) (by simp) ?_; intro gg cap w1 hown1 hgrow hat hlt1))
        have HO1 := Lib.hid hown1
        have HG1 := Lib.hid hgrow
        clear hown1 hgrow hs1
        go_wp2
        go_roundw
        case rel =>
          refine ⟨m + 1, by omega, by rw [← HJ.out.2]; go_num, ?_, ((hbel.alloc hbel.size _).drew).grown HG1.out (by simp; omega) (fun j hj => (hown.lt j hj).1)⟩
          rw [HS.out]
          exact HO1.out
        case measure => simp [intOf] <;> omega
      · obtain rfl : m = l.length := by omega
        have hneg : (l.length : Int) - 1 - (l.length : Int) = -1 := by omega
        rw [hneg]
        go_wp2
        go_ret2
        refine ⟨_, rfl, ?_, hbel⟩
        have e : (revK l).take l.length = revK l := by rw [← revK_len l]; exact List.take_length
        rw [e] at hown
        rw [revK_len]
        exact hown
end Go.Proofs.YtmmjbdffpgohdaaDoor
