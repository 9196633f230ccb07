/- The walk of DrawJoinStrings. Condition: sizes. -/
import Derived.Test.YthnbbaefeojanaaDrawSJ
import Derived.Laws.IdiomStrings
import Derived.Laws.MakeOwn
namespace Go.Proofs.Ythnbbaefeojanaa
open Go.RowKit
set_option linter.unusedVariables false
theorem Cur.grown {B b k : Nat} {w w' : World} {row : Option Nat} (h : Cur B b k w) (hg : w.grownBy w' row) (hr : ∀ j, row = some j → b < j) : Cur B b k w' := by
  obtain ⟨hBb, hb, a, len, cap, at', seed, c0, c1, c2, f1, f2, hat, hlen, hcode⟩ := h
  have hne : ∀ j, j ≤ b → some j ≠ row := fun j hj e => by have := hr j e.symm; omega
  refine ⟨hBb, Nat.lt_of_lt_of_le hb hg.size, a, len, cap, at', seed, hg.cell c0 (hne b (Nat.le_refl _)), hg.cell c1 (hne b (Nat.le_refl _)), hg.cell c2 (hne b (Nat.le_refl _)), ?_, ?_, hat, hlen, ?_⟩
  · rw [World.frozen?_of_block (w := w) (a := ⟨b, 1, none⟩) (hg.block b hb (hne b (Nat.le_refl _)))]; exact f1
  · rw [World.frozen?_of_block (w := w) (a := ⟨b, 2, none⟩) (hg.block b hb (hne b (Nat.le_refl _)))]; exact f2
  · intro i hi
    obtain ⟨c, o, x, h1, h2, h3, h4⟩ := hcode i hi
    exact ⟨c, o, x, h1, h2, h3, hg.cell h4 (hne c (by omega))⟩
/-- What one leaves. -/
def OnePost (B b k : Nat) (w : World) (e : Ending) (w' : World) : Prop := ∃ p : Bool, e = .returned (.bool p) ∧ Cur B b (k + 2) w' ∧ w.grownBy w' (some b)
set_option maxHeartbeats 400000 in
theorem one_any (B b k : Nat) (n : Int) (w : World) (h : Cur B b k w) (hk : k ≤ 900000000) (hn : 1 ≤ n) (hn2 : n ≤ 60000) :
    Calls Try.prog 29 #[.pointer (some ⟨b, 0, none⟩), .int .i64 n] w (OnePost B b k w) := by
  have HH := Lib.hid h
  clear h
  go_enter Try.func29, Try.ntmps29
  go_wp2_with fail
  refine (pick_any B b k _ _ HH.out hk hn hn2).mono ?_
  rintro e w1 ⟨r, rfl, hr, hc1, hg1⟩
  have HC1 := Lib.hid hc1
  have HG1 := Lib.hid hg1
  clear hc1 hg1
  go_wp2_with fail
  go_ret
  exact ⟨_, rfl, HC1.out, HG1.out⟩
theorem Try.infoByte : (Try.prog.info? 5).map (fun i => (i.zero, i.size, i.bytes)) = some (some (.int .u8 0), 1, 1) := by kernel_rfl
/-- A text of n bytes 0. -/
def zeros (n : Nat) : ByteArray := ⟨(List.replicate n (0 : UInt8)).toArray⟩
theorem zeros_size (n : Nat) : (zeros n).size = n := by
  show (List.replicate n (0 : UInt8)).toArray.size = n
  simp
theorem zeros_conv (P : Program) (w : World) (src dst e B n : Nat) (hs : P.underlying src = some (.slice e)) (he : P.underlying e = some (.int .u8)) (hd : P.underlying dst = some .string)
    (g : Nat) (ho : w.ownsRow B e 1 (.slice (some ⟨g, 0, none⟩) n n) n (madeCells (Value.int .u8 0).cells (n * 1)).toList) :
    (convert src dst (.slice (some ⟨g, 0, none⟩) n n)).run P w = .ok (.string (zeros n)) w := by
  have h := run_convert_bytes_back (P := P) w src dst e ⟨g, 0, none⟩ n (List.replicate n (0 : UInt8)) hs he hd (fun j hj => by
    have hj' : j < n := by simpa using hj
    have e1 : (⟨g, 0, none⟩ : Addr).add j = ⟨g, j, none⟩ := by
      unfold Addr.add; split
      · rename_i hz; rw [hz]
      · simp
    rw [e1, ho.cellAt j (by omega)]
    have e2 : (Value.int .u8 0).cells = #[Value.int .u8 0] := rfl
    rw [e2, toList_madeCells_one]
    simp [hj'])
  simpa [zeros] using h
def markL : List ByteArray := [⟨#[44]⟩, ⟨#[59]⟩, ⟨#[59]⟩, ⟨#[]⟩, ⟨#[97, 98]⟩]
/-- What drawing a list and a mark leaves. -/
def JoinDraw (w : World) (e : Ending) (w' : World) : Prop := ∃ (v : Value) (l : List ByteArray) (m : ByteArray), e = .returned (.tuple #[v, .string m]) ∧ w'.ownsRow (w.heap.size + 1) 9 1 v l.length (l.map Value.string) ∧ l.length ≤ 4 ∧ (∀ x ∈ l, x.size ≤ 4010) ∧ m ∈ markL ∧ Below w.heap.size w w'
theorem own_grown {w w' : World} {B e size n : Nat} {v : Value} {xs : List Value} (h : w.ownsRow B e size v n xs) (hg : w.grownBy w' none) : w'.ownsRow B e size v n xs :=
  own_below h ⟨hg.os, hg.tape, hg.output, hg.size, fun k hk => hg.block k hk (by simp)⟩
theorem any1_le {s : ByteArray} (h : s ∈ any1L) : s.size ≤ 4010 := by have := any1_size s h; omega
theorem app_le {l : List ByteArray} {s : ByteArray} (h : ∀ x ∈ l, x.size ≤ 4010) (hs : s.size ≤ 4010) : ∀ x ∈ l ++ [s], x.size ≤ 4010 := by
  intro x hx
  rcases List.mem_append.1 hx with hx | hx
  · exact h x hx
  · obtain rfl := List.mem_singleton.1 hx; exact hs
set_option maxHeartbeats 2000000 in
set_option maxRecDepth 100000 in
theorem DrawJoinStrings_any (a : Option Addr) (len cap : Nat) (w : World) (h : ByteRow w a len) :
    Calls Try.prog 11 #[.slice a len cap] w (JoinDraw w) := by
  obtain ⟨i0, hi, hz0, hz1, hz2⟩ := info_parts Try.infoStr
  obtain ⟨j0, hj, hy0, hy1, hy2⟩ := info_parts Try.infoByte
  have HC := Lib.hid (cur_new (cap := cap) h 44)
  clear h
  go_enter Try.func11, Try.ntmps11
  go_wp2_with fail
  refine (pick_any w.heap.size w.heap.size 0 4 _ (HC.out.alloc _) (by omega) (by omega) (by omega)).mono ?_
  rintro e w1 ⟨r, rfl, hr, hc1, hg1⟩
  have hs1 : w.heap.size + 2 ≤ w1.heap.size := by have := hg1.size; simp at this; omega
  have o1 : w1.ownsRow (w.heap.size + 1) 9 1 (.slice (some ⟨w.heap.size + 1, 0, none⟩) 0 0) 0 [] := by
    have h0 := World.ownsRow_made (base := w.heap.size + 1) (e := 9) (size := 1) (w.alloc (.cells #[.slice a len cap, .int .i64 0, .int .u64 0] 44)) #[] 0 (by simp) (by decide) rfl
    rw [World.size_alloc] at h0
    exact h0.kept hg1 (.inr (by simp [Value.ownBlock]))
  have b1 : Below w.heap.size w w1 := grown_below (grown_trans (World.grownBy_alloc w _ (some w.heap.size)) (grown_trans (World.grownBy_alloc _ _ (some w.heap.size)) hg1)) (Nat.le_refl _) (fun k hk => by cases hk; exact Nat.le_refl _)
  have HC1 := Lib.hid hc1
  have HO1 := Lib.hid o1
  have HB1 := Lib.hid b1
  have hr4 : r ≤ 3 := by omega
  clear hc1 hg1 o1 b1
  go_wp2_with fail
  go_loopw [5, 7] (fun v i wr => ∃ (k : Nat) (l : List ByteArray), k ≤ r ∧ i = .int .i64 k ∧ l.length = k ∧ Hid (∀ x ∈ l, x.size ≤ 4010) ∧ Hid (wr.ownsRow (w.heap.size + 1) 9 1 v l.length (l.map Value.string)) ∧ Hid (Cur w.heap.size w.heap.size (2 + 2 * k) wr) ∧ Hid (Below w.heap.size w wr) ∧ w.heap.size + 2 ≤ wr.heap.size) (fun _ i _ => r - (intOf i).toNat)
  case atStart => exact ⟨0, [], Nat.zero_le _, rfl, rfl, by unfold Hid; simp, HO1.out, HC1.out, HB1.out, hs1⟩
  case round =>
    obtain ⟨k, l, hk, rfl, hl, HL, HO, HC, HB, hsz⟩ := hrel
    by_cases hlt : k < r
    · go_wp2_with fail
      refine (any1_any w.heap.size w.heap.size (2 + 2 * k) _ HC.out (by omega)).mono ?_
      rintro e w2 ⟨s, hs, rfl, hc2, hg2⟩
      have HS := Lib.hid hs
      have hown := HO.out.kept hg2 (.inr (fun e => by have := (HO.out.lt _ e).1; omega))
      have hs2 := hg2.size
      have HC2 := Lib.hid hc2
      have HB2 := Lib.hid (HB.out.trans (grown_below hg2 HB.out.size (fun k hk => by cases hk; exact Nat.le_refl _)))
      clear hc2 hg2 hs
      go_wp2_with (at_builtin; refine wpList_append_own _ rfl _ _ 26 rfl (w.heap.size + 1) 9 i0 (.string ⟨#[]⟩) 1 16 Try.underlying26 hi hz0 hz1 hz2 rfl (by decide) _ _ _ rfl (hown.alloc _) ⟨w2.heap.size, 0, none⟩ 1 1 [.string s] rfl rfl (cell_one_new _ _ _) (by simp [Value.oneCell']) (by unfold maxLen; omega) (by omega) (by simp; omega) ?_; intro v' w3 hown' hgrow _)
      have hbl : ∀ j, (Value.ownBlock _) = some j → w.heap.size < j := fun j hj => by have := (hown.lt j hj).1; omega
      have hs3 := hgrow.size
      simp at hs3
      have HO3 : Hid (w3.ownsRow (w.heap.size + 1) 9 1 v' (l ++ [s]).length ((l ++ [s]).map Value.string)) := by
        show w3.ownsRow _ _ _ _ _ _
        simpa using hown'
      have HC3 := Lib.hid ((HC2.out.alloc (.cells #[.string s] 9)).grown hgrow hbl)
      have HB3 := Lib.hid ((HB2.out.alloc HB2.out.size (.cells #[.string s] 9)).grown hgrow (by simp; omega) (fun j hj => by have := hbl j hj; omega))
      clear hown hown' hgrow hbl
      go_roundw
      case rel => exact ⟨k + 1, l ++ [s], by omega, by go_num, by simp [hl], app_le HL.out (any1_le HS.out), HO3.out, by rw [show 2 + 2 * (k + 1) = 2 + 2 * k + 2 from by omega]; exact HC3.out, HB3.out, by omega⟩
      case measure => simp [intOf]; omega
    · go_wp2_with fail
      refine (one_any w.heap.size w.heap.size (2 + 2 * k) 20 _ HC.out (by omega) (by omega) (by omega)).mono ?_
      rintro e w2 ⟨p, rfl, hc2, hg2⟩
      have HO2 := Lib.hid (HO.out.kept hg2 (.inr (fun e => by have := (HO.out.lt _ e).1; omega)))
      have hs2 := hg2.size
      have HC2 := Lib.hid hc2
      have HB2 := Lib.hid (HB.out.trans (grown_below hg2 HB.out.size (fun k hk => by cases hk; exact Nat.le_refl _)))
      clear hc2 hg2
      cases p with
      | false =>
        go_wp2_with fail
        refine (of_any w.heap.size w.heap.size (2 + 2 * k + 2) w2.heap.size 5 5 markL _ (HC2.out.alloc _) (by omega) rfl (by omega) (by omega) (by omega) (list_cells w2 9 markL _ rfl)).mono ?_
        rintro e w3 ⟨m, hm, rfl, _, hg3⟩
        have HM := Lib.hid hm
        have HG3 := Lib.hid hg3
        clear hm hg3
        go_wp2_with fail
        go_ret2
        have g := grown_trans (World.grownBy_alloc w2 _ (some w.heap.size)) HG3.out
        exact ⟨_, l, m, rfl, HO2.out.kept g (.inr (fun e => by have := (HO2.out.lt _ e).1; omega)), by omega, HL.out, HM.out, HB2.out.trans (grown_below g HB2.out.size (fun k hk => by cases hk; exact Nat.le_refl _))⟩
      | true =>
        go_wp2_with fail
        refine (pick_any w.heap.size w.heap.size (2 + 2 * k + 2) 20 _ HC2.out (by omega) (by omega) (by omega)).mono ?_
        rintro e w3 ⟨q, rfl, hq, hc3, hg3⟩
        have HO3 := Lib.hid (HO2.out.kept hg3 (.inr (fun e => by have := (HO2.out.lt _ e).1; omega)))
        have hs3 := hg3.size
        have HC3 := Lib.hid hc3
        have HB3 := Lib.hid (HB2.out.trans (grown_below hg3 HB2.out.size (fun k hk => by cases hk; exact Nat.le_refl _)))
        clear hc3 hg3
        go_wp2_with (first
          | (at_make; refine wpList_make_full _ rfl _ _ 22 rfl w3.heap.size 5 j0 (.int .u8 0) 1 Try.underlying22 hj hy0 hy1 _ _ _ _ (3990 + q) rfl rfl (by simp) (by simp) (by rw [hy2]; omega) (by unfold maxLen; omega) (Nat.le_refl _) ?_; intro w4 hown4 hgrow4; have hconv := zeros_conv Try.prog w4 22 9 5 _ (3990 + q) Try.underlying22 Try.underlying5 Try.underlying9 _ hown4; have hO4 := own_grown HO3.out hgrow4; have hs4 := hgrow4.size)
          | (at_builtin; refine wpList_append_own _ rfl _ _ 26 rfl (w.heap.size + 1) 9 i0 (.string ⟨#[]⟩) 1 16 Try.underlying26 hi hz0 hz1 hz2 rfl (by decide) _ _ _ rfl (hO4.alloc _) ⟨w4.heap.size, 0, none⟩ 1 1 [.string (zeros (3990 + q))] rfl rfl (cell_one_new _ _ _) (by simp [Value.oneCell']) (by unfold maxLen; omega) (by omega) (by simp; omega) ?_; intro v' w5 hown' hgrow _))
        have hbl : ∀ j, (Value.ownBlock _) = some j → w.heap.size < j := fun j hj => by have := (hO4.lt j hj).1; omega
        have hs5 := hgrow.size
        simp at hs5
        have HO5 : Hid (w5.ownsRow (w.heap.size + 1) 9 1 v' (l ++ [zeros (3990 + q)]).length ((l ++ [zeros (3990 + q)]).map Value.string)) := by
          show w5.ownsRow _ _ _ _ _ _
          simpa using hown'
        have HC5 := Lib.hid (((HC3.out.grown hgrow4 (fun j hj => by cases hj)).alloc (.cells #[.string (zeros (3990 + q))] 9)).grown hgrow hbl)
        have HB4 : Below w.heap.size w w4 := HB3.out.trans (grown_below hgrow4 HB3.out.size (fun j hj => by cases hj))
        have HB5 := Lib.hid ((HB4.alloc HB4.size (.cells #[.string (zeros (3990 + q))] 9)).grown hgrow (by simp; omega) (fun j hj => by have := hbl j hj; omega))
        clear hown' hgrow hbl hO4 hown4 hgrow4 HB4
        refine (of_any w.heap.size w.heap.size (2 + 2 * k + 2 + 2) w5.heap.size 5 5 markL _ (HC5.out.alloc _) (by omega) rfl (by omega) (by omega) (by omega) (list_cells w5 9 markL _ rfl)).mono ?_
        rintro e w6 ⟨m, hm, rfl, _, hg6⟩
        have HM := Lib.hid hm
        have HG6 := Lib.hid hg6
        clear hm hg6
        go_wp2_with fail
        go_ret2
        have g := grown_trans (World.grownBy_alloc w5 _ (some w.heap.size)) HG6.out
        exact ⟨_, l ++ [zeros (3990 + q)], m, rfl, HO5.out.kept g (.inr (fun e => by have := (HO5.out.lt _ e).1; omega)), by simp; omega, app_le HL.out (by rw [zeros_size]; omega), HM.out, HB5.out.trans (grown_below g HB5.out.size (fun k hk => by cases hk; exact Nat.le_refl _))⟩
end Go.Proofs.Ythnbbaefeojanaa
