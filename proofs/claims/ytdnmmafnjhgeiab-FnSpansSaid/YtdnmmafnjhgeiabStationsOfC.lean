/- StationsOf: the program's and the specification's answer as one function of the line. Condition: sizes. -/
import Derived.Test.YtdnmmafnjhgeiabSpanLengthsC
namespace Go.Proofs.Ytdnmmafnjhgeiab
open Go.RowKit
set_option linter.unusedVariables false
def stasK (l : List Sup) (k : Nat) : List Int := ((List.range k).filter (fun i => (nth l i).s)).map (fun i : Nat => (i : Int))
noncomputable def stas (l : List Sup) : List Int := if isL l then stasK l l.length else []
theorem stasK_yes {l : List Sup} {k : Nat} (h : (nth l k).s = true) : stasK l (k + 1) = stasK l k ++ [(k : Int)] := by simp [stasK, List.range_succ, h]
theorem stasK_no {l : List Sup} {k : Nat} (h : (nth l k).s = false) : stasK l (k + 1) = stasK l k := by simp [stasK, List.range_succ, h]
theorem stasK_len (l : List Sup) (k : Nat) : (stasK l k).length ≤ k := by
  have := List.length_filter_le (fun i => (nth l i).s) (List.range k)
  simpa [stasK] using this
theorem stas_yes {l : List Sup} (h : isL l = true) : stas l = stasK l l.length := by simp [stas, h]
theorem stas_no {l : List Sup} (h : isL l = false) : stas l = [] := by simp [stas, h]
theorem stas_len (l : List Sup) : (stas l).length ≤ 8 := by
  cases h : isL l with
  | false => rw [stas_no h]; simp
  | true => rw [stas_yes h]; have := stasK_len l l.length; have := (isL_yes h).eight; omega
theorem cloS_c (x : Sup) (w : World) :
    Calls Try.prog 26 #[.agg #[.int .i64 x.a, .int .i64 x.h, .bool x.s]] w fun e w' => e = .returned (.bool x.s) ∧ Below w.heap.size w w' := by
  go_enter Try.func26, Try.ntmps26
  go_wp2
  go_ret
  exact ⟨rfl, (Below.refl _ _).alloc (Nat.le_refl _) _⟩
set_option maxHeartbeats 2000000 in
theorem iwhereS_c (v : Value) (l : List Sup) (w : World) (hr : Rs w v l.length (sups l)) (h2 : 2 ≤ l.length) (h8 : l.length ≤ 8) :
    Calls Try.prog 25 #[v, .func (.func 26) #[] #[]] w fun e w' => ∃ g, e = .returned g ∧ w'.ownsRow w.heap.size 3 1 g (stasK l l.length).length (intVs (stasK l l.length)) ∧ Below w.heap.size w w' := by
  obtain ⟨i0, hi, hz0, hz1, hz2⟩ := info_parts Try.infoInt
  obtain ⟨a, oa, ca, rfl, hla, hm, hs⟩ := hr.sup (by omega)
  have HA := Lib.hid hs
  clear hr hs
  go_enter Try.func25, Try.ntmps25
  go_wp2
  go_loopw [5, 11] (fun o i wr => ∃ k : Nat, k ≤ l.length ∧ i = .int .i64 k ∧ wr.ownsRow w.heap.size 3 1 o (stasK l k).length (intVs (stasK l k)) ∧ Below w.heap.size w wr) (fun _ i _ => l.length - (intOf i).toNat)
  case atStart => exact ⟨0, by omega, rfl, World.ownsRow_made w #[] 0 (Nat.le_refl _) (by decide) rfl, (Below.refl _ _).alloc (Nat.le_refl _) _⟩
  case round =>
    obtain ⟨k, hk, rfl, hown, hbel⟩ := hrel
    have hkl := stasK_len l k
    by_cases hlt : k < l.length
    · obtain ⟨c0, c1, c2⟩ := (HA.out.below hbel hla) k hlt
      have hbs := hbel.size
      have HY := Lib.hid (stasK_yes (l := l) (k := k))
      have HN := Lib.hid (stasK_no (l := l) (k := k))
      generalize nth l k = X at *
      have hB1 := hbel.alloc hbel.size (.cells #[.int .i64 X.a, .int .i64 X.h, .bool X.s] 34)
      have hO1 := hown.alloc (.cells #[.int .i64 X.a, .int .i64 X.h, .bool X.s] 34)
      have HB1 := Lib.hid hB1
      have HO1 := Lib.hid hO1
      clear hB1 hO1
      go_wp2_with fail
      refine (cloS_c X _).mono ?_
      rintro e w2 ⟨rfl, b2⟩
      have HB2 := Lib.hid (HB1.out.trans (b2.mono HB1.out.size))
      have hown2 := owns_below HO1.out b2
      have hs2 := HB2.out.size
      clear b2 HO1 HB1 hown
      cases hst : X.s with
      | true =>
        have HS := Lib.hid (HY.out hst)
        clear hst
        go_wp2_with (at_builtin; refine wpList_append_own _ rfl _ _ 26 rfl w.heap.size 3 i0 (.int .i64 0) 1 8 Try.underlying26 hi hz0 hz1 hz2 rfl (by decide) _ _ _ rfl (hown2.alloc _) ⟨w2.heap.size, 0, none⟩ 1 1 [.int .i64 (k : Int)] rfl rfl (cell_one_new _ _ _) (by simp [Value.oneCell']) (by unfold maxLen; omega) (by omega) (by simp; omega) ?_; intro v' w3 hown' hgrow _)
        go_roundw
        case rel => exact ⟨k + 1, by omega, by go_num, by rw [HS.out]; simpa [intVs] using hown', (HB2.out.alloc HB2.out.size _).grown hgrow (by simp; omega) (fun j hj => (hown2.lt j hj).1)⟩
        case measure => simp [intOf]; omega
      | false =>
        have HS := Lib.hid (HN.out hst)
        clear hst
        go_wp2
        go_roundw
        case rel => exact ⟨k + 1, by omega, by go_num, by rw [HS.out]; exact hown2, HB2.out⟩
        case measure => simp [intOf]; omega
    · obtain rfl : k = l.length := by omega
      go_wp2
      go_ret
      exact ⟨_, rfl, hown, hbel⟩
set_option maxHeartbeats 1000000 in
theorem implStationsOf_c (v : Value) (l : List Sup) (w : World) (hr : Rs w v l.length (sups l)) (hn : l.length ≤ 1048576) :
    Calls Try.prog 9 #[v] w fun e w' => ∃ g, e = .returned (.tuple #[g, .bool (isL l)]) ∧ w'.ownsRow w.heap.size 3 1 g (stas l).length (intVs (stas l)) ∧ Below w.heap.size w w' := by
  have HR := Lib.hid hr
  clear hr
  cases hb : isL l with
  | false =>
    rw [stas_no hb]
    have HB := Lib.hid hb
    clear hb
    go_enter Try.func9, Try.ntmps9
    go_wp2_with fail
    refine (implIsLine_c v l _ HR.out hn).mono ?_
    rw [HB.out]
    rintro e w1 ⟨rfl, b1⟩
    go_wp2
    go_ret2
    exact ⟨_, rfl, World.ownsRow_made w1 #[] 0 b1.size (by decide) rfl, b1.alloc b1.size _⟩
  | true =>
    have hl := isL_yes hb
    rw [stas_yes hb]
    have HB := Lib.hid hb
    have h2 := hl.two
    have h8 := hl.eight
    clear hb hl
    go_enter Try.func9, Try.ntmps9
    go_wp2_with fail
    refine (implIsLine_c _ l _ HR.out hn).mono ?_
    rw [HB.out]
    rintro e w1 ⟨rfl, b1⟩
    have HR1 := Lib.hid (HR.out.below b1 rfl)
    have B1 := Lib.hid b1
    clear b1
    go_wp2_with fail
    refine (iwhereS_c v l w1 HR1.out h2 h8).mono ?_
    rintro e w2 ⟨g, rfl, o2, b2⟩
    have O2 := Lib.hid (own_mono o2 B1.out.size)
    have B2 := Lib.hid (B1.out.trans (b2.mono B1.out.size))
    clear o2 b2
    go_wp2
    go_ret2
    exact ⟨_, rfl, O2.out, B2.out⟩
set_option maxHeartbeats 1000000 in
theorem specStationsOf_c (v : Value) (l : List Sup) (w : World) (hr : Rs w v l.length (sups l)) (hn : l.length ≤ 1048576) :
    Calls Try.prog 10 #[v] w fun e w' => ∃ g, e = .returned (.tuple #[g, .bool (isL l)]) ∧ w'.ownsRow w.heap.size 3 1 g (stas l).length (intVs (stas l)) ∧ Below w.heap.size w w' := by
  obtain ⟨i0, hi, hz0, hz1, hz2⟩ := info_parts Try.infoInt
  cases hb : isL l with
  | false =>
    rw [stas_no hb]
    have HB := Lib.hid hb
    have HR := Lib.hid hr
    clear hr hb
    go_enter Try.func10, Try.ntmps10
    go_wp2_with fail
    refine (l2Line_c v l _ (HR.out.below ((Below.refl _ _).alloc (Nat.le_refl _) _) rfl) hn).mono ?_
    rw [HB.out]
    rintro e w1 ⟨rfl, d1⟩
    go_wp2
    go_ret2
    exact ⟨_, rfl, own_drew (World.ownsRow_made w #[] 0 (Nat.le_refl _) (by decide) rfl) d1, Drew.below_trans ((Below.refl _ _).alloc (Nat.le_refl _) _) d1⟩
  | true =>
    have hl := isL_yes hb
    rw [stas_yes hb]
    have HB := Lib.hid hb
    have h2 := hl.two
    have h8 := hl.eight
    have HL := Lib.hid hl
    obtain ⟨a, oa, ca, rfl, hla, hm, hs⟩ := hr.sup (by omega)
    have HR := Lib.hid hr
    have HA := Lib.hid hs
    clear hr hb hl hs
    go_enter Try.func10, Try.ntmps10
    go_wp2_with fail
    refine (l2Line_c _ l _ (HR.out.below ((Below.refl _ _).alloc (Nat.le_refl _) _) rfl) hn).mono ?_
    rw [HB.out]
    rintro e w1 ⟨rfl, d1⟩
    go_wp2
    go_loopw [4, 5] (fun o i wr => ∃ k : Nat, k ≤ l.length ∧ i = .int .i64 k ∧ wr.ownsRow w.heap.size 3 1 o (stasK l k).length (intVs (stasK l k)) ∧ Below w.heap.size w wr) (fun _ i _ => l.length - (intOf i).toNat)
    case atStart => exact ⟨0, by omega, rfl, own_drew (World.ownsRow_made w #[] 0 (Nat.le_refl _) (by decide) rfl) d1, Drew.below_trans ((Below.refl _ _).alloc (Nat.le_refl _) _) d1⟩
    case round =>
      obtain ⟨k, hk, rfl, hown, hbel⟩ := hrel
      have hkl := stasK_len l k
      by_cases hlt : k < l.length
      · obtain ⟨_, _, c2⟩ := (HA.out.below hbel hla) k hlt
        have hbs := hbel.size
        cases hst : (nth l k).s with
        | true =>
          have HS := Lib.hid (stasK_yes hst)
          rw [hst] at c2
          clear hst
          go_wp2_with (at_builtin; refine wpList_append_own _ rfl _ _ 26 rfl w.heap.size 3 i0 (.int .i64 0) 1 8 Try.underlying26 hi hz0 hz1 hz2 rfl (by decide) _ _ _ rfl (hown.alloc _) ⟨wr.heap.size, 0, none⟩ 1 1 [.int .i64 (k : Int)] rfl rfl (cell_one_new _ _ _) (by simp [Value.oneCell']) (by unfold maxLen; omega) (by omega) (by simp; omega) ?_; intro v' w3 hown' hgrow _)
          go_roundw
          case rel => exact ⟨k + 1, by omega, by go_num, by rw [HS.out]; simpa [intVs] using hown', (hbel.alloc hbel.size _).grown hgrow (by simp; omega) (fun j hj => (hown.lt j hj).1)⟩
          case measure => simp [intOf]; omega
        | false =>
          have HS := Lib.hid (stasK_no hst)
          rw [hst] at c2
          clear hst
          go_wp2
          go_roundw
          case rel => exact ⟨k + 1, by omega, by go_num, by rw [HS.out]; exact hown, hbel⟩
          case measure => simp [intOf]; omega
      · obtain rfl : k = l.length := by omega
        go_wp2
        go_ret2
        exact ⟨_, rfl, hown, hbel⟩
end Go.Proofs.Ytdnmmafnjhgeiab
