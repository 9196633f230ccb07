/- SellTicket: the program's and the specification's answer as one function. Condition: sizes; the table of rules is as laid. -/
import Derived.Test.YtpknodbkjjcdjaaDoorTksC
import Derived.Deep.AppendLies
namespace Go.Proofs.YtpknodbkjjcdjaaDoor
open Go.RowKit
set_option linter.unusedVariables false
theorem cell5_newT (w : World) (a b c d e : Value) (t : TypeId) : ∀ j u, [a, b, c, d, e][j]? = some u → (w.alloc (.cells #[a, b, c, d, e] t)).cell? ((⟨w.heap.size, 0, none⟩ : Addr).add j) = some u :=
  fun j u h => by
    have := World.news_of_block (w := w.alloc (.cells #[a, b, c, d, e] t)) (cs := #[a, b, c, d, e]) (t := t) (fr := (0, 0)) (heap_alloc_new w _) j u h
    exact this
theorem ret_vi {v : Value} {a b : Int} {p q : Bool} (h : a = b) (g : p = q) : Ending.returned (.tuple #[v, .int .i64 a, .bool p]) = .returned (.tuple #[v, .int .i64 b, .bool q]) := by rw [h, g]
theorem nw_zero {l : List Tik} (h : l.length = 0) : nwN l = 1 := by unfold nwN; rw [if_pos h]
theorem nw_more {l : List Tik} (h : ¬ l.length = 0) : nwN l = IntKind.i64.wrap ((gth l (l.length - 1)).i + 1) := by unfold nwN; rw [if_neg h]
theorem tiks_more (l : List Tik) (N s d : Int) (h : nwN l = N) : tiks l ++ [.int .i64 N, .int .i64 s, .int .i64 d, .int .i64 0, .int .i64 0] = tiks (l ++ [nwT l s d]) := by
  subst h
  rw [tiks_append, tiks_one]
  rfl
theorem sold_len (l : List Tik) (k : Tik) : (l ++ [k]).length = l.length + 1 := by simp
set_option maxRecDepth 100000 in
set_option maxHeartbeats 4000000 in
theorem implSellTicket_c (v : Value) (l : List Tik) (s d : Int) (w : World) (hr : Rs w v l.length (tiks l)) (hn : l.length ≤ 1048576) (hT : RulP w) :
    Calls Tryd.prog 23 #[v, .int .i64 s, .int .i64 d] w fun e w' => ∃ g, e = .returned (.tuple #[g, .int .i64 (slV l s d), .bool (slOk l s d)]) ∧ w'.ownsRow w.heap.size 31 5 g (slR l s d).length (tiks (slR l s d)) ∧ Below w.heap.size w w' := by
  obtain ⟨i0, hi, hz0, hz1, hz2⟩ := info_parts Tryd.infoTik
  have HR := Lib.hid hr
  have HTT := Lib.hid hT
  obtain ⟨ao, a, oa, ca, rfl, hao, hat⟩ := hr.form_Tik
  have HA := Lib.hid hao
  have HL := Lib.hid hat
  clear hr hT hao hat
  by_cases h0 : l.length = 0
  · have HMO := Lib.hid (tiks_more l 1 s d (nw_zero h0))
    have HNN := Lib.hid (nw_zero h0)
    have HH0 := Lib.hid h0
    have t0 : decide ((0 : Int) < (l.length : Int)) = false := by rw [h0]; simp
    have t1 : decide (0 < l.length) = false := by rw [h0]; simp
    clear h0
    go_enter Tryd.func23, Tryd.ntmps23
    go_wp2_with fail
    refine (cloneT_c _ l w HR.out hn).mono ?_
    rintro e w4 ⟨mv, rfl, o4, b4⟩
    have HT4 := Lib.hid b4
    have hsz4 := b4.size
    have o5 := o4.alloc (.cells #[.int .i64 1, .int .i64 s, .int .i64 d, .int .i64 0, .int .i64 0] 31)
    clear o4 b4
    go_wp2_with (at_builtin; refine wpList_append_own _ rfl _ _ 24 rfl w.heap.size 31 i0 (.agg #[.int .i64 0, .int .i64 0, .int .i64 0, .int .i64 0, .int .i64 0]) 5 40 Tryd.underlying24 hi hz0 hz1 hz2 rfl (by decide) _ _ _ rfl o5 ⟨w4.heap.size, 0, none⟩ 1 1 [.int .i64 1, .int .i64 s, .int .i64 d, .int .i64 0, .int .i64 0] rfl rfl (by simpa using cell5_newT w4 _ _ _ _ _ _) (by simp [Value.oneCell']) (by unfold maxLen; omega) (by omega) (by simp; omega) ?_; intro v' w5 hown' hgrow _)
    have HO5 : Hid (w5.ownsRow w.heap.size 31 5 v' (l ++ [nwT l s d]).length (tiks (l ++ [nwT l s d]))) := Lib.hid (by rw [sold_len, ← HMO.out]; exact hown')
    have HT5 : Hid (Below w.heap.size w w5) := Lib.hid ((HT4.out.alloc HT4.out.size _).grown hgrow (by simp; omega) (fun j hj => (o5.lt j hj).1))
    clear hown' hgrow o5
    refine (implAreTickets_d v' (l ++ [nwT l s d]) w5 (Rs.of_own HO5.out) (by rw [sold_len]; omega) (HTT.out.below HT5.out)).mono ?_
    rintro e w6 ⟨rfl, b6⟩
    have HT6 := Lib.hid (HT5.out.trans (b6.mono HT5.out.size))
    have HO6 := Lib.hid (own_below HO5.out b6)
    have hz6 := HT6.out.size
    clear b6
    cases hq : tikL (l ++ [nwT l s d]) with
    | false =>
      have HN := Lib.hid (sl_no (l := l) (s := s) (d := d) hq)
      have HK : Hid (slOk l s d = false) := Lib.hid hq
      clear hq
      go_wp2
      go_ret3
      exact ⟨_, ret_vi HN.out.2.symm HK.out.symm, by rw [HN.out.1]; exact World.ownsRow_made _ #[] 0 HT6.out.size (by decide) rfl, HT6.out.alloc HT6.out.size _⟩
    | true =>
      have HN := Lib.hid (sl_yes (l := l) (s := s) (d := d) hq)
      have HK : Hid (slOk l s d = true) := Lib.hid hq
      clear hq
      go_wp2
      go_ret3
      exact ⟨_, ret_vi (by rw [HN.out.2, HNN.out]) HK.out.symm, by rw [HN.out.1]; exact HO6.out, HT6.out⟩
  · obtain ⟨rfl, hla, hlm⟩ := HA.out (by omega)
    have hh := HL.out (l.length - 1) (by omega)
    obtain ⟨c0, c1, c2, c3, c4⟩ := hh
    obtain ⟨p1, p2, p3⟩ := pred_in l.length (by omega) (by unfold maxLen at hlm; omega)
    have HMO := Lib.hid (tiks_more l _ s d (nw_more h0))
    have HNN := Lib.hid (nw_more h0)
    have t0 : decide ((0 : Int) < (l.length : Int)) = true := by simp; omega
    have t1 : decide (0 < l.length) = true := by simp; omega
    have hlt : (0 : Int) < (l.length : Int) := by omega
    clear h0
    generalize hN : IntKind.i64.wrap ((gth l (l.length - 1)).i + 1) = N at *
    generalize gth l (l.length - 1) = D at *
    go_enter Tryd.func23, Tryd.ntmps23
    go_wp2_with fail
    refine (cloneT_c _ l w HR.out hn).mono ?_
    rintro e w4 ⟨mv, rfl, o4, b4⟩
    have HT4 := Lib.hid b4
    have hsz4 := b4.size
    have o5 := o4.alloc (.cells #[.int .i64 N, .int .i64 s, .int .i64 d, .int .i64 0, .int .i64 0] 31)
    clear o4 b4
    go_wp2_with (at_builtin; refine wpList_append_own _ rfl _ _ 24 rfl w.heap.size 31 i0 (.agg #[.int .i64 0, .int .i64 0, .int .i64 0, .int .i64 0, .int .i64 0]) 5 40 Tryd.underlying24 hi hz0 hz1 hz2 rfl (by decide) _ _ _ rfl o5 ⟨w4.heap.size, 0, none⟩ 1 1 [.int .i64 N, .int .i64 s, .int .i64 d, .int .i64 0, .int .i64 0] rfl rfl (by simpa using cell5_newT w4 _ _ _ _ _ _) (by simp [Value.oneCell']) (by unfold maxLen; omega) (by omega) (by simp; omega) ?_; intro v' w5 hown' hgrow _)
    have HO5 : Hid (w5.ownsRow w.heap.size 31 5 v' (l ++ [nwT l s d]).length (tiks (l ++ [nwT l s d]))) := Lib.hid (by rw [sold_len, ← HMO.out]; exact hown')
    have HT5 : Hid (Below w.heap.size w w5) := Lib.hid ((HT4.out.alloc HT4.out.size _).grown hgrow (by simp; omega) (fun j hj => (o5.lt j hj).1))
    clear hown' hgrow o5
    refine (implAreTickets_d v' (l ++ [nwT l s d]) w5 (Rs.of_own HO5.out) (by rw [sold_len]; omega) (HTT.out.below HT5.out)).mono ?_
    rintro e w6 ⟨rfl, b6⟩
    have HT6 := Lib.hid (HT5.out.trans (b6.mono HT5.out.size))
    have HO6 := Lib.hid (own_below HO5.out b6)
    have hz6 := HT6.out.size
    clear b6
    cases hq : tikL (l ++ [nwT l s d]) with
    | false =>
      have HN := Lib.hid (sl_no (l := l) (s := s) (d := d) hq)
      have HK : Hid (slOk l s d = false) := Lib.hid hq
      clear hq
      go_wp2
      go_ret3
      exact ⟨_, ret_vi HN.out.2.symm HK.out.symm, by rw [HN.out.1]; exact World.ownsRow_made _ #[] 0 HT6.out.size (by decide) rfl, HT6.out.alloc HT6.out.size _⟩
    | true =>
      have HN := Lib.hid (sl_yes (l := l) (s := s) (d := d) hq)
      have HK : Hid (slOk l s d = true) := Lib.hid hq
      clear hq
      go_wp2
      go_ret3
      exact ⟨_, ret_vi (by rw [HN.out.2, HNN.out]) HK.out.symm, by rw [HN.out.1]; exact HO6.out, HT6.out⟩
set_option maxRecDepth 100000 in
set_option maxHeartbeats 4000000 in
theorem specSellTicket_c (v : Value) (l : List Tik) (s d : Int) (w : World) (hr : Rs w v l.length (tiks l)) (hn : l.length ≤ 1048576) :
    Calls Tryd.prog 24 #[v, .int .i64 s, .int .i64 d] w fun e w' => ∃ g, e = .returned (.tuple #[g, .int .i64 (slV l s d), .bool (slOk l s d)]) ∧ w'.ownsRow w.heap.size 31 5 g (slR l s d).length (tiks (slR l s d)) ∧ Below w.heap.size w w' := by
  obtain ⟨i0, hi, hz0, hz1, hz2⟩ := info_parts Tryd.infoTik
  have E0 := Lib.hid (fun W h => l11Good_c v l W h (by omega))
  have HR := Lib.hid hr
  obtain ⟨ao, a, oa, ca, rfl, hao, hat⟩ := hr.form_Tik
  have HRC : Hid (∀ W, Below w.heap.size w W → 0 < l.length → ∃ ad, ao = some ad ∧ ∀ j u, (tiks l)[j]? = some u → W.cell? (ad.add j) = some u) := Lib.hid (fun W hW h0 => by
    obtain ⟨b, off, cap, hv, hb, _, _, hx⟩ := HR.out.pos (by omega)
    cases hv
    exact ⟨_, rfl, fun j u hu => by rw [gs_addr]; exact (hW.cell (p := ⟨b, off + j, none⟩) hb).trans (hx j u hu)⟩)
  have H1 := Lib.hid (tiks_one_cell l)
  have hld := tiks_len l
  have HA := Lib.hid hao
  have HL := Lib.hid hat
  clear hr hao hat
  by_cases h0 : l.length = 0
  · have HMO := Lib.hid (tiks_more l 1 s d (nw_zero h0))
    have HNN := Lib.hid (nw_zero h0)
    have t0 : decide ((0 : Int) < (l.length : Int)) = false := by rw [h0]; simp
    have t1 : decide (0 < l.length) = false := by rw [h0]; simp
    clear h0
    go_enter Tryd.func24, Tryd.ntmps24
    go_wp2_with (first
      | (at_builtin; refine wpList_append_own _ rfl _ _ 24 rfl w.heap.size 31 i0 (.agg #[.int .i64 0, .int .i64 0, .int .i64 0, .int .i64 0, .int .i64 0]) 5 40 Tryd.underlying24 hi hz0 hz1 hz2 rfl (by decide) _ _ _ rfl (hown3.alloc (.cells #[.int .i64 1, .int .i64 s, .int .i64 d, .int .i64 0, .int .i64 0] 31)) ⟨w3.heap.size, 0, none⟩ 1 1 [.int .i64 1, .int .i64 s, .int .i64 d, .int .i64 0, .int .i64 0] rfl rfl (by simpa using cell5_newT w3 _ _ _ _ _ _) (by simp [Value.oneCell']) (by unfold maxLen; omega) (by omega) (by have := HT3.out.size; simp; omega) ?_; intro v4 w4 hown4 hgrow4 _)
      | (at_builtin; refine wpList_append_any _ rfl _ _ 24 rfl w.heap.size 31 i0 (.agg #[.int .i64 0, .int .i64 0, .int .i64 0, .int .i64 0, .int .i64 0]) 5 40 Tryd.underlying24 hi hz0 hz1 hz2 rfl (by omega) (.slice (some ⟨w.heap.size, 0, none⟩) 0 0) 0 [] rfl (World.ownsRow_made w #[] 0 (Nat.le_refl _) (by decide) rfl) ao l.length ca (tiks l) rfl hld (fun h => HRC.out _ ((Below.refl _ _).alloc (Nat.le_refl _) _) h) H1.out (by unfold maxLen; omega) (by omega) (by simp) ?_; intro v3 w3 hown3 hgrow3 _; have HT3 : Hid (Below w.heap.size w w3) := Lib.hid (((Below.refl _ _).alloc (Nat.le_refl _) _).grown hgrow3 (by simp) (fun k hk => by simp [Value.ownBlock] at hk; omega)))
      | fail)
    have HO4 : Hid (w4.ownsRow w.heap.size 31 5 v4 (l ++ [nwT l s d]).length (tiks (l ++ [nwT l s d]))) := Lib.hid (by
      have h := hown4
      rw [show (0 : Nat) + l.length = l.length from Nat.zero_add _, show ([] : List Value) ++ tiks l = tiks l from rfl] at h
      rw [sold_len, ← HMO.out]; exact h)
    have HT4 : Hid (Below w.heap.size w w4) := Lib.hid ((HT3.out.alloc HT3.out.size _).grown hgrow4 (by have := HT3.out.size; simp; omega) (fun j hj => ((hown3.alloc (.cells #[.int .i64 1, .int .i64 s, .int .i64 d, .int .i64 0, .int .i64 0] 31)).lt j hj).1))
    clear hown4 hgrow4 hown3 hgrow3
    refine (E0.out _ (HR.out.below HT4.out rfl)).mono ?_
    rintro e w5 ⟨rfl, b5⟩
    have HT5 := Lib.hid (HT4.out.trans (b5.mono HT4.out.size))
    have HO5 := Lib.hid (own_below HO4.out b5)
    clear b5
    cases hq0 : tikL l with
    | false =>
      have HK := Lib.hid (sl_list (s := s) (d := d) hq0)
      have HN := Lib.hid (sl_no HK.out)
      clear hq0
      go_wp2
      go_ret3
      exact ⟨_, ret_vi HN.out.2.symm HK.out.symm, by rw [HN.out.1]; exact World.ownsRow_made _ #[] 0 HT5.out.size (by decide) rfl, HT5.out.alloc HT5.out.size _⟩
    | true =>
      clear hq0
      go_wp2_with fail
      refine (l11Good_c v4 (l ++ [nwT l s d]) w5 (Rs.of_own HO5.out) (by rw [sold_len]; omega)).mono ?_
      rintro e w6 ⟨rfl, b6⟩
      have HT6 := Lib.hid (HT5.out.trans (b6.mono HT5.out.size))
      have HO6 := Lib.hid (own_below HO5.out b6)
      have hz6 := HT6.out.size
      clear b6
      cases hq : tikL (l ++ [nwT l s d]) with
      | false =>
        have HN := Lib.hid (sl_no (l := l) (s := s) (d := d) hq)
        have HK : Hid (slOk l s d = false) := Lib.hid hq
        clear hq
        go_wp2
        go_ret3
        exact ⟨_, ret_vi HN.out.2.symm HK.out.symm, by rw [HN.out.1]; exact World.ownsRow_made _ #[] 0 HT6.out.size (by decide) rfl, HT6.out.alloc HT6.out.size _⟩
      | true =>
        have HN := Lib.hid (sl_yes (l := l) (s := s) (d := d) hq)
        have HK : Hid (slOk l s d = true) := Lib.hid hq
        clear hq
        go_wp2
        go_ret3
        exact ⟨_, ret_vi (by rw [HN.out.2, HNN.out]) HK.out.symm, by rw [HN.out.1]; exact HO6.out, HT6.out⟩
  · obtain ⟨rfl, hla, hlm⟩ := HA.out (by omega)
    obtain ⟨c0, c1, c2, c3, c4⟩ := HL.out (l.length - 1) (by omega)
    obtain ⟨p1, p2, p3⟩ := pred_in l.length (by omega) (by unfold maxLen at hlm; omega)
    have HMO := Lib.hid (tiks_more l _ s d (nw_more h0))
    have HNN := Lib.hid (nw_more h0)
    have t0 : decide ((0 : Int) < (l.length : Int)) = true := by simp; omega
    have t1 : decide (0 < l.length) = true := by simp; omega
    have hlt : (0 : Int) < (l.length : Int) := by omega
    clear h0
    generalize hN : IntKind.i64.wrap ((gth l (l.length - 1)).i + 1) = N at *
    generalize gth l (l.length - 1) = D at *
    go_enter Tryd.func24, Tryd.ntmps24
    go_wp2_with (first
      | (at_builtin; refine wpList_append_own _ rfl _ _ 24 rfl w.heap.size 31 i0 (.agg #[.int .i64 0, .int .i64 0, .int .i64 0, .int .i64 0, .int .i64 0]) 5 40 Tryd.underlying24 hi hz0 hz1 hz2 rfl (by decide) _ _ _ rfl (hown3.alloc (.cells #[.int .i64 N, .int .i64 s, .int .i64 d, .int .i64 0, .int .i64 0] 31)) ⟨w3.heap.size, 0, none⟩ 1 1 [.int .i64 N, .int .i64 s, .int .i64 d, .int .i64 0, .int .i64 0] rfl rfl (by simpa using cell5_newT w3 _ _ _ _ _ _) (by simp [Value.oneCell']) (by unfold maxLen; omega) (by omega) (by have := HT3.out.size; simp; omega) ?_; intro v4 w4 hown4 hgrow4 _)
      | (at_builtin; refine wpList_append_any _ rfl _ _ 24 rfl w.heap.size 31 i0 (.agg #[.int .i64 0, .int .i64 0, .int .i64 0, .int .i64 0, .int .i64 0]) 5 40 Tryd.underlying24 hi hz0 hz1 hz2 rfl (by omega) (.slice (some ⟨w.heap.size, 0, none⟩) 0 0) 0 [] rfl (World.ownsRow_made w #[] 0 (Nat.le_refl _) (by decide) rfl) (some ⟨a, oa, none⟩) l.length ca (tiks l) rfl hld (fun h => HRC.out _ ((Below.refl _ _).alloc (Nat.le_refl _) _) h) H1.out (by unfold maxLen; omega) (by omega) (by simp) ?_; intro v3 w3 hown3 hgrow3 _; have HT3 : Hid (Below w.heap.size w w3) := Lib.hid (((Below.refl _ _).alloc (Nat.le_refl _) _).grown hgrow3 (by simp) (fun k hk => by simp [Value.ownBlock] at hk; omega)))
      | fail)
    have HO4 : Hid (w4.ownsRow w.heap.size 31 5 v4 (l ++ [nwT l s d]).length (tiks (l ++ [nwT l s d]))) := Lib.hid (by
      have h := hown4
      rw [show (0 : Nat) + l.length = l.length from Nat.zero_add _, show ([] : List Value) ++ tiks l = tiks l from rfl] at h
      rw [sold_len, ← HMO.out]; exact h)
    have HT4 : Hid (Below w.heap.size w w4) := Lib.hid ((HT3.out.alloc HT3.out.size _).grown hgrow4 (by have := HT3.out.size; simp; omega) (fun j hj => ((hown3.alloc (.cells #[.int .i64 N, .int .i64 s, .int .i64 d, .int .i64 0, .int .i64 0] 31)).lt j hj).1))
    clear hown4 hgrow4 hown3 hgrow3
    refine (E0.out _ (HR.out.below HT4.out rfl)).mono ?_
    rintro e w5 ⟨rfl, b5⟩
    have HT5 := Lib.hid (HT4.out.trans (b5.mono HT4.out.size))
    have HO5 := Lib.hid (own_below HO4.out b5)
    clear b5
    cases hq0 : tikL l with
    | false =>
      have HK := Lib.hid (sl_list (s := s) (d := d) hq0)
      have HN := Lib.hid (sl_no HK.out)
      clear hq0
      go_wp2
      go_ret3
      exact ⟨_, ret_vi HN.out.2.symm HK.out.symm, by rw [HN.out.1]; exact World.ownsRow_made _ #[] 0 HT5.out.size (by decide) rfl, HT5.out.alloc HT5.out.size _⟩
    | true =>
      clear hq0
      go_wp2_with fail
      refine (l11Good_c v4 (l ++ [nwT l s d]) w5 (Rs.of_own HO5.out) (by rw [sold_len]; omega)).mono ?_
      rintro e w6 ⟨rfl, b6⟩
      have HT6 := Lib.hid (HT5.out.trans (b6.mono HT5.out.size))
      have HO6 := Lib.hid (own_below HO5.out b6)
      have hz6 := HT6.out.size
      clear b6
      cases hq : tikL (l ++ [nwT l s d]) with
      | false =>
        have HN := Lib.hid (sl_no (l := l) (s := s) (d := d) hq)
        have HK : Hid (slOk l s d = false) := Lib.hid hq
        clear hq
        go_wp2
        go_ret3
        exact ⟨_, ret_vi HN.out.2.symm HK.out.symm, by rw [HN.out.1]; exact World.ownsRow_made _ #[] 0 HT6.out.size (by decide) rfl, HT6.out.alloc HT6.out.size _⟩
      | true =>
        have HN := Lib.hid (sl_yes (l := l) (s := s) (d := d) hq)
        have HK : Hid (slOk l s d = true) := Lib.hid hq
        clear hq
        go_wp2
        go_ret3
        exact ⟨_, ret_vi (by rw [HN.out.2, HNN.out]) HK.out.symm, by rw [HN.out.1]; exact HO6.out, HT6.out⟩
end Go.Proofs.YtpknodbkjjcdjaaDoor
