/- indicesWhere at integers: the places at which a test holds; TimeStopped, EarliestFree, GreatestFree. Condition: sizes. -/
import Derived.Test.YtoamhbobcpljpaaWndS
namespace Go.Proofs.Ytoamhbobcpljpaa
open Go.RowKit
set_option linter.unusedVariables false
/-- The places below k at which q holds. -/
def idxI (q : Int → Bool) (l : List Int) (k : Nat) : List Int := ((List.range k).filter (fun i => q (l.getD i 0))).map (fun i : Nat => (i : Int))
theorem idxI_yes {q : Int → Bool} {l : List Int} {k : Nat} (h : q (l.getD k 0) = true) : idxI q l (k + 1) = idxI q l k ++ [(k : Int)] := by unfold idxI; rw [List.range_succ, List.filter_append, List.map_append]; simp only [List.filter_cons, h, List.filter_nil]; rfl
theorem idxI_no {q : Int → Bool} {l : List Int} {k : Nat} (h : q (l.getD k 0) = false) : idxI q l (k + 1) = idxI q l k := by unfold idxI; rw [List.range_succ, List.filter_append, List.map_append]; simp only [List.filter_cons, h, List.filter_nil]; simp
theorem idxI_len (q : Int → Bool) (l : List Int) (k : Nat) : (idxI q l k).length ≤ k := by
  have := List.length_filter_le (fun i => q (l.getD i 0)) (List.range k)
  simpa [idxI] using this
theorem ts_len (r : Wru) (l : List Int) : ((idxI (fun x => decide (x = 2)) (rnL r ⟨0, 0⟩ l) (rnL r ⟨0, 0⟩ l).length).length : Int) = tsV r l := by
  cases h : rnOk r ⟨0, 0⟩ l with
  | false => rw [(rn_no h).1, ts_no (by rw [← ts_rn]; exact h)]; rfl
  | true =>
    rw [(rn_yes h).1, ts_yes (by rw [← ts_rn]; exact h), lvK_len]
    unfold idxI tsK
    rw [List.length_map]
    congr 2
    refine List.filter_congr fun i hi => ?_
    rw [lvK_at (List.mem_range.1 hi)]
theorem cloT_c (x : Int) (w : World) :
    Calls Try.prog 63 #[.int .i64 x] w fun e w' => e = .returned (.bool (decide (x = 2))) ∧ Drew w w' := by
  go_enter Try.func63, Try.ntmps63
  go_wp2
  go_ret
  exact ⟨ret_b (by by_cases h : x = 2 <;> simp [h]), Drew.refl _⟩
set_option maxRecDepth 100000 in
set_option maxHeartbeats 2000000 in
theorem iwhereT_c (q : Int → Bool) (v : Value) (l : List Int) (w : World) (hr : Rd w v (intVs l)) (hn : l.length ≤ 1048576)
    (hq : ∀ k W, k < l.length → Below w.heap.size w W → Calls Try.prog 63 #[.int .i64 (l.getD k 0)] W fun e w' => e = .returned (.bool (q (l.getD k 0))) ∧ Drew W w') :
    Calls Try.prog 62 #[v, .func (.func 63) #[] #[]] w fun e w' => ∃ g, e = .returned g ∧ w'.ownsRow w.heap.size 3 1 g (idxI q l l.length).length (intVs (idxI q l l.length)) ∧ Below w.heap.size w w' := by
  obtain ⟨i0, hi, hz0, hz1, hz2⟩ := info_parts Try.infoIntR
  obtain ⟨ao, a, oa, ca, rfl, hao, hat⟩ := hr.formR
  have HA := Lib.hid hao
  have HL := Lib.hid hat
  have HQ := Lib.hid hq
  clear hr hao hat hq
  go_enter Try.func62, Try.ntmps62
  go_wp2
  go_loopw [5, 11] (fun o i wr => ∃ k : Nat, k ≤ l.length ∧ i = .int .i64 k ∧ wr.ownsRow w.heap.size 3 1 o (idxI q l k).length (intVs (idxI q l k)) ∧ Hid (Below w.heap.size w wr)) (fun _ i _ => l.length - (intOf i).toNat)
  case atStart => exact ⟨0, by omega, rfl, World.ownsRow_made w #[] 0 (Nat.le_refl _) (by decide) rfl, Lib.hid ((Below.refl _ _).alloc (Nat.le_refl _) _)⟩
  case round =>
    obtain ⟨k, hk, rfl, hown, hbel⟩ := hrel
    have hkl := idxI_len q l k
    by_cases hlt : k < l.length
    · obtain ⟨rfl, hla, hlm⟩ := HA.out (by omega)
      have c0 := (HL.out.below hbel.out hla) k hlt
      have hbs := hbel.out.size
      have HY := Lib.hid (idxI_yes (q := q) (l := l) (k := k))
      have HN := Lib.hid (idxI_no (q := q) (l := l) (k := k))
      have HC := Lib.hid (HQ.out k wr hlt hbel.out)
      generalize l.getD k 0 = X at *
      generalize q X = b at *
      generalize idxI q l k = L at *
      go_wp2_with fail
      refine (HC.out).mono ?_
      rintro e w2 ⟨rfl, d2⟩
      have HB2 := Lib.hid (Drew.below_trans hbel.out d2)
      have hown2 := own_drew hown d2
      have hs2 := HB2.out.size
      clear d2 hown HC
      cases b with
      | true =>
        have HS := Lib.hid (HY.out rfl)
        go_wp2_with (at_builtin; refine wpList_append_own _ rfl _ _ 28 rfl w.heap.size 3 i0 (.int .i64 0) 1 8 Try.underlying28 hi hz0 hz1 hz2 rfl (by decide) _ _ _ rfl (hown2.alloc _) ⟨w2.heap.size, 0, none⟩ 1 1 [.int .i64 (k : Int)] rfl rfl (cell_one_new _ _ _) (by simp [Value.oneCell']) (by unfold maxLen; omega) (by omega) (by simp; omega) ?_; intro v' w3 hown' hgrow _)
        go_roundw
        case rel => exact ⟨k + 1, by omega, by go_num, by rw [HS.out]; simpa [intVs] using hown', Lib.hid ((HB2.out.alloc HB2.out.size _).grown hgrow (by simp; omega) (fun j hj => (hown2.lt j hj).1))⟩
        case measure => simp [intOf]; omega
      | false =>
        have HS := Lib.hid (HN.out rfl)
        go_wp2
        go_roundw
        case rel => exact ⟨k + 1, by omega, by go_num, by rw [HS.out]; exact hown2, HB2⟩
        case measure => simp [intOf]; omega
    · obtain rfl : k = l.length := by omega
      go_wp2
      go_ret
      exact ⟨_, rfl, hown, hbel.out⟩
set_option maxRecDepth 100000 in
set_option maxHeartbeats 4000000 in
theorem implTimeStopped_c (r : Wru) (v : Value) (l : List Int) (w : World) (hr : Rd w v (intVs l)) (hn : l.length ≤ 1048576) :
    Calls Try.prog 22 #[.agg #[.int .i64 r.a, .int .i64 r.b, .int .i64 r.c, .int .i64 r.d], v] w fun e w' => e = .returned (.tuple #[.int .i64 (tsV r l), .bool (tsOk r l)]) ∧ Below w.heap.size w w' := by
  have E0 : Hid (∀ W, Rd W v (intVs l) → Calls Try.prog 16 #[.agg #[.int .i64 r.a, .int .i64 r.b, .int .i64 r.c, .int .i64 r.d], .agg #[.int .i64 0, .int .i64 0], v] W fun e w' => ∃ g, e = .returned (.tuple #[g, .agg #[.int .i64 (rnS r ⟨0, 0⟩ l).l, .int .i64 (rnS r ⟨0, 0⟩ l).c], .bool (rnOk r ⟨0, 0⟩ l)]) ∧ w'.ownsRow W.heap.size 3 1 g (rnL r ⟨0, 0⟩ l).length (intVs (rnL r ⟨0, 0⟩ l)) ∧ Below W.heap.size W w') := Lib.hid (fun W h => implRunWind_c r ⟨0, 0⟩ v l W h hn)
  have HLE := Lib.hid (ts_len r l)
  have HOE := Lib.hid (ts_rn r l)
  have hl50 := rnL_len r ⟨0, 0⟩ l
  generalize rnL r ⟨0, 0⟩ l = lv at *
  generalize rnS r ⟨0, 0⟩ l = st at *
  generalize rnOk r ⟨0, 0⟩ l = ok at *
  generalize tsV r l = V at *
  generalize tsOk r l = K at *
  have HR := Lib.hid hr
  clear hr
  go_enter Try.func22, Try.ntmps22
  go_wp2_with fail
  have B0 : Hid (Below w.heap.size w (w.alloc (.cells #[.int .i64 r.a, .int .i64 r.b, .int .i64 r.c, .int .i64 r.d] 25))) := Lib.hid ((Below.refl _ _).alloc (Nat.le_refl _) _)
  refine (E0.out _ (HR.out.below B0.out rfl)).mono ?_
  rintro e w1 ⟨g, rfl, og, t1⟩
  have T1 := Lib.hid ((B0.out.trans (t1.mono (by simp))).alloc (B0.out.trans (t1.mono (by simp))).size (.cells #[.int .i64 st.l, .int .i64 st.c] 27))
  have O1 := Lib.hid (og.alloc (.cells #[.int .i64 st.l, .int .i64 st.c] 27))
  clear t1 og
  go_wp2_with fail
  refine (iwhereT_c (fun x => decide (x = 2)) g lv _ (Rd.of_own O1.out) (by omega) (fun k W _ _ => cloT_c _ W)).mono ?_
  rintro e w2 ⟨g2, rfl, og2, t2⟩
  have T2 := Lib.hid (T1.out.trans (t2.mono T1.out.size))
  obtain ⟨a2, b2, o2, c2, hg2, _, _⟩ := (Rd.of_own og2).formR
  have HLE2 := HLE
  clear HLE
  generalize (idxI (fun x => decide (x = 2)) lv lv.length).length = n at *
  subst hg2
  clear og2 t2
  go_wp2
  go_ret2
  exact ⟨ret_ib9 HLE2.out HOE.out, T2.out⟩
set_option maxRecDepth 100000 in
set_option maxHeartbeats 4000000 in
theorem specTimeStopped_c (r : Wru) (v : Value) (l : List Int) (w : World) (hr : Rd w v (intVs l)) (hn : l.length ≤ 1048576) :
    Calls Try.prog 43 #[.agg #[.int .i64 r.a, .int .i64 r.b, .int .i64 r.c, .int .i64 r.d], v] w fun e w' => e = .returned (.tuple #[.int .i64 (tsV r l), .bool (tsOk r l)]) ∧ Below w.heap.size w w' := by
  have HN := Lib.hid (ts_no (r := r) (l := l))
  have HY := Lib.hid (ts_yes (r := r) (l := l))
  have HD : Hid (tsOk r l = (wrV r && vtL l)) := Lib.hid rfl
  have E0 := Lib.hid (fun W => l12Rule_c r W)
  have E1 := Lib.hid (fun W h => l12Votes_c v l W h hn)
  have E2 : Hid (∀ W, Rd W v (intVs l) → l.length ≤ 50 → wrV r = true → Calls Try.prog 57 #[.agg #[.int .i64 r.a, .int .i64 r.b, .int .i64 r.c, .int .i64 r.d], .agg #[.int .i64 0, .int .i64 0], v] W fun e w' => ∃ g, e = .returned (.tuple #[g, .agg #[.int .i64 (stK r ⟨0, 0⟩ l l.length).l, .int .i64 (stK r ⟨0, 0⟩ l l.length).c]]) ∧ w'.ownsRow W.heap.size 3 1 g (lvK r ⟨0, 0⟩ l l.length).length (intVs (lvK r ⟨0, 0⟩ l l.length)) ∧ Below W.heap.size W w') := Lib.hid (fun W h h2 h3 => l12Run_c r ⟨0, 0⟩ v l W h h2 (zero_ok h3))
  have HV5 := Lib.hid (fun h => ((vtL_iff l).1 h).1)
  have HR := Lib.hid hr
  have HC : Hid (∀ W, Below (w.heap.size + 1) (w.alloc (.cells #[.int .i64 r.a, .int .i64 r.b, .int .i64 r.c, .int .i64 r.d] 25)) W → _) := Lib.hid (fun W h => box_Wru w r 25 _ rfl W h)
  have B0 := Lib.hid ((Below.refl w.heap.size w).alloc (Nat.le_refl _) (.cells #[.int .i64 r.a, .int .i64 r.b, .int .i64 r.c, .int .i64 r.d] 25))
  have hs0 : (w.alloc (.cells #[.int .i64 r.a, .int .i64 r.b, .int .i64 r.c, .int .i64 r.d] 25)).heap.size = w.heap.size + 1 := by simp
  clear hr
  generalize hb0 : wrV r = b0 at *
  generalize hb1 : vtL l = b1 at *
  go_enter Try.func43, Try.ntmps43
  go_wp2_with fail
  generalize w.alloc (.cells #[.int .i64 r.a, .int .i64 r.b, .int .i64 r.c, .int .i64 r.d] 25) = W0 at *
  refine (E0.out _).mono ?_
  rintro e w1 ⟨rfl, t1⟩
  have T1 := Lib.hid (B0.out.trans (t1.mono (by omega)))
  cases b0 with
  | false =>
    go_wp2
    go_ret2
    exact ⟨ret_ib9 (by rw [HN.out (by rw [HD.out]; rfl)]) (by rw [HD.out]; rfl), T1.out⟩
  | true =>
    obtain ⟨c0, c1, c2, c3⟩ := HC.out w1 (by rw [← hs0]; exact t1)
    go_wp2_with fail
    refine (E1.out _ (HR.out.below T1.out rfl)).mono ?_
    rintro e w2 ⟨rfl, t2⟩
    have T2 := Lib.hid (T1.out.trans (t2.mono T1.out.size))
    have t12 := t1.trans (t2.mono t1.size)
    cases b1 with
    | false =>
      go_wp2
      go_ret2
      exact ⟨ret_ib9 (by rw [HN.out (by rw [HD.out]; rfl)]) (by rw [HD.out]; rfl), T2.out⟩
    | true =>
      have h50 := HV5.out (by simp)
      have HO : Hid (tsOk r l = true) := Lib.hid (by rw [HD.out]; rfl)
      clear c0 c1 c2 c3
      obtain ⟨c0, c1, c2, c3⟩ := HC.out w2 (by rw [← hs0]; exact t12)
      clear t1 t2 t12 HC hb0 hb1
      go_wp2_with fail
      refine (E2.out _ (HR.out.below T2.out rfl) h50 (by simp)).mono ?_
      rintro e w4 ⟨g, rfl, og, t4⟩
      have T4 := Lib.hid (T2.out.trans (t4.mono T2.out.size))
      have hlen : (lvK r ⟨0, 0⟩ l l.length).length = l.length := lvK_len _ _ _ _
      have O4 := Lib.hid og
      rw [hlen] at O4
      obtain ⟨ao, b, off, cap, rfl, hao, hat⟩ := (Rd.of_own og).formR
      rw [hlen] at hao
      have HA := Lib.hid hao
      have HL := Lib.hid (fun k (hk : k < l.length) => (hat k (by rw [hlen]; exact hk)).trans (by rw [lvK_at hk]))
      have HYY := Lib.hid (HY.out HO.out)
      rw [hlen]
      generalize stK r ⟨0, 0⟩ l l.length = st at *
      clear og t4 hao hat hlen c0 c1 c2 c3 HY HN
      have hz4 := T4.out.size
      go_wp2
      go_loopw [8, 9] (fun n i wr => ∃ k : Nat, k ≤ l.length ∧ i = .int .i64 k ∧ n = .int .i64 (tsK r l k : Int) ∧ wr = w4.alloc (.cells #[.int .i64 st.l, .int .i64 st.c] 27)) (fun _ i _ => l.length - (intOf i).toNat)
      case atStart => exact ⟨0, by omega, rfl, rfl, rfl⟩
      case round =>
        obtain ⟨k, hk, rfl, rfl, rfl⟩ := hrel
        have hkl := tsK_le r l k
        by_cases hlt : k < l.length
        · obtain ⟨rfl, hlb, hlm⟩ := HA.out (by omega)
          have c0 := HL.out k hlt
          have HTY := Lib.hid (tsK_yes (r := r) (l := l) (k := k))
          have HTN := Lib.hid (tsK_no (r := r) (l := l) (k := k))
          generalize (stK r ⟨0, 0⟩ l (k + 1)).l = X at *
          generalize tsK r l k = m at *
          have c1 : (w4.alloc (.cells #[.int .i64 st.l, .int .i64 st.c] 27)).cell? ⟨b, off + k, none⟩ = some (.int .i64 X) := (World.cell?_alloc_some w4 _ _ (by rw [c0]; rfl)).trans c0
          by_cases hx : X = 2
          · have t2 : (X == 2) = true := by simpa using hx
            have HS := Lib.hid (HTY.out hx)
            clear hx c0
            go_wp2
            go_roundw
            case rel => exact ⟨k + 1, by omega, by go_num, by rw [HS.out]; go_num, (by first | rfl | trivial)⟩
            case measure => simp [intOf]; omega
          · have t2 : (X == 2) = false := by simpa using hx
            have HS := Lib.hid (HTN.out hx)
            clear hx c0
            go_wp2
            go_roundw
            case rel => exact ⟨k + 1, by omega, by go_num, by rw [HS.out], (by first | rfl | trivial)⟩
            case measure => simp [intOf]; omega
        · obtain rfl : k = l.length := by omega
          go_wp2
          go_ret2
          exact ⟨ret_ib9 (by rw [HYY.out]) (by rw [HO.out]), T4.out.alloc T4.out.size _⟩
end Go.Proofs.Ytoamhbobcpljpaa
