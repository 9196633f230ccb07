/- Ways with a set of brakes, and the specification's speeds. Condition: sizes; the library's table is as laid. -/
import Derived.Test.YthmoogkllpcebaaDoorBrkG
namespace Go.Proofs.YthmoogkllpcebaaDoor
open Go.RowKit
set_option linter.unusedVariables false
theorem spL_in {L S : Int} {l : List Brk} {x : Int} {s n : Nat} (h : ask10 L S l x = true) (hn : n ≤ 60) : ∀ i, i < (spL L (frS S l s) x n).length → 0 ≤ (spL L (frS S l s) x n).getD i 0 ∧ (spL L (frS S l s) x n).getD i 0 ≤ 100000000 := by
  intro i hi
  rw [spL_len] at hi
  obtain ⟨h1, h2⟩ := (ask10_iff _ _ _ _).1 h
  obtain ⟨hm, hp, hg⟩ := (drvOk_iff _ _ _).1 h1
  rw [spL_get (show i ≤ n by omega)]
  have a := spK_nonneg (m := L) (fr := frS S l s) h2.1 i
  have b := spK_bd (m := L) (fr := frS S l s) hm.1 (frS_bd hg hp s) h2 i
  omega
theorem rd10_le (L S : Int) (l : List Brk) (x : Int) (s : Nat) : rd10 L S l x s ≤ 60 := rdK_le _ _ _ _
theorem pairs_rd {L S : Int} {l : List Brk} {x : Int} {s : Nat} (h : ask10 L S l x = true) (g : stp10 L S l x s = true) : pairs10 (spL L (frS S l s) x (rd10 L S l x s)) ((spL L (frS S l s) x (rd10 L S l x s)).length - 1) = way10 L S l x s := by
  obtain ⟨h1, h2⟩ := (ask10_iff _ _ _ _).1 h
  rw [spL_len, Nat.add_sub_cancel, pairs_spL _ (Nat.le_refl _)]
  have hz : spK L (frS S l s) x 60 = 0 := by simpa [stp10] using g
  exact (rdK_way ((rdK_stop h2.1).2 hz)).1.symm
theorem spR_in {L S : Int} {l : List Brk} {x : Int} (s : Nat) : ∀ i, i < (spR10 L S l x s).length → 0 ≤ (spR10 L S l x s).getD i 0 ∧ (spR10 L S l x s).getD i 0 ≤ 100000000 := by
  cases hk : sw10 L S l x s with
  | false => simp [spR10, hk]
  | true =>
    have h : ask10 L S l x = true := by unfold sw10 at hk; simp at hk; exact hk.1
    have e : spR10 L S l x s = spL L (frS S l s) x (rd10 L S l x s) := by simp [spR10, hk]
    rw [e]
    exact spL_in h (rd10_le ..)
theorem pairs_spR (L S : Int) (l : List Brk) (x : Int) (s : Nat) : pairs10 (spR10 L S l x s) ((spR10 L S l x s).length - 1) = wy10 L S l x s := by
  cases hk : sw10 L S l x s with
  | false => simp [spR10, wy10, hk, pairs10]
  | true =>
    have h : ask10 L S l x = true ∧ stp10 L S l x s = true := by unfold sw10 at hk; simpa using hk
    obtain ⟨_, e, e2⟩ := sw10_yes h.1 h.2
    rw [e, e2]
    exact pairs_rd h.1 h.2
theorem ret_ib10 {x y : Int} {a b : Bool} (g : x = y) (h : a = b) : Ending.returned (.tuple #[.int .i64 x, .bool a]) = .returned (.tuple #[.int .i64 y, .bool b]) := by rw [g, h]
set_option maxRecDepth 100000 in
set_option maxHeartbeats 2000000 in
theorem wayWith_c (L S : Int) (v : Value) (l : List Brk) (x U : Int) (s : Nat) (w : World) (hr : Rs w v l.length (brks l)) (hn : l.length ≤ 1048576) (hU : ask10 L S l x = true → U = (s : Int) ∧ s < 2 ^ l.length) (hT : BruP w) :
    Calls Tryd.prog 51 #[.agg #[.int .i64 L, .int .i64 S, v], .int .i64 x, .int .u64 U] w fun e w' => e = .returned (.tuple #[.int .i64 (wy10 L S l x s), .bool (sw10 L S l x s)]) ∧ Below w.heap.size w w' := by
  have HR := Lib.hid hr
  obtain ⟨a, ca, rfl⟩ := hr.shape
  clear hr
  have HB := Lib.hid ((Below.refl w.heap.size w).alloc (Nat.le_refl _) (.cells #[.int .i64 L, .int .i64 S, .slice a l.length ca] 26))
  have E0 := Lib.hid (fun W h h2 => speedsWith_c L S (.slice a l.length ca) l x U s W h hn hU h2)
  have HTB := Lib.hid (hT.below HB.out)
  have HIN := Lib.hid (spR_in (L := L) (S := S) (l := l) (x := x) s)
  have HPR := Lib.hid (pairs_spR L S l x s)
  have HLN := Lib.hid (spR10_len L S l x s)
  clear hT hU
  generalize spR10 L S l x s = sp at *
  generalize sw10 L S l x s = ok at *
  generalize wy10 L S l x s = wy at *
  go_enter Tryd.func51, Tryd.ntmps51
  go_wp2_with fail
  refine (E0.out _ (HR.out.below HB.out rfl) HTB.out).mono ?_
  rintro e w1 ⟨g, rfl, o1, b1⟩
  have HB1 := Lib.hid (HB.out.trans (b1.mono HB.out.size))
  have HO := Lib.hid o1
  clear b1 o1
  go_wp2_with fail
  refine (doubleMeans_c g sp _ (Rd.of_own HO.out) HLN.out HIN.out).mono ?_
  rintro e w2 ⟨rfl, b2⟩
  have HB2 := Lib.hid (HB1.out.trans (b2.mono HB1.out.size))
  clear b2
  go_wp2
  go_ret2
  exact ⟨ret_ib10 HPR.out rfl, HB2.out⟩
theorem bit_at : ∀ s : Nat, s < 16 → ∀ j : Nat, j < 4 → bits BinOp.and IntKind.i64 ((s : Int) / 2 ^ j) 1 = if s.testBit j then 1 else 0 := by decide +kernel
set_option maxHeartbeats 2000000 in
theorem l10Asked_c (L S : Int) (v : Value) (l : List Brk) (x : Int) (w : World) (hr : Rs w v l.length (brks l)) (hn : l.length ≤ 1048576) :
    Calls Tryd.prog 54 #[.agg #[.int .i64 L, .int .i64 S, v], .int .i64 x] w fun e w' => e = .returned (.bool (ask10 L S l x)) ∧ Below w.heap.size w w' := by
  have HR := Lib.hid hr
  obtain ⟨a, ca, rfl⟩ := hr.shape
  clear hr
  have HB := Lib.hid ((Below.refl w.heap.size w).alloc (Nat.le_refl _) (.cells #[.int .i64 L, .int .i64 S, .slice a l.length ca] 26))
  have E0 := Lib.hid (fun W h => l10Good_c L S (.slice a l.length ca) l W h hn)
  have E1 : Hid (∀ W, Calls Tryd.prog 83 #[.int .i64 x] W fun e w' => e = .returned (.bool (inR x 0 100)) ∧ w' = W) := Lib.hid (fun W => by
    have E2 := Lib.hid (fun W => l1In_c x 0 100 W)
    go_enter Tryd.func83, Tryd.ntmps83
    go_wp2_with fail
    refine (E2.out _).mono ?_
    rintro e w1 ⟨rfl, rfl⟩
    go_wp2
    go_ret
    exact ⟨rfl, rfl⟩)
  have hd : ask10 L S l x = (drvOk L S l && inR x 0 100) := rfl
  cases hk : drvOk L S l with
  | false =>
    rw [hk] at E0 hd
    have HD := Lib.hid hd
    clear hk hd
    go_enter Tryd.func54, Tryd.ntmps54
    go_wp2_with fail
    refine (E0.out _ (HR.out.below HB.out rfl)).mono ?_
    rintro e w1 ⟨rfl, b1⟩
    have HT := Lib.hid (HB.out.trans (b1.mono HB.out.size))
    clear b1
    go_wp2
    go_ret
    exact ⟨ret_b HD.out.symm, HT.out⟩
  | true =>
    rw [hk] at E0 hd
    have HD : Hid (ask10 L S l x = inR x 0 100) := Lib.hid (by rw [hd]; rfl)
    clear hk hd
    generalize inR x 0 100 = X at *
    go_enter Tryd.func54, Tryd.ntmps54
    go_wp2_with fail
    refine (E0.out _ (HR.out.below HB.out rfl)).mono ?_
    rintro e w1 ⟨rfl, b1⟩
    have HT := Lib.hid (HB.out.trans (b1.mono HB.out.size))
    clear b1
    go_wp2_with fail
    refine (E1.out _).mono ?_
    rintro e w2 ⟨rfl, rfl⟩
    go_wp2
    go_ret
    exact ⟨ret_b HD.out.symm, HT.out⟩
theorem allI (n : Nat) (h : n ≤ 4) : IntKind.i64.wrap (IntKind.i64.wrap (2 ^ n) - 1) = ((full10 n : Nat) : Int) := by
  have : n = 0 ∨ n = 1 ∨ n = 2 ∨ n = 3 ∨ n = 4 := by omega
  rcases this with rfl | rfl | rfl | rfl | rfl <;> decide
set_option maxHeartbeats 2000000 in
theorem l10All_c (L S : Int) (v : Value) (l : List Brk) (w : World) (hr : Rs w v l.length (brks l)) (h4 : l.length ≤ 4) :
    Calls Tryd.prog 55 #[.agg #[.int .i64 L, .int .i64 S, v]] w fun e w' => e = .returned (.int .i64 ((full10 l.length : Nat) : Int)) ∧ Below w.heap.size w w' := by
  obtain ⟨a, ca, rfl⟩ := hr.shape
  clear hr
  have HA := Lib.hid (allI l.length h4)
  have HB := Lib.hid ((Below.refl w.heap.size w).alloc (Nat.le_refl _) (.cells #[.int .i64 L, .int .i64 S, .slice a l.length ca] 26))
  have q0 : IntKind.u64.wrap (l.length : Int) = (l.length : Int) := by rw [IntKind.wrap_u64]; omega
  go_enter Tryd.func55, Tryd.ntmps55
  go_wp2
  go_ret
  exact ⟨ret_ix10 (by rw [← HA.out, IntWalk.i64_left, IntWalk.i64_left]), HB.out⟩
set_option maxRecDepth 100000 in
set_option maxHeartbeats 4000000 in
theorem l10Speeds_c (L S : Int) (v : Value) (l : List Brk) (x : Int) (s : Nat) (w : World) (hr : Rs w v l.length (brks l)) (hA : ask10 L S l x = true) (hs : s < 2 ^ l.length) :
    Calls Tryd.prog 66 #[.agg #[.int .i64 L, .int .i64 S, v], .int .i64 x, .int .i64 (s : Int)] w fun e w' => ∃ g, e = .returned (.tuple #[g, .bool (stp10 L S l x s)]) ∧ w'.ownsRow w.heap.size 3 1 g (rd10 L S l x s + 1) (intVs (spL L (frS S l s) x (rd10 L S l x s))) ∧ Below w.heap.size w w' := by
  obtain ⟨i0, hi, hz0, hz1, hz2⟩ := info_parts Tryd.infoIntR
  obtain ⟨h1, hx⟩ := (ask10_iff _ _ _ _).1 hA
  obtain ⟨hL, hS, hg⟩ := (drvOk_iff _ _ _).1 h1
  have hl4 := hg.1
  have hs16 := set_lt16 hl4 hs
  obtain ⟨ao, a, oa, ca, rfl, hao, hat⟩ := hr.form_Brk
  have HAO := Lib.hid hao
  have HL := Lib.hid hat
  have HB := Lib.hid ((Below.refl w.heap.size w).alloc (Nat.le_refl _) (.cells #[.int .i64 L, .int .i64 S, .slice ao l.length ca] 26))
  have HB0 := Lib.hid (blk_new3 w (.int .i64 L) (.int .i64 S) (.slice ao l.length ca) 26)
  have HNN := Lib.hid (fun k => spK_nonneg (m := L) (fr := frS S l s) hx.1 k)
  have HBD := Lib.hid (fun k => spK_bd (m := L) (fr := frS S l s) hL.1 (frS_bd hg hS s) hx k)
  have HFB := Lib.hid (fun k => frS_bd hg hS s k)
  have HHB := Lib.hid (fun (k : Int) j h => hold_bd hg (fun i => s.testBit i) k j h)
  have HGB := Lib.hid hg.2
  clear hr hao hat hA h1 hg
  go_enter Tryd.func66, Tryd.ntmps66
  go_wp2
  generalize hW0 : w.alloc (.cells #[.int .i64 L, .int .i64 S, .slice ao l.length ca] 26) = W0 at *
  have hs0 : W0.heap.size = w.heap.size + 1 := by rw [← hW0]; simp
  clear hW0
  go_loopw [1, 8, 9] (fun p o i wr => ∃ k : Nat, k ≤ 60 ∧ i = .int .i64 k ∧ p = .int .i64 (spK L (frS S l s) x k) ∧ wr.ownsRow W0.heap.size 3 1 o (k + 1) (intVs (spL L (frS S l s) x k)) ∧ Hid (Below W0.heap.size W0 wr) ∧ Hid (∀ j, j < k → 0 < spK L (frS S l s) x j)) (fun _ _ i _ => 60 - (intOf i).toNat)
  case atStart => exact ⟨0, by omega, rfl, rfl, by rw [spL_zero]; simpa [hs0] using own_lit1 W0 (.int .i64 x) 3, Lib.hid ((Below.refl _ _).alloc (Nat.le_refl _) _), Lib.hid (fun j h => by omega)⟩
  case round =>
    obtain ⟨k, hk, rfl, rfl, hown, hbel, hno⟩ := hrel
    have hbs := hbel.out.size
    have HO := Lib.hid hown
    have hXn := HNN.out k
    have hXb := HBD.out k
    have HKR := Lib.hid (blk_keep HB0.out hbel.out (by omega))
    obtain ⟨d0, d1, d2⟩ := blk_cell3 HKR.out
    clear hown
    by_cases hst : spK L (frS S l s) x k = 0
    · obtain ⟨g1, g2⟩ := stp_here hx.1 hk hno.out hst
      have HG1 := Lib.hid g1
      have HG2 := Lib.hid g2
      have t1 : decide (0 < spK L (frS S l s) x k) = false := by simp; omega
      have t2 : (spK L (frS S l s) x k == 0) = true := by simpa using hst
      clear hst g1 g2
      generalize spK L (frS S l s) x k = X at *
      by_cases h60 : (k : Int) < 60
      · go_wp2
        go_ret2
        exact ⟨_, ret_v10 HG1.out.symm, by rw [HG2.out]; exact own_mono HO.out (by omega), HB.out.trans (hbel.out.mono HB.out.size)⟩
      · go_wp2
        go_ret2
        exact ⟨_, ret_v10 HG1.out.symm, by rw [HG2.out]; exact own_mono HO.out (by omega), HB.out.trans (hbel.out.mono HB.out.size)⟩
    · have hpos : 0 < spK L (frS S l s) x k := by omega
      have t1 : decide (0 < spK L (frS S l s) x k) = true := by simpa using hpos
      have t2 : (spK L (frS S l s) x k == 0) = false := by simpa using hst
      by_cases h60 : (k : Int) < 60
      · have HNX : Hid (∀ j, j < k + 1 → 0 < spK L (frS S l s) x j) := Lib.hid (fun j hj => by
          by_cases e : j = k
          · subst e; exact hpos
          · exact hno.out j (by omega))
        have HSU := Lib.hid (spL_succ L (frS S l s) x k)
        have HSP : Hid (spK L (frS S l s) x (k + 1) = nxt L (spK L (frS S l s) x k) (frS S l s k)) := Lib.hid (by simp only [spK]; rw [if_pos hpos])
        have HMX := Lib.hid (nxt_most L (spK L (frS S l s) x k) (frS S l s k))
        have hFb := HFB.out k
        have hqb := quo_bd hL.1 hFb
        have HFF : Hid (S - hold l (fun i => s.testBit i) (k : Int) l.length = frS S l s k) := Lib.hid rfl
        clear hst hpos
        generalize nxt L (spK L (frS S l s) x k) (frS S l s k) = Y at *
        generalize spK L (frS S l s) x k = X at *
        generalize frS S l s k = F at *
        go_wp2
        go_loopw [10, 11] (fun f i wr2 => ∃ j : Nat, j ≤ l.length ∧ i = .int .i64 j ∧ f = .int .i64 (S - hold l (fun i => s.testBit i) (k : Int) j) ∧ wr2 = wr) (fun _ i _ => l.length - (intOf i).toNat)
        case atStart => exact ⟨0, by omega, rfl, by simp [hold], rfl⟩
        case round =>
          obtain ⟨j, hj, rfl, rfl, rfl⟩ := hrel
          by_cases hlt : j < l.length
          · obtain ⟨rfl, hla, hll⟩ := HAO.out (by omega)
            obtain ⟨c0, c1⟩ := (HL.out.below (HB.out.trans (hbel.out.mono HB.out.size)) hla) j hlt
            have hbj := HHB.out (k : Int) j hj
            have hgb := (HGB.out j hlt).1
            have q0 : IntKind.u64.wrap (j : Int) = (j : Int) := by rw [IntKind.wrap_u64]; omega
            have qb := bit_at s hs16 j (by omega)
            have hst : hold l (fun i => s.testBit i) (k : Int) (j + 1) = hold l (fun i => s.testBit i) (k : Int) j + (if s.testBit j && decide ((gth l j).d ≤ (k : Int)) then (gth l j).f else 0) := rfl
            generalize hold l (fun i => s.testBit i) (k : Int) j = H at *
            generalize gth l j = D at *
            have q1 : IntKind.i64.wrap (S - H - D.f) = S - H - D.f := IntWalk.i64_in _ (by omega)
            cases hb : s.testBit j with
            | false =>
              rw [hb] at hst qb
              have HS : Hid (hold l (fun i => s.testBit i) (k : Int) (j + 1) = H) := Lib.hid (by rw [hst]; simp)
              clear hst hb
              simp at qb
              go_wp2
              go_roundw
              case rel => exact ⟨j + 1, by omega, by go_num, by first | rw [HS.out] | (simp [hold]; omega), by trivial⟩
              case measure => simp [intOf]; omega
            | true =>
              rw [hb] at hst qb
              simp at qb
              by_cases hd : D.d ≤ (k : Int)
              · have HS : Hid (hold l (fun i => s.testBit i) (k : Int) (j + 1) = H + D.f) := Lib.hid (by rw [hst]; simp [hd])
                have t3 : decide (D.d ≤ (k : Int)) = true := by simpa using hd
                clear hst hb hd
                go_wp2
                go_roundw
                case rel => exact ⟨j + 1, by omega, by go_num, by first | (rw [HS.out]; congr 1; omega) | (simp [hold]; omega), by trivial⟩
                case measure => simp [intOf]; omega
              · have HS : Hid (hold l (fun i => s.testBit i) (k : Int) (j + 1) = H) := Lib.hid (by rw [hst]; simp [hd])
                have t3 : decide (D.d ≤ (k : Int)) = false := by simpa using hd
                clear hst hb hd
                go_wp2
                go_roundw
                case rel => exact ⟨j + 1, by omega, by go_num, by first | rw [HS.out] | (simp [hold]; omega), by trivial⟩
                case measure => simp [intOf]; omega
          · obtain rfl : j = l.length := by omega
            rw [HFF.out]
            have q1 : IntKind.i64.wrap (10 * F) = 10 * F := IntWalk.i64_in _ (by omega)
            have HRD := Lib.hid (fun W => l10Floor_c (10 * F) L W hL (by omega))
            generalize hZ : 10 * F / L = Z at *
            have q2 : IntKind.i64.wrap (X + Z) = X + Z := IntWalk.i64_in _ (by omega)
            have HMS := Lib.hid (fun W => most9_c 0 (X + Z) W)
            clear hZ
            go_wp2_with fail
            refine (HRD.out _).mono ?_
            rintro e w3 ⟨rfl, rfl⟩
            go_wp2_with fail
            refine (HMS.out _).mono ?_
            rintro e w4 ⟨rfl, rfl⟩
            have HYE : Hid ((if X + Z < 0 then (0 : Int) else X + Z) = Y) := HMX
            rw [HYE.out]
            go_wp2_with (at_builtin; go_loud (refine wpList_append_own _ rfl _ _ 29 rfl W0.heap.size 3 i0 (.int .i64 0) 1 8 Tryd.underlying29 hi hz0 hz1 hz2 rfl (by decide) _ _ _ rfl (HO.out.alloc _) ⟨_, 0, none⟩ 1 1 [.int .i64 Y] rfl rfl (cell_one_new _ _ _) (by simp [Value.oneCell']) (by unfold maxLen; omega) (by omega) (by simp; omega) ?_; intro v' w5 hown' hgrow _))
            go_roundw
            case rel => exact ⟨k + 1, by omega, by go_num, by rw [HSP.out], by rw [HSU.out, HSP.out, iv_one]; exact hown', Lib.hid ((hbel.out.alloc hbs _).grown hgrow (by simp; omega) (fun j hj => (HO.out.lt j hj).1)), HNX⟩
            case measure => simp [intOf]; omega
      · have h60k : k = 60 := by omega
        subst h60k
        have HG1 := Lib.hid (stp_not hpos)
        have HG2 : Hid (rd10 L S l x s = 60) := Lib.hid (by
          obtain ⟨r1, r2⟩ := rdK_at (m := L) (fr := frS S l s) hx.1 60
          have hle := rdK_le L (frS S l s) x 60
          by_cases e : rdK L (frS S l s) x 60 < 60
          · have := hno.out _ e
            have := r2 e
            omega
          · unfold rd10; omega)
        clear hst hpos
        generalize spK L (frS S l s) x 60 = X at *
        go_wp2
        go_ret2
        exact ⟨_, ret_v10 HG1.out.symm, by rw [HG2.out]; exact own_mono HO.out (by omega), HB.out.trans (hbel.out.mono HB.out.size)⟩
/-- The specification's way: -1 if it does not stop. -/
def wyS (L S : Int) (l : List Brk) (x : Int) (s : Nat) : Int := if stp10 L S l x s then way10 L S l x s else -1
set_option maxRecDepth 100000 in
set_option maxHeartbeats 4000000 in
theorem l10Way_c (L S : Int) (v : Value) (l : List Brk) (x : Int) (s : Nat) (w : World) (hr : Rs w v l.length (brks l)) (hA : ask10 L S l x = true) (hs : s < 2 ^ l.length) :
    Calls Tryd.prog 56 #[.agg #[.int .i64 L, .int .i64 S, v], .int .i64 x, .int .i64 (s : Int)] w fun e w' => e = .returned (.int .i64 (wyS L S l x s)) ∧ Below w.heap.size w w' := by
  have HR := Lib.hid hr
  obtain ⟨a, ca, rfl⟩ := hr.shape
  clear hr
  have HB := Lib.hid ((Below.refl w.heap.size w).alloc (Nat.le_refl _) (.cells #[.int .i64 L, .int .i64 S, .slice a l.length ca] 26))
  have E0 := Lib.hid (fun W h => l10Speeds_c L S (.slice a l.length ca) l x s W h hA hs)
  have HIN := Lib.hid (spL_in (s := s) hA (rd10_le L S l x s))
  have HLN := Lib.hid (spL_len L (frS S l s) x (rd10 L S l x s))
  have hr60 := rd10_le L S l x s
  cases hk : stp10 L S l x s with
  | false =>
    have HY : Hid (-1 = wyS L S l x s) := Lib.hid (by simp [wyS, hk])
    rw [hk] at E0
    clear hk hA
    go_enter Tryd.func56, Tryd.ntmps56
    go_wp2_with fail
    refine (E0.out _ (HR.out.below HB.out rfl)).mono ?_
    rintro e w1 ⟨g, rfl, o1, b1⟩
    have HB1 := Lib.hid (HB.out.trans (b1.mono HB.out.size))
    clear b1 o1
    go_wp2
    go_ret
    exact ⟨ret_ix10 HY.out, HB1.out⟩
  | true =>
    have HY : Hid (wyS L S l x s = way10 L S l x s) := Lib.hid (by simp [wyS, hk])
    have HPR := Lib.hid (pairs_rd hA hk)
    rw [hk] at E0
    clear hk hA
    generalize spL L (frS S l s) x (rd10 L S l x s) = sp at *
    generalize rd10 L S l x s = n at *
    go_enter Tryd.func56, Tryd.ntmps56
    go_wp2_with fail
    refine (E0.out _ (HR.out.below HB.out rfl)).mono ?_
    rintro e w1 ⟨g, rfl, o1, b1⟩
    have HB1 := Lib.hid (HB.out.trans (b1.mono HB.out.size))
    rw [← HLN.out] at o1
    have HO := Lib.hid o1
    clear b1 o1
    go_wp2_with fail
    refine (l9Way_c g sp _ (Rd.of_own HO.out) (by rw [HLN.out]; omega) HIN.out).mono ?_
    rintro e w2 ⟨rfl, b2⟩
    have HB2 := Lib.hid (HB1.out.trans (b2.mono HB1.out.size))
    clear b2
    go_wp2
    go_ret
    exact ⟨ret_ix10 (by rw [HPR.out, HY.out]), HB2.out⟩
end Go.Proofs.YthmoogkllpcebaaDoor
