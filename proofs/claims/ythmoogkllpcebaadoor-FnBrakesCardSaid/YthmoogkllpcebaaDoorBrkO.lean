/- The fewest brakes and the speeds: the program's and the specification's answer as one function. Condition: sizes; the library's table is as laid. -/
import Derived.Test.YthmoogkllpcebaaDoorBrkB
import Derived.Deep.RegionHeld3
namespace Go.Proofs.YthmoogkllpcebaaDoor
open Go.RowKit
set_option linter.unusedVariables false
def memTo (s j : Nat) : List Int := ((List.range j).filter (fun i => s.testBit i)).map (fun i : Nat => (i : Int))
theorem memTo_four (s : Nat) : memTo s 4 = memI s := rfl
theorem memTo_yes {s j : Nat} (h : s.testBit j = true) : memTo s (j + 1) = memTo s j ++ [(j : Int)] := by
  unfold memTo
  rw [List.range_succ, List.filter_append, List.map_append]
  simp [h]
theorem memTo_no {s j : Nat} (h : s.testBit j = false) : memTo s (j + 1) = memTo s j := by
  unfold memTo
  rw [List.range_succ, List.filter_append, List.map_append]
  simp [h]
theorem memTo_len (s j : Nat) : (memTo s j).length ≤ j := by
  unfold memTo
  rw [List.length_map]
  exact Nat.le_trans (List.length_filter_le _ _) (by simp)
set_option maxRecDepth 100000 in
set_option maxHeartbeats 4000000 in
theorem l10Members_c (s : Nat) (w : World) (hs : s < 16) :
    Calls Tryd.prog 57 #[.int .i64 s] w fun e w' => ∃ g, e = .returned g ∧ w'.ownsRow w.heap.size 3 1 g (memI s).length (intVs (memI s)) ∧ Below w.heap.size w w' := by
  obtain ⟨i0, hi, hz0, hz1, hz2⟩ := info_parts Tryd.infoIntR
  have HS := Lib.hid hs
  clear hs
  go_enter Tryd.func57, Tryd.ntmps57
  go_wp2
  go_loopw [3, 4] (fun o i wr => ∃ j : Nat, j ≤ 4 ∧ i = .int .i64 j ∧ wr.ownsRow w.heap.size 3 1 o (memTo s j).length (intVs (memTo s j)) ∧ Hid (Below w.heap.size w wr)) (fun _ i _ => 4 - (intOf i).toNat)
  case atStart => exact ⟨0, by omega, rfl, World.ownsRow_made _ #[] 0 (Nat.le_refl _) (by decide) rfl, Lib.hid ((Below.refl _ _).alloc (Nat.le_refl _) _)⟩
  case round =>
    obtain ⟨j, hj, rfl, hown, hbel⟩ := hrel
    have hbs := hbel.out.size
    have HO := Lib.hid hown
    clear hown
    by_cases hlt : j < 4
    · have q0 : IntKind.u64.wrap (j : Int) = (j : Int) := by rw [IntKind.wrap_u64]; omega
      have qb := bit_at s HS.out j hlt
      have hln := memTo_len s j
      cases hb : s.testBit j with
      | false =>
        rw [hb] at qb
        simp at qb
        have HM := Lib.hid (memTo_no hb)
        clear hb
        go_wp2
        go_roundw
        case rel => exact ⟨j + 1, by omega, by go_num, by rw [HM.out]; exact HO.out, hbel⟩
        case measure => simp [intOf]; omega
      | true =>
        rw [hb] at qb
        simp at qb
        have HM := Lib.hid (memTo_yes hb)
        clear hb
        go_wp2_with (at_builtin; go_loud (refine wpList_append_own _ rfl _ _ 29 rfl w.heap.size 3 i0 (.int .i64 0) 1 8 Tryd.underlying29 hi hz0 hz1 hz2 rfl (by decide) _ _ _ rfl (HO.out.alloc _) ⟨_, 0, none⟩ 1 1 [.int .i64 (j : Int)] rfl rfl (cell_one_new _ _ _) (by simp [Value.oneCell']) (by unfold maxLen; omega) (by omega) (by simp; omega) ?_; intro v' w5 hown' hgrow _))
        go_roundw
        case rel => exact ⟨j + 1, by omega, by go_num, by rw [HM.out, iv_one, List.length_append]; exact hown', Lib.hid ((hbel.out.alloc hbs _).grown hgrow (by simp; omega) (fun j hj => (HO.out.lt j hj).1))⟩
        case measure => simp [intOf]; omega
    · obtain rfl : j = 4 := by omega
      rw [memTo_four] at HO
      go_wp2
      go_ret
      exact ⟨_, rfl, HO.out, hbel.out⟩
/-- The first list stands before the second one. -/
def lexB : List Int → List Int → Bool
  | x :: xs, y :: ys => if x = y then lexB xs ys else decide (x < y)
  | _, _ => false
def befL (a b : List Int) : Bool := if a.length = b.length then lexB a b else decide (a.length < b.length)
theorem lex_drop {a b : List Int} (hl : a.length = b.length) : ∀ k, k ≤ a.length → (∀ j, j < k → a.getD j 0 = b.getD j 0) → lexB a b = lexB (a.drop k) (b.drop k)
  | 0, _, _ => rfl
  | k + 1, hk, h => by
    rw [lex_drop hl k (by omega) (fun j hj => h j (by omega))]
    have ha : k < a.length := by omega
    have hb : k < b.length := by omega
    rw [List.drop_eq_getElem_cons ha, List.drop_eq_getElem_cons hb]
    have e := h k (by omega)
    simp only [List.getD, List.getElem?_eq_getElem ha, List.getElem?_eq_getElem hb, Option.getD_some] at e
    simp only [lexB]
    rw [if_pos e]
theorem lex_at {a b : List Int} (hl : a.length = b.length) {k : Nat} (hk : k < a.length) (h : ∀ j, j < k → a.getD j 0 = b.getD j 0) (hne : a.getD k 0 ≠ b.getD k 0) : lexB a b = decide (a.getD k 0 < b.getD k 0) := by
  rw [lex_drop hl k (by omega) h]
  have hb : k < b.length := by omega
  rw [List.drop_eq_getElem_cons hk, List.drop_eq_getElem_cons hb]
  simp only [List.getD, List.getElem?_eq_getElem hk, List.getElem?_eq_getElem hb, Option.getD_some] at hne ⊢
  simp only [lexB]
  rw [if_neg hne]
theorem lex_end {a b : List Int} (hl : a.length = b.length) (h : ∀ j, j < a.length → a.getD j 0 = b.getD j 0) : lexB a b = false := by
  rw [lex_drop hl a.length (Nat.le_refl _) h]
  simp [lexB]
theorem bef_mem : ∀ a : Nat, a < 16 → ∀ b : Nat, b < 16 → befL (memI a) (memI b) = bef10 a b := by decide +kernel
set_option maxRecDepth 100000 in
set_option maxHeartbeats 4000000 in
theorem l10Before_c (va vb : Value) (a b : List Int) (w : World) (hra : Rd w va (intVs a)) (hrb : Rd w vb (intVs b)) (hna : a.length ≤ 4) (hnb : b.length ≤ 4) :
    Calls Tryd.prog 58 #[va, vb] w fun e w' => e = .returned (.bool (befL a b)) ∧ Below w.heap.size w w' := by
  obtain ⟨ao, pa, oa, ca, rfl, hao, hat⟩ := hra.formR
  obtain ⟨bo, pb, ob, cb, rfl, hbo, hbt⟩ := hrb.formR
  have HA := Lib.hid hao
  have HL := Lib.hid hat
  have HB := Lib.hid hbo
  have HM := Lib.hid hbt
  clear hra hrb hao hat hbo hbt
  by_cases hl : a.length = b.length
  · have HE : Hid (befL a b = lexB a b) := Lib.hid (by unfold befL; rw [if_pos hl])
    have HLN := Lib.hid hl
    have t0 : ((a.length : Int) != (b.length : Int)) = false := by simp; omega
    clear hl
    go_enter Tryd.func58, Tryd.ntmps58
    go_wp2
    go_loopw [5] (fun i wr => ∃ k : Nat, k ≤ a.length ∧ i = .int .i64 k ∧ Hid (Below w.heap.size w wr) ∧ Hid (∀ j, j < k → a.getD j 0 = b.getD j 0)) (fun i _ => a.length - (intOf i).toNat)
    case atStart => exact ⟨0, by omega, rfl, Lib.hid (Below.refl _ _), Lib.hid (fun j h => by omega)⟩
    case round =>
      obtain ⟨k, hk, rfl, hbel, hno⟩ := hrel
      by_cases hlt : k < a.length
      · have hlb : k < b.length := by have := HLN.out; omega
        obtain ⟨rfl, hla, hlm⟩ := HA.out (by omega)
        obtain ⟨rfl, hlb2, hlm2⟩ := HB.out (by omega)
        have c0 := (HL.out.below hbel.out hla) k hlt
        have c1 := (HM.out.below hbel.out hlb2) k hlb
        by_cases he : a.getD k 0 = b.getD k 0
        · have HNX : Hid (∀ j, j < k + 1 → a.getD j 0 = b.getD j 0) := Lib.hid (fun j hj => by
            by_cases e : j = k
            · subst e; exact he
            · exact hno.out j (by omega))
          have t1 : (a.getD k 0 != b.getD k 0) = false := by simpa using he
          clear he
          generalize a.getD k 0 = X at *
          generalize b.getD k 0 = Y at *
          go_wp2_with fail
          go_quiet (fail)
          go_wp2
          go_roundw
          case rel => exact ⟨k + 1, by omega, by go_num, Lib.hid (below_drewN hbel.out _), HNX⟩
          case measure => simp [intOf]; omega
        · have HX : Hid (befL a b = decide (a.getD k 0 < b.getD k 0)) := Lib.hid (by rw [HE.out, lex_at HLN.out hlt hno.out he])
          have t1 : (a.getD k 0 != b.getD k 0) = true := by simpa using he
          clear he
          have C0 := Lib.hid c0
          have C1 := Lib.hid c1
          generalize a.getD k 0 = X at *
          generalize b.getD k 0 = Y at *
          go_wp2_with fail
          go_quiet (fail)
          go_wp2_with fail
          go_quiet (fail)
          go_wp2
          go_ret
          exact ⟨ret_b HX.out.symm, below_drewN (below_drewN hbel.out _) _⟩
      · obtain rfl : k = a.length := by omega
        have HX : Hid (befL a b = false) := Lib.hid (by rw [HE.out, lex_end HLN.out hno.out])
        go_wp2
        go_ret
        exact ⟨ret_b HX.out.symm, hbel.out⟩
  · have HE : Hid (befL a b = decide (a.length < b.length)) := Lib.hid (by unfold befL; rw [if_neg hl])
    have t0 : ((a.length : Int) != (b.length : Int)) = true := by simp; omega
    have HD : Hid (decide ((a.length : Int) < (b.length : Int)) = decide (a.length < b.length)) := Lib.hid (by simp)
    clear hl
    go_enter Tryd.func58, Tryd.ntmps58
    go_wp2
    go_ret
    exact ⟨ret_b (by rw [HE.out]), Below.refl _ _⟩
/-- Whether one of the first k sets will do, and which of them stands first. -/
def bstF (f : Nat → Bool) : Nat → Bool
  | 0 => false
  | k + 1 => bstF f k || f k
def bstS (f : Nat → Bool) : Nat → Nat
  | 0 => 0
  | k + 1 => if f k && (!bstF f k || bef10 k (bstS f k)) then k else bstS f k
theorem bstS_lt (f : Nat → Bool) : ∀ k, k ≤ 16 → bstS f k < 16
  | 0, _ => by show 0 < 16; decide
  | k + 1, h => by
    have ih := bstS_lt f k (by omega)
    unfold bstS
    split <;> omega
theorem bst_no {f : Nat → Bool} {k : Nat} (h : f k = false) : bstS f (k + 1) = bstS f k ∧ bstF f (k + 1) = bstF f k := by simp [bstS, bstF, h]
theorem bst_first {f : Nat → Bool} {k : Nat} (h : f k = true) (g : bstF f k = false) : bstS f (k + 1) = k ∧ bstF f (k + 1) = true := by simp [bstS, bstF, h, g]
theorem bst_better {f : Nat → Bool} {k : Nat} (h : f k = true) (g : bstF f k = true) (b : bef10 k (bstS f k) = true) : bstS f (k + 1) = k ∧ bstF f (k + 1) = true := by simp [bstS, bstF, h, g, b]
theorem bst_worse {f : Nat → Bool} {k : Nat} (h : f k = true) (g : bstF f k = true) (b : bef10 k (bstS f k) = false) : bstS f (k + 1) = bstS f k ∧ bstF f (k + 1) = true := by simp [bstS, bstF, h, g, b]
theorem bst_none {f : Nat → Bool} : ∀ k, (∀ j, j < k → f j = false) → bstS f k = 0 ∧ bstF f k = false
  | 0, _ => ⟨rfl, rfl⟩
  | k + 1, h => by
    obtain ⟨a, b⟩ := bst_none k (fun j hj => h j (by omega))
    obtain ⟨c, d⟩ := bst_no (h k (by omega))
    rw [c, d]; exact ⟨a, b⟩
theorem bst_good {f : Nat → Bool} : ∀ {k : Nat}, bstF f k = true → bstS f k < k ∧ f (bstS f k) = true
  | 0, h => by simp [bstF] at h
  | k + 1, h => by
    cases hf : f k with
    | false =>
      obtain ⟨a, b⟩ := bst_no (f := f) hf
      rw [b] at h
      rw [a]
      have := bst_good h
      exact ⟨by omega, this.2⟩
    | true =>
      by_cases hc : bstS f (k + 1) = k
      · rw [hc]; exact ⟨by omega, hf⟩
      · cases hg : bstF f k with
        | false => exact absurd (bst_first hf hg).1 hc
        | true =>
          cases hb : bef10 k (bstS f k) with
          | true => exact absurd (bst_better hf hg hb).1 hc
          | false =>
            rw [(bst_worse hf hg hb).1]
            have := bst_good hg
            exact ⟨by omega, this.2⟩
def fbF (L S : Int) (l : List Brk) (x y : Int) (s : Nat) : Bool := sw10 L S l x s && decide (way10 L S l x s ≤ y)
def fbOk (L S : Int) (l : List Brk) (x y : Int) : Bool := drvOk L S l && decide (0 ≤ y) && bstF (fbF L S l x y) (full10 l.length + 1)
def fbS (L S : Int) (l : List Brk) (x y : Int) : Nat := bstS (fbF L S l x y) (full10 l.length + 1)
def fbR (L S : Int) (l : List Brk) (x y : Int) : List Int := if fbOk L S l x y then memI (fbS L S l x y) else []
theorem fb_no {L S : Int} {l : List Brk} {x y : Int} (h : fbOk L S l x y = false) : fbR L S l x y = [] := by simp [fbR, h]
theorem fb_off {L S : Int} {l : List Brk} {x y : Int} (h : drvOk L S l = false ∨ ¬ 0 ≤ y) : fbOk L S l x y = false := by
  rcases h with h | h <;> simp [fbOk, h]
theorem memI_zero : memI 0 = [] := by simp [memI, mem10_zero]
theorem bst_mem {f : Nat → Bool} : ∀ {k : Nat}, bstF f k = false → bstS f k = 0
  | 0, _ => rfl
  | k + 1, h => by
    have h2 : bstF f k = false ∧ f k = false := by simpa [bstF] using h
    rw [(bst_no h2.2).1, bst_mem h2.1]
theorem fb_in {L S : Int} {l : List Brk} {x y : Int} (h : drvOk L S l = true) (g : 0 ≤ y) : fbOk L S l x y = bstF (fbF L S l x y) (full10 l.length + 1) ∧ fbR L S l x y = memI (bstS (fbF L S l x y) (full10 l.length + 1)) := by
  have e : fbOk L S l x y = bstF (fbF L S l x y) (full10 l.length + 1) := by simp [fbOk, h, g]
  refine ⟨e, ?_⟩
  unfold fbR fbS
  rw [e]
  cases hb : bstF (fbF L S l x y) (full10 l.length + 1) with
  | true => simp
  | false => rw [bst_mem hb]; simp [memI_zero]
theorem fb_unasked {L S : Int} {l : List Brk} {x y : Int} (h : ask10 L S l x = false) : fbOk L S l x y = false := by
  have hf : ∀ j, fbF L S l x y j = false := fun j => by simp [fbF, sw10, h]
  simp [fbOk, (bst_none (f := fbF L S l x y) (full10 l.length + 1) (fun j _ => hf j)).2]
theorem memI_len4 {s : Nat} (h : s < 16) : (memI s).length ≤ 4 := by rw [memI_len]; exact mem10_len s h
theorem fb10_len (L S : Int) (l : List Brk) (x y : Int) : (fbR L S l x y).length ≤ 4 := by
  unfold fbR
  split
  · rename_i h
    unfold fbOk at h
    simp only [Bool.and_eq_true, decide_eq_true_iff] at h
    have h4 := ((drvOk_iff _ _ _).1 h.1.1).2.2.1
    have := full10_lt _ h4
    exact memI_len4 (bstS_lt _ _ (by omega))
  · simp
theorem fbF_out {L S : Int} {l : List Brk} {x y : Int} {s : Nat} (h : sw10 L S l x s = false) : fbF L S l x y s = false := by simp [fbF, h]
theorem fbF_far {L S : Int} {l : List Brk} {x y : Int} {s : Nat} (h : ¬ way10 L S l x s ≤ y) : fbF L S l x y s = false := by simp [fbF, h]
theorem fbF_yes {L S : Int} {l : List Brk} {x y : Int} {s : Nat} (h : sw10 L S l x s = true) (g : way10 L S l x s ≤ y) : fbF L S l x y s = true := by simp [fbF, h, g]
theorem sw10_way {L S : Int} {l : List Brk} {x : Int} {s : Nat} (h : sw10 L S l x s = true) : wy10 L S l x s = way10 L S l x s := by simp [wy10, h]
set_option maxRecDepth 100000 in
set_option maxHeartbeats 4000000 in
theorem implFewestBrakes_c (L S : Int) (v : Value) (l : List Brk) (x y : Int) (w : World) (hr : Rs w v l.length (brks l)) (hn : l.length ≤ 1048576) (hT : BruP w) :
    Calls Tryd.prog 15 #[.agg #[.int .i64 L, .int .i64 S, v], .int .i64 x, .int .i64 y] w fun e w' => ∃ g, e = .returned (.tuple #[g, .bool (fbOk L S l x y)]) ∧ w'.ownsRow w.heap.size 3 1 g (fbR L S l x y).length (intVs (fbR L S l x y)) ∧ Below w.heap.size w w' := by
  have HR := Lib.hid hr
  obtain ⟨a, ca, rfl⟩ := hr.shape
  clear hr
  have HB := Lib.hid ((Below.refl w.heap.size w).alloc (Nat.le_refl _) (.cells #[.int .i64 L, .int .i64 S, .slice a l.length ca] 26))
  have HB0 := Lib.hid (blk_new3 w (.int .i64 L) (.int .i64 S) (.slice a l.length ca) 26)
  have HTB := Lib.hid (hT.below HB.out)
  clear hT
  have E0 := Lib.hid (fun W h => implIsDrive_c L S (.slice a l.length ca) l W h hn)
  cases hk : drvOk L S l with
  | false =>
    rw [hk] at E0
    have HD := Lib.hid (fb_off (L := L) (S := S) (l := l) (x := x) (y := y) (.inl hk))
    have HX := Lib.hid (fb_no HD.out)
    clear hk
    go_enter Tryd.func15, Tryd.ntmps15
    go_wp2_with fail
    refine (E0.out _ (HR.out.below HB.out rfl)).mono ?_
    rintro e w1 ⟨rfl, b1⟩
    have HT := Lib.hid (HB.out.trans (b1.mono HB.out.size))
    clear b1
    go_wp2
    go_ret2
    exact ⟨_, ret_v10 HD.out.symm, by rw [HX.out]; exact World.ownsRow_made _ #[] 0 HT.out.size (by decide) rfl, HT.out.alloc HT.out.size _⟩
  | true =>
    by_cases h0 : 0 ≤ y
    · rw [hk] at E0
      have t0 : decide (y < 0) = false := by simp; omega
      obtain ⟨hL, hS, hg⟩ := (drvOk_iff L S l).1 hk
      have hl4 := hg.1
      have hf16 := full10_lt _ hl4
      have HFL := Lib.hid (full_lt l.length)
      obtain ⟨g1, g2⟩ := fb_in (L := L) (S := S) (l := l) (x := x) (y := y) hk h0
      have HX := Lib.hid (And.intro g1 g2)
      have HAV := Lib.hid (allV_of l.length hl4)
      clear hk hg g1 g2
      go_enter Tryd.func15, Tryd.ntmps15
      go_wp2_with fail
      refine (E0.out _ (HR.out.below HB.out rfl)).mono ?_
      rintro e w1 ⟨rfl, b1⟩
      have HT := Lib.hid (HB.out.trans (b1.mono HB.out.size))
      have HK1 := Lib.hid (blk_keep HB0.out b1 (by simp))
      have hw1 : w.heap.size < w1.heap.size := by have := b1.size; simp at this; omega
      have HTW := Lib.hid (HTB.out.below b1)
      have HAB := Lib.hid (allBrakes_c L S (.slice a l.length ca) l w1 (HR.out.below HT.out rfl) hn)
      change Hid (Calls Tryd.prog 50 #[.agg #[.int .i64 L, .int .i64 S, .slice a l.length ca]] w1 fun e w' => e = .returned (.int .u64 (allV l.length)) ∧ Below w1.heap.size w1 w') at HAB
      rw [HAV.out] at HAB
      clear b1
      obtain ⟨d0, d1, d2⟩ := blk_cell3 HK1.out
      have q1 : IntKind.u64.wrap (((full10 l.length : Nat) : Int) + 1) = ((full10 l.length : Nat) : Int) + 1 := by rw [IntKind.wrap_u64]; omega
      generalize hfl : full10 l.length = fl at *
      clear hfl
      go_wp2_with fail
      refine HAB.out.mono ?_
      rintro e w2 ⟨rfl, b2⟩
      have HT2 := Lib.hid (HT.out.trans (b2.mono HT.out.size))
      have HK2 := Lib.hid (blk_keep HK1.out b2 hw1)
      have hw2 : w.heap.size < w2.heap.size := by have := b2.size; omega
      have HTW2 := Lib.hid (HTW.out.below b2)
      clear b2 d0 d1 d2
      go_wp2
      go_loopw [8, 9, 24] (fun m f i wr => ∃ k : Nat, k ≤ fl + 1 ∧ i = .int .u64 (k : Int) ∧ m = .int .u64 ((bstS (fbF L S l x y) k : Nat) : Int) ∧ f = .bool (bstF (fbF L S l x y) k) ∧ Hid (Below w2.heap.size w2 wr)) (fun _ _ i _ => fl + 1 - (intOf i).toNat)
      case atStart => exact ⟨0, by omega, rfl, rfl, rfl, Lib.hid (Below.refl _ _)⟩
      case round =>
        obtain ⟨k, hk, rfl, rfl, rfl, hbel⟩ := hrel
        have hbs := hbel.out.size
        have HTR := Lib.hid (HT2.out.trans (hbel.out.mono HT2.out.size))
        have HTWR := Lib.hid (HTW2.out.below hbel.out)
        have hS16 := bstS_lt (fbF L S l x y) k (by omega)
        obtain ⟨d0, d1, d2⟩ := blk_cell3 (blk_keep HK2.out hbel.out hw2)
        by_cases hlt : k < fl + 1
        · have t1 : decide ((k : Int) < (fl : Int) + 1) = true := by simp; omega
          have q2 : IntKind.u64.wrap ((k : Int) + 1) = (k : Int) + 1 := by rw [IntKind.wrap_u64]; omega
          have EW := Lib.hid (wayWith_c L S (.slice a l.length ca) l x (k : Int) k wr (HR.out.below HTR.out rfl) hn (fun _ => ⟨rfl, by have := HFL.out; omega⟩) HTWR.out)
          have HNO := Lib.hid (fun h => bst_no (f := fbF L S l x y) (k := k) h)
          have HFI := Lib.hid (fun h g => bst_first (f := fbF L S l x y) (k := k) h g)
          have HBE := Lib.hid (fun h g b => bst_better (f := fbF L S l x y) (k := k) h g b)
          have HWO := Lib.hid (fun h g b => bst_worse (f := fbF L S l x y) (k := k) h g b)
          have HCB := Lib.hid (fun W => comesBefore_c k (bstS (fbF L S l x y) k) W (by omega) hS16)
          have HO1 := Lib.hid (fun h => fbF_out (L := L) (S := S) (l := l) (x := x) (y := y) (s := k) h)
          have HO2 := Lib.hid (fun h => fbF_far (L := L) (S := S) (l := l) (x := x) (y := y) (s := k) h)
          have HO3 := Lib.hid (fun h g => fbF_yes (L := L) (S := S) (l := l) (x := x) (y := y) (s := k) h g)
          have HWY := Lib.hid (fun h => sw10_way (L := L) (S := S) (l := l) (x := x) (s := k) h)
          generalize hms : bstS (fbF L S l x y) k = ms at *
          generalize hfd : bstF (fbF L S l x y) k = fd at *
          clear hms hfd
          cases hsw : sw10 L S l x k with
          | false =>
            rw [hsw] at EW
            have HX2 := Lib.hid (HNO.out (HO1.out hsw))
            clear hsw HNO HFI HBE HWO HO1 HO2 HO3 HWY
            generalize wy10 L S l x k = wy at *
            go_wp2_with fail
            refine EW.out.mono ?_
            rintro e w3 ⟨rfl, b3⟩
            have HB3 := Lib.hid (hbel.out.trans (b3.mono hbs))
            clear b3 d0 d1 d2
            go_wp2
            go_roundw
            case rel => exact ⟨k + 1, by omega, by go_num, by rw [HX2.out.1], by rw [HX2.out.2], HB3⟩
            case measure => simp [intOf]; omega
          | true =>
            rw [hsw, HWY.out hsw] at EW
            by_cases hy : way10 L S l x k ≤ y
            · have HG := Lib.hid (HO3.out hsw hy)
              have t2 : decide (way10 L S l x k ≤ y) = true := by simpa using hy
              clear hsw hy HNO HO1 HO2 HO3 HWY
              generalize way10 L S l x k = wy at *
              cases fd with
              | false =>
                have HX2 := Lib.hid (HFI.out HG.out rfl)
                clear HFI HBE HWO
                go_wp2_with fail
                refine EW.out.mono ?_
                rintro e w3 ⟨rfl, b3⟩
                have HB3 := Lib.hid (hbel.out.trans (b3.mono hbs))
                clear b3 d0 d1 d2
                go_wp2
                go_roundw
                case rel => exact ⟨k + 1, by omega, by go_num, by rw [HX2.out.1], by rw [HX2.out.2], HB3⟩
                case measure => simp [intOf]; omega
              | true =>
                cases hbf : bef10 k ms with
                | true =>
                  have HX2 := Lib.hid (HBE.out HG.out rfl hbf)
                  rw [hbf] at HCB
                  clear HFI HBE HWO hbf
                  go_wp2_with fail
                  refine EW.out.mono ?_
                  rintro e w3 ⟨rfl, b3⟩
                  have HB3 := Lib.hid (hbel.out.trans (b3.mono hbs))
                  clear b3 d0 d1 d2
                  go_wp2_with fail
                  refine (HCB.out _).mono ?_
                  rintro e w4 ⟨rfl, b4⟩
                  have HB4 := Lib.hid (HB3.out.trans (b4.mono HB3.out.size))
                  clear b4
                  go_wp2
                  go_roundw
                  case rel => exact ⟨k + 1, by omega, by go_num, by rw [HX2.out.1], by rw [HX2.out.2], HB4⟩
                  case measure => simp [intOf]; omega
                | false =>
                  have HX2 := Lib.hid (HWO.out HG.out rfl hbf)
                  rw [hbf] at HCB
                  clear HFI HBE HWO hbf
                  go_wp2_with fail
                  refine EW.out.mono ?_
                  rintro e w3 ⟨rfl, b3⟩
                  have HB3 := Lib.hid (hbel.out.trans (b3.mono hbs))
                  clear b3 d0 d1 d2
                  go_wp2_with fail
                  refine (HCB.out _).mono ?_
                  rintro e w4 ⟨rfl, b4⟩
                  have HB4 := Lib.hid (HB3.out.trans (b4.mono HB3.out.size))
                  clear b4
                  go_wp2
                  go_roundw
                  case rel => exact ⟨k + 1, by omega, by go_num, by rw [HX2.out.1], by rw [HX2.out.2], HB4⟩
                  case measure => simp [intOf]; omega
            · have HX2 := Lib.hid (HNO.out (HO2.out hy))
              have t2 : decide (way10 L S l x k ≤ y) = false := by simpa using hy
              clear hsw hy HNO HFI HBE HWO HO1 HO2 HO3 HWY
              generalize way10 L S l x k = wy at *
              go_wp2_with fail
              refine EW.out.mono ?_
              rintro e w3 ⟨rfl, b3⟩
              have HB3 := Lib.hid (hbel.out.trans (b3.mono hbs))
              clear b3 d0 d1 d2
              go_wp2
              go_roundw
              case rel => exact ⟨k + 1, by omega, by go_num, by rw [HX2.out.1], by rw [HX2.out.2], HB3⟩
              case measure => simp [intOf]; omega
        · obtain rfl : k = fl + 1 := by omega
          have HBI := Lib.hid (brakesIn_c (bstS (fbF L S l x y) (fl + 1)) wr hS16 HTWR.out)
          have HSE := Lib.hid hS16
          generalize bstS (fbF L S l x y) (fl + 1) = ms at *
          generalize bstF (fbF L S l x y) (fl + 1) = fd at *
          clear d0 d1 d2 hS16
          go_wp2_with fail
          refine HBI.out.mono ?_
          rintro e w3 ⟨g, rfl, o3, b3⟩
          have HT3 := Lib.hid (HTR.out.trans (b3.mono HTR.out.size))
          have HO3 := Lib.hid (own_mono o3 HTR.out.size)
          clear b3 o3
          go_wp2
          go_ret2
          exact ⟨_, ret_v10 HX.out.1.symm, by rw [HX.out.2]; exact HO3.out, HT3.out⟩
    · rw [hk] at E0
      have HD := Lib.hid (fb_off (L := L) (S := S) (l := l) (x := x) (y := y) (.inr h0))
      have HX := Lib.hid (fb_no HD.out)
      have t0 : decide (y < 0) = true := by simp; omega
      clear hk
      go_enter Tryd.func15, Tryd.ntmps15
      go_wp2_with fail
      refine (E0.out _ (HR.out.below HB.out rfl)).mono ?_
      rintro e w1 ⟨rfl, b1⟩
      have HT := Lib.hid (HB.out.trans (b1.mono HB.out.size))
      clear b1
      go_wp2
      go_ret2
      exact ⟨_, ret_v10 HD.out.symm, by rw [HX.out]; exact World.ownsRow_made _ #[] 0 HT.out.size (by decide) rfl, HT.out.alloc HT.out.size _⟩
end Go.Proofs.YthmoogkllpcebaaDoor
