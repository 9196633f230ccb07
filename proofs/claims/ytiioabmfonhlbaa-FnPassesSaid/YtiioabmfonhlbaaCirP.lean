/- PlacesAt: the program's and the specification's answer as one function. Condition: sizes. -/
import Derived.Test.YtiioabmfonhlbaaCirG
import Derived.Deep.AppendLies
import Derived.Deep.RegionHeld3
namespace Go.Proofs.Ytiioabmfonhlbaa
open Go.RowKit
set_option linter.unusedVariables false
theorem Try.infoInt8 : (Try.prog.info? 3).map (fun i => (i.zero, i.size, i.bytes)) = some (some (.int .i64 0), 1, 8) := by kernel_rfl
theorem ret_v8 {g : Value} {a b : Bool} (h : a = b) : Ending.returned (.tuple #[g, .bool a]) = .returned (.tuple #[g, .bool b]) := by rw [h]
theorem iv_snoc (l : List Int) (x : Int) : intVs (l ++ [x]) = intVs l ++ [.int .i64 x] := by simp [intVs]
def plOk (L S : Int) (l : List Int) (T : Int) : Bool := cirV L S l && inR T 0 100000
def plR (L S : Int) (l : List Int) (T : Int) : List Int := if plOk L S l T then placesTo L (S * T) l l.length else []
theorem pl_no {L S T : Int} {l : List Int} (h : plOk L S l T = false) : plR L S l T = [] := by simp [plR, h]
theorem pl_yes {L S T : Int} {l : List Int} (h : plOk L S l T = true) : plR L S l T = placesTo L (S * T) l l.length := by simp [plR, h]
theorem plR_len (L S : Int) (l : List Int) (T : Int) : (plR L S l T).length ≤ l.length := by
  unfold plR
  split
  · rw [placesTo_len]; exact Nat.le_refl _
  · simp
theorem plR_len12 (L S : Int) (l : List Int) (T : Int) : (plR L S l T).length ≤ 12 := by
  unfold plR
  split
  · rename_i h
    rw [placesTo_len]
    exact (cirV_parts (by unfold plOk at h; simp at h; exact h.1)).2.2.2
  · simp
/-- products that stay small -/
theorem way_bd {S T : Int} (hS : 1 ≤ S ∧ S ≤ 100) (hT : 0 ≤ T ∧ T ≤ 100000) : 0 ≤ S * T ∧ S * T ≤ 10000000 := by
  have h1 : 0 ≤ S * T := Int.mul_nonneg (by omega) (by omega)
  have h2 : S * T ≤ 100 * 100000 := Int.mul_le_mul (by omega) (by omega) (by omega) (by omega)
  omega
set_option maxRecDepth 100000 in
set_option maxHeartbeats 4000000 in
theorem implPlacesAt_c (L S T : Int) (v : Value) (l : List Int) (w : World) (hr : Rd w v (intVs l)) (hn : l.length ≤ 1048576) (hw : (Lit.int .i64 T).wf = true) :
    Calls Try.prog 42 #[.agg #[.int .i64 L, .int .i64 S, v], .int .i64 T] w fun e w' => ∃ g, e = .returned (.tuple #[g, .bool (plOk L S l T)]) ∧ w'.ownsRow w.heap.size 3 1 g (plR L S l T).length (intVs (plR L S l T)) ∧ Below w.heap.size w w' := by
  obtain ⟨i0, hi, hz0, hz1, hz2⟩ := info_parts Try.infoInt8
  have E0 := Lib.hid (fun W v h => implIsCircle_c L S v l W h hn)
  have E1 := Lib.hid (fun W => within_c T 0 100000 W)
  have HR := Lib.hid hr
  obtain ⟨ao, a, oa, ca, rfl, hao, hat⟩ := hr.form8
  have HA := Lib.hid hao
  have HL := Lib.hid hat
  have HB := Lib.hid ((Below.refl w.heap.size w).alloc (Nat.le_refl _) (.cells #[.int .i64 L, .int .i64 S, .slice ao l.length ca] 26))
  have HB0 := Lib.hid (blk_new3 w (.int .i64 L) (.int .i64 S) (.slice ao l.length ca) 26)
  have hd : plOk L S l T = (cirV L S l && inR T 0 100000) := rfl
  clear hr hw hao hat
  cases hk : cirV L S l with
  | false =>
    rw [hk] at E0 hd
    have HD : Hid (plOk L S l T = false) := Lib.hid (by rw [hd]; rfl)
    have HN := Lib.hid (pl_no HD.out)
    clear hk hd E1
    go_enter Try.func42, Try.ntmps42
    go_wp2_with fail
    refine (E0.out _ _ (HR.out.below HB.out rfl)).mono ?_
    rintro e w1 ⟨rfl, b1⟩
    have HT := Lib.hid (HB.out.trans (b1.mono HB.out.size))
    clear b1
    go_wp2
    go_ret2
    exact ⟨_, ret_v8 HD.out.symm, by rw [HN.out]; exact World.ownsRow_made _ #[] 0 HT.out.size (by decide) rfl, HT.out.alloc HT.out.size _⟩
  | true =>
    cases hm : inR T 0 100000 with
    | false =>
      rw [hk] at E0
      rw [hm] at E1
      rw [hk, hm] at hd
      have HD : Hid (plOk L S l T = false) := Lib.hid (by rw [hd]; rfl)
      have HN := Lib.hid (pl_no HD.out)
      clear hk hm hd
      go_enter Try.func42, Try.ntmps42
      go_wp2_with fail
      refine (E0.out _ _ (HR.out.below HB.out rfl)).mono ?_
      rintro e w1 ⟨rfl, b1⟩
      have HT := Lib.hid (HB.out.trans (b1.mono HB.out.size))
      clear b1
      go_wp2_with fail
      refine (E1.out _).mono ?_
      rintro e w2 ⟨rfl, rfl⟩
      go_wp2
      go_ret2
      exact ⟨_, ret_v8 HD.out.symm, by rw [HN.out]; exact World.ownsRow_made _ #[] 0 HT.out.size (by decide) rfl, HT.out.alloc HT.out.size _⟩
    | true =>
      obtain ⟨hL, hS, hri, h12⟩ := cirV_parts hk
      have HRI := Lib.hid (fun (k : Nat) (h : k < l.length) => rise_at hri h)
      have hT := (inR_iff T 0 100000).1 hm
      rw [hk] at E0
      rw [hm] at E1
      rw [hk, hm] at hd
      have HD : Hid (plOk L S l T = true) := Lib.hid (by rw [hd]; rfl)
      have HY := Lib.hid (pl_yes HD.out)
      have hST := way_bd hS hT
      have q2 : IntKind.i64.wrap (10 * L) = 10 * L := IntWalk.i64_in _ (by omega)
      clear hk hm hd hri
      go_enter Try.func42, Try.ntmps42
      go_wp2_with fail
      refine (E0.out _ _ (HR.out.below HB.out rfl)).mono ?_
      rintro e w1 ⟨rfl, b1⟩
      have HT := Lib.hid (HB.out.trans (b1.mono HB.out.size))
      have HK := Lib.hid (blk_keep HB0.out b1 (by simp))
      have hs1 : w.heap.size + 1 ≤ w1.heap.size := by have := b1.size; simpa using this
      clear b1
      go_wp2_with fail
      refine (E1.out _).mono ?_
      rintro e w2 ⟨rfl, rfl⟩
      obtain ⟨c0, c1, c2⟩ := blk_cell3 (blk_stay (o' := .cells #[] 3) HK.out)
      go_wp2
      go_loopw [6, 22] (fun o i wr => ∃ k : Nat, k ≤ l.length ∧ i = .int .i64 k ∧ wr.ownsRow w2.heap.size 3 1 o k (intVs (placesTo L (S * T) l k)) ∧ Hid (Below w2.heap.size w2 wr)) (fun _ i _ => l.length - (intOf i).toNat)
      case atStart => exact ⟨0, by omega, rfl, World.ownsRow_made w2 #[] 0 (Nat.le_refl _) (by decide) rfl, Lib.hid ((Below.refl _ _).alloc (Nat.le_refl _) _)⟩
      case round =>
        obtain ⟨k, hk, rfl, hown, hbel⟩ := hrel
        have hbs := hbel.out.size
        clear c0 c1 c2
        by_cases hlt : k < l.length
        · obtain ⟨rfl, hla, hlm⟩ := HA.out (by omega)
          have e0 := (HL.out.below (HT.out.trans (hbel.out.mono HT.out.size)) hla) k hlt
          obtain ⟨c0, c1, c2⟩ := blk_cell3 (blk_keep HK.out hbel.out (by omega))
          have HS := Lib.hid (placesTo_succ L (S * T) l k)
          have hb := HRI.out k hlt
          have HP := Lib.hid (placeAt_range (L := L) (s := l.getD k 0) (x := S * T) (by omega))
          have HPE : Hid (placeAt L (l.getD k 0) (S * T) = (10 * l.getD k 0 + S * T) % (10 * L)) := Lib.hid rfl
          generalize l.getD k 0 = X at *
          have q1 : IntKind.i64.wrap (S * T) = S * T := IntWalk.i64_in _ (by omega)
          have q3 : IntKind.i64.wrap (10 * X) = 10 * X := IntWalk.i64_in _ (by omega)
          have q4 : IntKind.i64.wrap (10 * X + S * T) = 10 * X + S * T := IntWalk.i64_in _ (by omega)
          have q5 : Int.tmod (10 * X + S * T) (10 * L) = placeAt L X (S * T) := by rw [HPE.out, Int.tmod_eq_emod_of_nonneg (by omega)]
          have q6 : IntKind.i64.wrap (placeAt L X (S * T)) = placeAt L X (S * T) := IntWalk.i64_in _ (by have := HP.out; omega)
          have q7 : ((10 * L) == 0) = false := by rw [beq_eq_false_iff_ne]; omega
          generalize placeAt L X (S * T) = Y at *
          have HO := Lib.hid hown
          go_wp2_with (at_builtin; go_loud (refine wpList_append_own _ rfl _ _ 24 rfl w2.heap.size 3 i0 (.int .i64 0) 1 8 Try.underlying24 hi hz0 hz1 hz2 rfl (by decide) _ _ _ rfl (HO.out.alloc _) ⟨wr.heap.size, 0, none⟩ 1 1 [.int .i64 Y] rfl rfl (cell_one_new _ _ _) (by simp [Value.oneCell']) (by unfold maxLen; omega) (by omega) (by simp; omega) ?_; intro v' w3 hown' hgrow _))
          go_roundw
          case rel => exact ⟨k + 1, by omega, by go_num, by rw [HS.out, iv_snoc]; exact hown', Lib.hid ((hbel.out.alloc hbs _).grown hgrow (by simp; omega) (fun j hj => (HO.out.lt j hj).1))⟩
          case measure => simp [intOf]; omega
        · obtain rfl : k = l.length := by omega
          go_wp2
          go_ret2
          exact ⟨_, ret_v8 HD.out.symm, by rw [HY.out, placesTo_len]; exact own_mono hown HT.out.size, HT.out.trans (hbel.out.mono HT.out.size)⟩

set_option maxRecDepth 100000 in
set_option maxHeartbeats 4000000 in
theorem specPlacesAt_c (L S T : Int) (v : Value) (l : List Int) (w : World) (hr : Rd w v (intVs l)) (hn : l.length ≤ 1048576) (hw : (Lit.int .i64 T).wf = true) :
    Calls Try.prog 43 #[.agg #[.int .i64 L, .int .i64 S, v], .int .i64 T] w fun e w' => ∃ g, e = .returned (.tuple #[g, .bool (plOk L S l T)]) ∧ w'.ownsRow w.heap.size 3 1 g (plR L S l T).length (intVs (plR L S l T)) ∧ Below w.heap.size w w' := by
  obtain ⟨i0, hi, hz0, hz1, hz2⟩ := info_parts Try.infoInt8
  have E0 := Lib.hid (fun W v h => l8Good_c L S v l W h hn)
  have E1 := Lib.hid (fun W => l8Time_c T W)
  have HR := Lib.hid hr
  obtain ⟨ao, a, oa, ca, rfl, hao, hat⟩ := hr.form8
  have HA := Lib.hid hao
  have HL := Lib.hid hat
  have HB := Lib.hid (((Below.refl w.heap.size w).alloc (Nat.le_refl _) (.cells #[.int .i64 L, .int .i64 S, .slice ao l.length ca] 26)).alloc (by simp) (.cells #[] 3))
  have HB0 := Lib.hid (blk_stay (o' := .cells #[] 3) (blk_new3 w (.int .i64 L) (.int .i64 S) (.slice ao l.length ca) 26))
  have ho0 := World.ownsRow_made (w.alloc (.cells #[.int .i64 L, .int .i64 S, .slice ao l.length ca] 26)) #[] 0 (base := w.heap.size + 1) (e := 3) (size := 1) (by simp) (by decide) rfl
  rw [show (w.alloc (.cells #[.int .i64 L, .int .i64 S, .slice ao l.length ca] 26)).heap.size = w.heap.size + 1 by simp] at ho0
  have HO0 := Lib.hid ho0
  have hd : plOk L S l T = (cirV L S l && inR T 0 100000) := rfl
  clear hr hw hao hat ho0
  cases hk : cirV L S l with
  | false =>
    rw [hk] at E0 hd
    have HD : Hid (plOk L S l T = false) := Lib.hid (by rw [hd]; rfl)
    have HN := Lib.hid (pl_no HD.out)
    clear hk hd E1
    go_enter Try.func43, Try.ntmps43
    go_wp2_with fail
    refine (E0.out _ _ (HR.out.below HB.out rfl)).mono ?_
    rintro e w1 ⟨rfl, b1⟩
    have HT := Lib.hid (HB.out.trans (b1.mono HB.out.size))
    have HO := Lib.hid (owns_below HO0.out b1)
    clear b1
    go_wp2
    go_ret2
    exact ⟨_, ret_v8 HD.out.symm, by rw [HN.out]; exact own_mono HO.out (by omega), HT.out⟩
  | true =>
    cases hm : inR T 0 100000 with
    | false =>
      rw [hk] at E0
      rw [hm] at E1
      rw [hk, hm] at hd
      have HD : Hid (plOk L S l T = false) := Lib.hid (by rw [hd]; rfl)
      have HN := Lib.hid (pl_no HD.out)
      clear hk hm hd
      go_enter Try.func43, Try.ntmps43
      go_wp2_with fail
      refine (E0.out _ _ (HR.out.below HB.out rfl)).mono ?_
      rintro e w1 ⟨rfl, b1⟩
      have HT := Lib.hid (HB.out.trans (b1.mono HB.out.size))
      have HO := Lib.hid (owns_below HO0.out b1)
      clear b1
      go_wp2_with fail
      refine (E1.out _).mono ?_
      rintro e w2 ⟨rfl, rfl⟩
      go_wp2
      go_ret2
      exact ⟨_, ret_v8 HD.out.symm, by rw [HN.out]; exact own_mono HO.out (by omega), HT.out⟩
    | true =>
      obtain ⟨hL, hS, hri, h12⟩ := cirV_parts hk
      have HRI := Lib.hid (fun (k : Nat) (h : k < l.length) => rise_at hri h)
      have hT := (inR_iff T 0 100000).1 hm
      rw [hk] at E0
      rw [hm] at E1
      rw [hk, hm] at hd
      have HD : Hid (plOk L S l T = true) := Lib.hid (by rw [hd]; rfl)
      have HY := Lib.hid (pl_yes HD.out)
      have hST := way_bd hS hT
      have q2 : IntKind.i64.wrap (10 * L) = 10 * L := IntWalk.i64_in _ (by omega)
      clear hk hm hd hri
      go_enter Try.func43, Try.ntmps43
      go_wp2_with fail
      refine (E0.out _ _ (HR.out.below HB.out rfl)).mono ?_
      rintro e w1 ⟨rfl, b1⟩
      have HT := Lib.hid (HB.out.trans (b1.mono HB.out.size))
      have HK := Lib.hid (blk_keep HB0.out b1 (by simp; omega))
      have HO1 := Lib.hid (owns_below HO0.out b1)
      have hs1 : w.heap.size + 2 ≤ w1.heap.size := by have := b1.size; simpa using this
      clear b1
      go_wp2_with fail
      refine (E1.out _).mono ?_
      rintro e w2 ⟨rfl, rfl⟩
      go_wp2
      go_loopw [6, 7] (fun o i wr => ∃ k : Nat, k ≤ l.length ∧ i = .int .i64 k ∧ wr.ownsRow (w.heap.size + 1) 3 1 o k (intVs (placesTo L (S * T) l k)) ∧ Hid (Below w.heap.size w wr) ∧ Hid (wr.heap[w.heap.size]? = some (.cells #[.int .i64 L, .int .i64 S, .slice ao l.length ca] 26 (0, 0))) ∧ Hid (w.heap.size + 2 ≤ wr.heap.size)) (fun _ i _ => l.length - (intOf i).toNat)
      case atStart => exact ⟨0, by omega, rfl, HO1.out, HT, HK, Lib.hid hs1⟩
      case round =>
        obtain ⟨k, hk, rfl, hown, hbel, HKW, HSW⟩ := hrel
        have hbs := HSW.out
        obtain ⟨c0, c1, c2⟩ := blk_cell3 HKW.out
        by_cases hlt : k < l.length
        · obtain ⟨rfl, hla, hlm⟩ := HA.out (by omega)
          have e0 := (HL.out.below hbel.out hla) k hlt
          have HS := Lib.hid (placesTo_succ L (S * T) l k)
          have hb := HRI.out k hlt
          have HP := Lib.hid (placeAt_range (L := L) (s := l.getD k 0) (x := S * T) (by omega))
          have HPE : Hid (placeAt L (l.getD k 0) (S * T) = (10 * l.getD k 0 + S * T) % (10 * L)) := Lib.hid rfl
          generalize l.getD k 0 = X at *
          have q1 : IntKind.i64.wrap (S * T) = S * T := IntWalk.i64_in _ (by omega)
          have q3 : IntKind.i64.wrap (10 * X) = 10 * X := IntWalk.i64_in _ (by omega)
          have q4 : IntKind.i64.wrap (10 * X + S * T) = 10 * X + S * T := IntWalk.i64_in _ (by omega)
          have q5 : Int.tmod (10 * X + S * T) (10 * L) = placeAt L X (S * T) := by rw [HPE.out, Int.tmod_eq_emod_of_nonneg (by omega)]
          have q6 : IntKind.i64.wrap (placeAt L X (S * T)) = placeAt L X (S * T) := IntWalk.i64_in _ (by have := HP.out; omega)
          have q7 : ((10 * L) == 0) = false := by rw [beq_eq_false_iff_ne]; omega
          have hkk : (k : Int) < (l.length : Int) := by omega
          have q8 : ¬ (10 * L = 0) := by omega
          generalize placeAt L X (S * T) = Y at *
          have HOW := Lib.hid hown
          have hab : u6.ownBlock ≠ some a := fun e => by have := (hown.lt a e).1; omega
          have hap : u6.ownBlock ≠ some w.heap.size := fun e => by have := (hown.lt _ e).1; omega
          clear hown
          go_wp2_with fail
          go_region_held3 (fun w' => w'.cell? ⟨a, oa + k, none⟩ = some (.int .i64 X) ∧ w'.cell? ⟨w.heap.size, 0, none⟩ = some (.int .i64 L) ∧ w'.cell? ⟨w.heap.size, 1, none⟩ = some (.int .i64 S) ∧ w'.cell? ⟨w.heap.size, 2, none⟩ = some (.slice (some ⟨a, oa, none⟩) l.length ca))
            (first
              | go_keep
              | (go_split_ands
                 refine ⟨?_, ?_, ?_, ?_⟩
                 · (rw [hgrow.cell_far _ (by simp; omega) (Ne.symm hab)]; assumption)
                 · (rw [hgrow.cell_far _ (by simp; omega) (Ne.symm hap)]; assumption)
                 · (rw [hgrow.cell_far _ (by simp; omega) (Ne.symm hap)]; assumption)
                 · (rw [hgrow.cell_far _ (by simp; omega) (Ne.symm hap)]; assumption)))
            ((refine step_append_lies _ (by rfl) _ _ _ (by rfl) (w.heap.size + 1) 3 i0 (.int .i64 0) 1 8 Try.underlying24 hi hz0 hz1 hz2 rfl (by omega) u6 k (intVs (placesTo L (S * T) l k)) (by rfl) ((HOW.out.alloc _).drew)
                ⟨wr.heap.size, 0, none⟩ 1 1 [.int .i64 Y] (by rfl) (by rfl) (World.news_of_block (cs := #[.int .i64 Y]) (t := 3) (fr := (0, 0)) (heap_alloc_new wr _)) (by simp [Value.oneCell'])
                (by omega) (by unfold maxLen; omega) (by omega) (by simp; omega) (wr.heap.size + 1) (by simp) ?_; intro gg cap w1 hown1 hgrow hat hlt1))
          have HO1 := Lib.hid hown1
          have HG1 := Lib.hid hgrow
          have HKN : Hid (w1.heap[w.heap.size]? = some (.cells #[.int .i64 L, .int .i64 S, .slice (some ⟨a, oa, none⟩) l.length ca] 26 (0, 0))) := Lib.hid ((hgrow.block w.heap.size (by simp; omega) (Ne.symm hap)).trans (blk_stay HKW.out))
          have hgs : w.heap.size + 2 ≤ w1.heap.size := by have := hgrow.size; simp at this; omega
          have HBN := Lib.hid (((hbel.out.alloc hbel.out.size (.cells #[.int .i64 Y] 3)).drew).grown hgrow (by simp; omega) (fun j hj => by have := (HOW.out.lt j hj).1; omega))
          clear hown1 hgrow c0 c1 c2 e0
          go_wp2
          go_roundw
          case rel =>
            refine ⟨k + 1, by omega, by go_num, by rw [HS.out, iv_snoc]; exact HO1.out, HBN, HKN, Lib.hid hgs⟩
          case measure => simp [intOf]; omega
        · obtain rfl : k = l.length := by omega
          go_wp2
          go_ret2
          exact ⟨_, ret_v8 HD.out.symm, by rw [HY.out, placesTo_len]; exact own_mono hown (by omega), hbel.out⟩
end Go.Proofs.Ytiioabmfonhlbaa
