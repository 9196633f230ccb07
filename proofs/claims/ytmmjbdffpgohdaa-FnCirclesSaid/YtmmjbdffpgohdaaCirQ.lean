/- The gaps behind the cabins: the program's and the specification's answer as one function. Condition: sizes. -/
import Derived.Test.YtmmjbdffpgohdaaCirP
namespace Go.Proofs.Ytmmjbdffpgohdaa
open Go.RowKit
set_option linter.unusedVariables false
def gpR (L S : Int) (l : List Int) : List Int := if cirV L S l then gapsL L l else []
theorem gp_no {L S : Int} {l : List Int} (h : cirV L S l = false) : gpR L S l = [] := by simp [gpR, h]
theorem gp_yes {L S : Int} {l : List Int} (h : cirV L S l = true) : gpR L S l = gapsL L l := by simp [gpR, h]
theorem gapsL_len (L : Int) (l : List Int) : (gapsL L l).length = l.length := gapsTo_len _ _ _
theorem gpR_len (L S : Int) (l : List Int) : (gpR L S l).length ≤ l.length := by
  unfold gpR
  split
  · rw [gapsL_len]; exact Nat.le_refl _
  · simp
theorem gpR_len12 (L S : Int) (l : List Int) : (gpR L S l).length ≤ 12 := by
  unfold gpR
  split
  · rename_i h
    rw [gapsL_len]
    exact (cirV_parts h).2.2.2
  · simp
set_option maxRecDepth 100000 in
set_option maxHeartbeats 4000000 in
theorem implGapsOf_c (L S : Int) (v : Value) (l : List Int) (w : World) (hr : Rd w v (intVs l)) (hn : l.length ≤ 1048576) :
    Calls Try.prog 43 #[.agg #[.int .i64 L, .int .i64 S, v]] w fun e w' => ∃ g, e = .returned (.tuple #[g, .bool (cirV L S l)]) ∧ w'.ownsRow w.heap.size 3 1 g (gpR L S l).length (intVs (gpR L S l)) ∧ Below w.heap.size w w' := by
  obtain ⟨i0, hi, hz0, hz1, hz2⟩ := info_parts Try.infoInt8
  have E0 := Lib.hid (fun W v h => implIsCircle_c L S v l W h hn)
  have HR := Lib.hid hr
  obtain ⟨ao, a, oa, ca, rfl, hao, hat⟩ := hr.form8
  have HA := Lib.hid hao
  have HL := Lib.hid hat
  have HB := Lib.hid ((Below.refl w.heap.size w).alloc (Nat.le_refl _) (.cells #[.int .i64 L, .int .i64 S, .slice ao l.length ca] 55))
  have HB0 := Lib.hid (blk_new3 w (.int .i64 L) (.int .i64 S) (.slice ao l.length ca) 55)
  clear hr hao hat
  cases hk : cirV L S l with
  | false =>
    rw [hk] at E0
    have HN := Lib.hid (gp_no hk)
    clear hk
    go_enter Try.func43, Try.ntmps43
    go_wp2_with fail
    refine (E0.out _ _ (HR.out.below HB.out rfl)).mono ?_
    rintro e w1 ⟨rfl, b1⟩
    have HT := Lib.hid (HB.out.trans (b1.mono HB.out.size))
    clear b1
    go_wp2
    go_ret2
    exact ⟨_, rfl, by rw [HN.out]; exact World.ownsRow_made _ #[] 0 HT.out.size (by decide) rfl, HT.out.alloc HT.out.size _⟩
  | true =>
    obtain ⟨hL, hS, hri, h12⟩ := cirV_parts hk
    have HRI := Lib.hid (fun (k : Nat) (h : k < l.length) => rise_at hri h)
    have HRN := Lib.hid (fun (k : Nat) (h : k + 1 < l.length) => rise_next hri h)
    have HY := Lib.hid (gp_yes hk)
    rw [hk] at E0
    clear hk hri
    go_enter Try.func43, Try.ntmps43
    go_wp2_with fail
    refine (E0.out _ _ (HR.out.below HB.out rfl)).mono ?_
    rintro e w1 ⟨rfl, b1⟩
    have HT := Lib.hid (HB.out.trans (b1.mono HB.out.size))
    have HK := Lib.hid (blk_keep HB0.out b1 (by simp))
    have hs1 : w.heap.size + 1 ≤ w1.heap.size := by have := b1.size; simpa using this
    clear b1
    obtain ⟨c0, c1, c2⟩ := blk_cell3 (blk_stay (o' := .cells #[] 3) HK.out)
    go_wp2
    go_loopw [4, 16] (fun o i wr => ∃ k : Nat, k ≤ l.length ∧ i = .int .i64 k ∧ wr.ownsRow w1.heap.size 3 1 o k (intVs (gapsTo L l k)) ∧ Hid (Below w1.heap.size w1 wr)) (fun _ i _ => l.length - (intOf i).toNat)
    case atStart => exact ⟨0, by omega, rfl, World.ownsRow_made w1 #[] 0 (Nat.le_refl _) (by decide) rfl, Lib.hid ((Below.refl _ _).alloc (Nat.le_refl _) _)⟩
    case round =>
      obtain ⟨k, hk, rfl, hown, hbel⟩ := hrel
      have hbs := hbel.out.size
      clear c0 c1 c2
      by_cases hlt : k < l.length
      · obtain ⟨rfl, hla, hlm⟩ := HA.out (by omega)
        have HLW := Lib.hid (HL.out.below (HT.out.trans (hbel.out.mono HT.out.size)) hla)
        have e0 := HLW.out k hlt
        have f0 := HLW.out 0 (by omega)
        rw [Nat.add_zero] at f0
        have HG := Lib.hid (fun h : k + 1 < l.length => HLW.out (k + 1) h)
        obtain ⟨c0, c1, c2⟩ := blk_cell3 (blk_keep HK.out hbel.out (by omega))
        have HS := Lib.hid (gapsTo_succ L l k)
        have hb := HRI.out k hlt
        have hb0 := HRI.out 0 (by omega)
        have HN := Lib.hid (fun h : k + 1 < l.length => And.intro (HRI.out (k + 1) h) (HRN.out k h))
        have HGI := Lib.hid (fun h : k + 1 < l.length => gap_in (L := L) h)
        have HGL := Lib.hid (fun h : ¬ k + 1 < l.length => gap_last (L := L) h)
        generalize l.getD k 0 = X at *
        generalize l.getD 0 0 = F at *
        generalize l.getD (k + 1) 0 = Z at *
        have HO := Lib.hid hown
        clear hown HLW
        obtain ⟨p1, p2, p3⟩ := succ_in k (by omega)
        have q1 : IntKind.i64.wrap (F + L) = F + L := IntWalk.i64_in _ (by omega)
        by_cases hx : k + 1 < l.length
        · have g0 := HG.out hx
          obtain ⟨hz, hxz⟩ := HN.out hx
          have HX := Lib.hid (HGI.out hx)
          have t1 : decide ((k : Int) + 1 < (l.length : Int)) = true := by simp; omega
          have hxi : (k : Int) + 1 < (l.length : Int) := by omega
          have q2 : IntKind.i64.wrap (Z - X) = Z - X := IntWalk.i64_in _ (by omega)
          go_wp2_with fail
          go_quiet (fail)
          go_wp2_with (at_builtin; go_loud (refine wpList_append_own _ rfl _ _ 49 rfl w1.heap.size 3 i0 (.int .i64 0) 1 8 Try.underlying49 hi hz0 hz1 hz2 rfl (by decide) _ _ _ rfl ((own_drew HO.out ⟨nq, rfl⟩).alloc _) ⟨wr.heap.size, 0, none⟩ 1 1 [.int .i64 (Z - X)] rfl rfl (cell_one_new _ _ _) (by simp [Value.oneCell']) (by unfold maxLen; omega) (by omega) (by simp; omega) ?_; intro v' w3 hown' hgrow _))
          go_roundw
          case rel => exact ⟨k + 1, by omega, by go_num, by rw [HS.out, HX.out, iv_snoc]; exact hown', Lib.hid (((below_drewN hbel.out nq).alloc hbs _).grown hgrow (by simp; omega) (fun j hj => (HO.out.lt j hj).1))⟩
          case measure => simp [intOf]; omega
        · have HX : Hid (gapAt L l k = F + L - X) := Lib.hid (by rw [HGL.out hx]; omega)
          have t1 : decide ((k : Int) + 1 < (l.length : Int)) = false := by simp; omega
          have q2 : IntKind.i64.wrap (F + L - X) = F + L - X := IntWalk.i64_in _ (by omega)
          go_wp2_with fail
          go_quiet (fail)
          go_wp2_with (at_builtin; go_loud (refine wpList_append_own _ rfl _ _ 49 rfl w1.heap.size 3 i0 (.int .i64 0) 1 8 Try.underlying49 hi hz0 hz1 hz2 rfl (by decide) _ _ _ rfl ((own_drew HO.out ⟨nq, rfl⟩).alloc _) ⟨wr.heap.size, 0, none⟩ 1 1 [.int .i64 (F + L - X)] rfl rfl (cell_one_new _ _ _) (by simp [Value.oneCell']) (by unfold maxLen; omega) (by omega) (by simp; omega) ?_; intro v' w3 hown' hgrow _))
          go_roundw
          case rel => exact ⟨k + 1, by omega, by go_num, by rw [HS.out, HX.out, iv_snoc]; exact hown', Lib.hid (((below_drewN hbel.out nq).alloc hbs _).grown hgrow (by simp; omega) (fun j hj => (HO.out.lt j hj).1))⟩
          case measure => simp [intOf]; omega
      · obtain rfl : k = l.length := by omega
        go_wp2
        go_ret2
        exact ⟨_, rfl, by rw [HY.out, gapsL_len]; exact own_mono hown HT.out.size, HT.out.trans (hbel.out.mono HT.out.size)⟩

set_option maxRecDepth 100000 in
set_option maxHeartbeats 4000000 in
theorem l8Gaps_c (L S : Int) (v : Value) (l : List Int) (w : World) (hr : Rd w v (intVs l)) (hV : cirV L S l = true) :
    Calls Try.prog 85 #[.agg #[.int .i64 L, .int .i64 S, v]] w fun e w' => ∃ g, e = .returned g ∧ w'.ownsRow w.heap.size 3 1 g l.length (intVs (gapsL L l)) ∧ Below w.heap.size w w' := by
  obtain ⟨i0, hi, hz0, hz1, hz2⟩ := info_parts Try.infoInt8
  have HR := Lib.hid hr
  obtain ⟨ao, a, oa, ca, rfl, hao, hat⟩ := hr.form8
  have HA := Lib.hid hao
  have HL := Lib.hid hat
  have HB := Lib.hid (((Below.refl w.heap.size w).alloc (Nat.le_refl _) (.cells #[.int .i64 L, .int .i64 S, .slice ao l.length ca] 55)).alloc (by simp) (.cells #[] 3))
  have HB0 := Lib.hid (blk_stay (o' := .cells #[] 3) (blk_new3 w (.int .i64 L) (.int .i64 S) (.slice ao l.length ca) 55))
  have ho0 := World.ownsRow_made (w.alloc (.cells #[.int .i64 L, .int .i64 S, .slice ao l.length ca] 55)) #[] 0 (base := w.heap.size + 1) (e := 3) (size := 1) (by simp) (by decide) rfl
  rw [show (w.alloc (.cells #[.int .i64 L, .int .i64 S, .slice ao l.length ca] 55)).heap.size = w.heap.size + 1 by simp] at ho0
  have HO0 := Lib.hid ho0
  obtain ⟨hL, hS, hri, h12⟩ := cirV_parts hV
  have HRI := Lib.hid (fun (k : Nat) (h : k < l.length) => rise_at hri h)
  have HRN := Lib.hid (fun (k : Nat) (h : k + 1 < l.length) => rise_next hri h)
  obtain ⟨c0, c1, c2⟩ := blk_cell3 HB0.out
  clear hr hao hat ho0 hV hri
  go_enter Try.func85, Try.ntmps85
  go_wp2
  go_loopw [3, 5] (fun o i wr => ∃ k : Nat, k ≤ l.length ∧ i = .int .i64 k ∧ wr.ownsRow (w.heap.size + 1) 3 1 o k (intVs (gapsTo L l k)) ∧ Hid (Below w.heap.size w wr) ∧ Hid (wr.heap[w.heap.size]? = some (.cells #[.int .i64 L, .int .i64 S, .slice ao l.length ca] 55 (0, 0))) ∧ Hid (w.heap.size + 2 ≤ wr.heap.size)) (fun _ i _ => l.length - (intOf i).toNat)
  case atStart => exact ⟨0, by omega, rfl, HO0.out, HB, HB0, Lib.hid (by simp)⟩
  case round =>
    obtain ⟨k, hk, rfl, hown, hbel, HKW, HSW⟩ := hrel
    have hbs := HSW.out
    clear c0 c1 c2
    obtain ⟨c0, c1, c2⟩ := blk_cell3 HKW.out
    by_cases hlt : k < l.length
    · obtain ⟨rfl, hla, hlm⟩ := HA.out (by omega)
      have HLW := Lib.hid (HL.out.below hbel.out hla)
      have e0 := HLW.out k hlt
      have f0 := HLW.out 0 (by omega)
      rw [Nat.add_zero] at f0
      have HG := Lib.hid (fun h : k + 1 < l.length => HLW.out (k + 1) h)
      have HS := Lib.hid (gapsTo_succ L l k)
      have hb := HRI.out k hlt
      have hb0 := HRI.out 0 (by omega)
      have HN := Lib.hid (fun h : k + 1 < l.length => And.intro (HRI.out (k + 1) h) (HRN.out k h))
      have HGI := Lib.hid (fun h : k + 1 < l.length => gap_in (L := L) h)
      have HGL := Lib.hid (fun h : ¬ k + 1 < l.length => gap_last (L := L) h)
      generalize l.getD k 0 = X at *
      generalize l.getD 0 0 = F at *
      generalize l.getD (k + 1) 0 = Z at *
      have HOW := Lib.hid hown
      have hab : u3.ownBlock ≠ some a := fun e => by have := (hown.lt a e).1; omega
      have hap : u3.ownBlock ≠ some w.heap.size := fun e => by have := (hown.lt _ e).1; omega
      clear hown HLW
      obtain ⟨p1, p2, p3⟩ := succ_in k (by omega)
      have hkk : (k : Int) < (l.length : Int) := by omega
      have h0n : (0 : Int) < (l.length : Int) := by omega
      have h0m : 0 < l.length := by omega
      by_cases hx : k + 1 < l.length
      · have g0 := HG.out hx
        obtain ⟨hz, hxz⟩ := HN.out hx
        have HX := Lib.hid (HGI.out hx)
        have t1 : decide ((k : Int) + 1 < (l.length : Int)) = true := by simp; omega
        have hxi : (k : Int) + 1 < (l.length : Int) := by omega
        have q2 : IntKind.i64.wrap (Z - X) = Z - X := IntWalk.i64_in _ (by omega)
        go_wp2_with fail
        go_region_held3 (fun w' => w'.cell? ⟨a, oa + k, none⟩ = some (.int .i64 X) ∧ w'.cell? ⟨a, oa + (k + 1), none⟩ = some (.int .i64 Z) ∧ w'.cell? ⟨w.heap.size, 2, none⟩ = some (.slice (some ⟨a, oa, none⟩) l.length ca))
          (first
            | go_keep
            | (go_split_ands
               refine ⟨?_, ?_, ?_⟩
               · (rw [hgrow.cell_far _ (by simp; omega) (Ne.symm hab)]; assumption)
               · (rw [hgrow.cell_far _ (by simp; omega) (Ne.symm hab)]; assumption)
               · (rw [hgrow.cell_far _ (by simp; omega) (Ne.symm hap)]; assumption)))
          ((refine step_append_lies _ (by rfl) _ _ _ (by rfl) (w.heap.size + 1) 3 i0 (.int .i64 0) 1 8 Try.underlying49 hi hz0 hz1 hz2 rfl (by omega) u3 k (intVs (gapsTo L l k)) (by rfl) ((HOW.out.alloc _).drew)
              ⟨wr.heap.size, 0, none⟩ 1 1 [.int .i64 (Z - X)] (by rfl) (by rfl) (World.news_of_block (cs := #[.int .i64 (Z - X)]) (t := 3) (fr := (0, 0)) (heap_alloc_new wr _)) (by simp [Value.oneCell'])
              (by omega) (by unfold maxLen; omega) (by omega) (by simp; omega) (wr.heap.size + 1) (by simp) ?_; intro gg cap w1 hown1 hgrow hat hlt1))
        have HO1 := Lib.hid hown1
        have HKN : Hid (w1.heap[w.heap.size]? = some (.cells #[.int .i64 L, .int .i64 S, .slice (some ⟨a, oa, none⟩) l.length ca] 55 (0, 0))) := Lib.hid ((hgrow.block w.heap.size (by simp; omega) (Ne.symm hap)).trans (blk_stay HKW.out))
        have hgs : w.heap.size + 2 ≤ w1.heap.size := by have := hgrow.size; simp at this; omega
        have HBN := Lib.hid (((hbel.out.alloc hbel.out.size (.cells #[.int .i64 (Z - X)] 3)).drew).grown hgrow (by simp; omega) (fun j hj => by have := (HOW.out.lt j hj).1; omega))
        clear hown1 hgrow c0 c1 c2
        go_wp2
        go_roundw
        case rel =>
          refine ⟨k + 1, by omega, by go_num, by rw [HS.out, HX.out, iv_snoc]; exact HO1.out, HBN, HKN, Lib.hid hgs⟩
        case measure => simp [intOf]; omega
      · have HX := Lib.hid (HGL.out hx)
        have t1 : decide ((k : Int) + 1 < (l.length : Int)) = false := by simp; omega
        have q2 : IntKind.i64.wrap (L - X) = L - X := IntWalk.i64_in _ (by omega)
        have q3 : IntKind.i64.wrap (L - X + F) = L - X + F := IntWalk.i64_in _ (by omega)
        go_wp2_with fail
        go_region_held3 (fun w' => w'.cell? ⟨a, oa + k, none⟩ = some (.int .i64 X) ∧ w'.cell? ⟨a, oa, none⟩ = some (.int .i64 F) ∧ w'.cell? ⟨w.heap.size, 0, none⟩ = some (.int .i64 L) ∧ w'.cell? ⟨w.heap.size, 2, none⟩ = some (.slice (some ⟨a, oa, none⟩) l.length ca))
          (first
            | go_keep
            | (go_split_ands
               refine ⟨?_, ?_, ?_, ?_⟩
               · (rw [hgrow.cell_far _ (by simp; omega) (Ne.symm hab)]; assumption)
               · (rw [hgrow.cell_far _ (by simp; omega) (Ne.symm hab)]; assumption)
               · (rw [hgrow.cell_far _ (by simp; omega) (Ne.symm hap)]; assumption)
               · (rw [hgrow.cell_far _ (by simp; omega) (Ne.symm hap)]; assumption)))
          ((refine step_append_lies _ (by rfl) _ _ _ (by rfl) (w.heap.size + 1) 3 i0 (.int .i64 0) 1 8 Try.underlying49 hi hz0 hz1 hz2 rfl (by omega) u3 k (intVs (gapsTo L l k)) (by rfl) ((HOW.out.alloc _).drew)
              ⟨wr.heap.size, 0, none⟩ 1 1 [.int .i64 (L - X + F)] (by rfl) (by rfl) (World.news_of_block (cs := #[.int .i64 (L - X + F)]) (t := 3) (fr := (0, 0)) (heap_alloc_new wr _)) (by simp [Value.oneCell'])
              (by omega) (by unfold maxLen; omega) (by omega) (by simp; omega) (wr.heap.size + 1) (by simp) ?_; intro gg cap w1 hown1 hgrow hat hlt1))
        have HO1 := Lib.hid hown1
        have HKN : Hid (w1.heap[w.heap.size]? = some (.cells #[.int .i64 L, .int .i64 S, .slice (some ⟨a, oa, none⟩) l.length ca] 55 (0, 0))) := Lib.hid ((hgrow.block w.heap.size (by simp; omega) (Ne.symm hap)).trans (blk_stay HKW.out))
        have hgs : w.heap.size + 2 ≤ w1.heap.size := by have := hgrow.size; simp at this; omega
        have HBN := Lib.hid (((hbel.out.alloc hbel.out.size (.cells #[.int .i64 (L - X + F)] 3)).drew).grown hgrow (by simp; omega) (fun j hj => by have := (HOW.out.lt j hj).1; omega))
        clear hown1 hgrow c0 c1 c2
        go_wp2
        go_roundw
        case rel =>
          refine ⟨k + 1, by omega, by go_num, by rw [HS.out, HX.out, iv_snoc]; exact HO1.out, HBN, HKN, Lib.hid hgs⟩
        case measure => simp [intOf]; omega
    · obtain rfl : k = l.length := by omega
      go_wp2
      go_ret
      exact ⟨_, rfl, own_mono hown (by omega), hbel.out⟩
set_option maxHeartbeats 1000000 in
theorem specGapsOf_c (L S : Int) (v : Value) (l : List Int) (w : World) (hr : Rd w v (intVs l)) (hn : l.length ≤ 1048576) :
    Calls Try.prog 44 #[.agg #[.int .i64 L, .int .i64 S, v]] w fun e w' => ∃ g, e = .returned (.tuple #[g, .bool (cirV L S l)]) ∧ w'.ownsRow w.heap.size 3 1 g (gpR L S l).length (intVs (gpR L S l)) ∧ Below w.heap.size w w' := by
  have HR := Lib.hid hr
  obtain ⟨a, ca, rfl⟩ := hr.isl
  clear hr
  have E0 := Lib.hid (fun W v h => l8Good_c L S v l W h hn)
  have HB := Lib.hid ((Below.refl w.heap.size w).alloc (Nat.le_refl _) (.cells #[.int .i64 L, .int .i64 S, .slice a l.length ca] 55))
  have HB0 := Lib.hid (blk_new3 w (.int .i64 L) (.int .i64 S) (.slice a l.length ca) 55)
  cases hk : cirV L S l with
  | false =>
    rw [hk] at E0
    have HN := Lib.hid (gp_no hk)
    clear hk
    go_enter Try.func44, Try.ntmps44
    go_wp2_with fail
    refine (E0.out _ _ (HR.out.below HB.out rfl)).mono ?_
    rintro e w1 ⟨rfl, b1⟩
    have HT := Lib.hid (HB.out.trans (b1.mono HB.out.size))
    clear b1
    go_wp2
    go_ret2
    exact ⟨_, rfl, by rw [HN.out]; exact World.ownsRow_made _ #[] 0 HT.out.size (by decide) rfl, HT.out.alloc HT.out.size _⟩
  | true =>
    rw [hk] at E0
    have HN := Lib.hid (gp_yes hk)
    have HKV := Lib.hid hk
    clear hk
    go_enter Try.func44, Try.ntmps44
    go_wp2_with fail
    refine (E0.out _ _ (HR.out.below HB.out rfl)).mono ?_
    rintro e w1 ⟨rfl, b1⟩
    have HT := Lib.hid (HB.out.trans (b1.mono HB.out.size))
    obtain ⟨c0, c1, c2⟩ := blk_cell3 (blk_keep HB0.out b1 (by simp))
    clear b1
    go_wp2_with fail
    refine (l8Gaps_c L S _ l _ (HR.out.below HT.out rfl) HKV.out).mono ?_
    rintro e w2 ⟨g, rfl, o2, b2⟩
    have HT2 := Lib.hid (HT.out.trans (b2.mono HT.out.size))
    have HO2 := Lib.hid (own_mono o2 HT.out.size)
    clear b2 o2
    go_wp2
    go_ret2
    exact ⟨_, rfl, by rw [HN.out, gapsL_len]; exact HO2.out, HT2.out⟩
end Go.Proofs.Ytmmjbdffpgohdaa
