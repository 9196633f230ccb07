/- PassesBy, the program's. Condition: sizes. -/
import Derived.Test.YtiioabmfonhlbaaCirD
import Derived.Test.YtiioabmfonhlbaaStillIn
import Derived.RangeFuncWrites
import Derived.Deep.DeepCutAuto
import Derived.Deep.RegionHeld3
namespace Go.Proofs.Ytiioabmfonhlbaa
open Go.RowKit Go.Shelf
set_option linter.unusedVariables false
attribute [local go_sem] Oper.semAt_some
set_option maxHeartbeats 1000000 in
theorem distancesTo_in (n : Nat) (L S : Int) (a : Option Addr) (m c : Nat) (p T : Int) (w : World) :
    CallsIn Fence.wide n Try.prog 77 #[.agg #[.int .i64 L, .int .i64 S, .slice a m c], .int .i64 p, .int .i64 T] w fun e w' => e = .returned (.func (.func 91) #[] #[.pointer (some ⟨w.heap.size, 0, none⟩), .pointer (some ⟨w.heap.size + 2, 0, none⟩), .pointer (some ⟨w.heap.size + 1, 0, none⟩)]) ∧ w' = ((w.alloc (.cells #[.int .i64 L, .int .i64 S, .slice a m c] 26)).alloc (.cells #[.int .i64 p] 3)).alloc (.cells #[.int .i64 T] 3) := by
  refine callsIn_of_wp Try.func77 rfl trivial ?_ rfl
  simp only [Try.ntmps77, List.size_toArray, List.length_cons, List.length_nil, Nat.reduceAdd, Nat.reduceSub, Array.replicate_succ, Array.replicate_zero, List.push_toArray, List.append_toArray, List.nil_append, List.cons_append]
  gi_wp2
  go_ret
  exact ⟨rfl, rfl⟩
theorem kpD_put {D : List Nat} (W : World) (b i : Nat) (v : Value) (hb : b ∈ D) : KpD D W (W.setCell ⟨b, i, none⟩ v).drew := by
  have h : KpD D W (W.setCell ⟨b, i, none⟩ v) := kpD_of_grown (b := b) (grown_put W ⟨b, i, none⟩ v) hb
  exact h
theorem own_blk {β : Type} (b : Nat) (f : β → Array Value) (t : TypeId) (fr : Nat × Nat) : Own (fun (x : β) (W : World) => W.heap[b]? = some (.cells (f x) t fr)) := fun x W W' row h hg hr => by
  have hl := blk_lt h
  refine (hg.block b hl (fun e => ?_)).trans h
  obtain ⟨o, ho, hc⟩ := hr b e.symm
  rw [h] at ho
  cases ho
  cases hc
/-- the passes of the distances that have come -/
def pbS (L X : Int) : List (Dst L) → Int
  | [] => 0
  | x :: r => (X - x.1.2 + 10 * L) / (10 * L) + pbS L X r
theorem pbS_snoc (L X : Int) (a : List (Dst L)) (x : Dst L) : pbS L X (a ++ [x]) = pbS L X a + (X - x.1.2 + 10 * L) / (10 * L) := by
  induction a with
  | nil => simp [pbS]
  | cons y r ih => simp only [List.cons_append, pbS, ih]; omega
theorem pass_step {L X d : Int} (hL : 10 ≤ L) (hX : 0 ≤ X) (hd : 0 ≤ d ∧ d < 10 * L) : (X - d + 10 * L) / (10 * L) = passOne (10 * L) X d := by
  unfold passOne
  by_cases h : d ≤ X
  · rw [if_pos h]
    have e : X - d + 10 * L = (X - d) + 10 * L * 1 := by omega
    rw [e, Int.add_mul_ediv_left _ _ (by omega)]
    omega
  · rw [if_neg h]
    exact Int.ediv_eq_zero_of_lt (by omega) (by omega)
theorem pbS_bd {L X : Int} (hL : 10 ≤ L) (hX : 0 ≤ X ∧ X ≤ 10000000) : ∀ a : List (Dst L), 0 ≤ pbS L X a ∧ pbS L X a ≤ 100001 * a.length
  | [] => by simp [pbS]
  | x :: r => by
    have h1 := pbS_bd hL hX r
    have h2 := pass_step hL hX.1 x.2.2
    have h3 := passOne_nonneg (t := 10 * L) (x := X) (w := x.1.2) (by omega)
    have h4 := passOne_le (t := 10 * L) (x := X) (w := x.1.2) (by omega) hX.1 x.2.2.1
    have h5 : 0 ≤ X / (10 * L) := Int.ediv_nonneg hX.1 (by omega)
    have h6 := ediv_lo (a := X) (show 0 < 10 * L by omega)
    have h7 : 100 * (X / (10 * L)) ≤ 10 * L * (X / (10 * L)) := Int.mul_le_mul_of_nonneg_right (by omega) h5
    have h8 : pbS L X (x :: r) = (X - x.1.2 + 10 * L) / (10 * L) + pbS L X r := rfl
    rw [h8, h2, List.length_cons]
    have h9 : ((r.length + 1 : Nat) : Int) = (r.length : Int) + 1 := by omega
    rw [h9]
    omega
theorem dIs_zero {L S : Int} {l : List Int} {p : Int} (hL : 10 ≤ L) {k : Nat} (hs : 0 ≤ l.getD k 0 ∧ l.getD k 0 ≤ L - 1) : dIs L S l p 0 k = wayOf L (l.getD k 0) p := by
  unfold dIs wayOf placeAt
  have e : (10 * l.getD k 0) % (10 * L) = 10 * l.getD k 0 := Int.emod_eq_of_lt (by omega) (by omega)
  rw [Int.mul_zero, Int.add_zero, e, show 10 * p - 10 * l.getD k 0 + 10 * L = 10 * (p - l.getD k 0) + 10 * L by omega]
theorem pbS_all {L S X : Int} {l : List Int} {p : Int} (hL : 10 ≤ L) (hX : 0 ≤ X) {hL0 : 0 < L} (hs : ∀ k, k < l.length → 0 ≤ l.getD k 0 ∧ l.getD k 0 ≤ L - 1) : ∀ n, n ≤ l.length → pbS L X (dstL L S l p 0 hL0 n) = passN (10 * L) X (wf8 L l p) n
  | 0, _ => rfl
  | n + 1, h => by
    have hw := wayOf_range (L := L) (s := l.getD n 0) (p := p) (by omega)
    have hd : (dstOf L S l p 0 hL0 n).1.2 = wayOf L (l.getD n 0) p := dIs_zero hL (hs n (by omega))
    rw [dstL_succ, pbS_snoc, pbS_all hL hX hs n (by omega), hd, pass_step hL hX hw]
    rfl
theorem three_b (w : World) (x y z : Value) (t : TypeId) : Below w.heap.size w (((w.alloc (.cells #[x] t)).alloc (.cells #[y] t)).alloc (.cells #[z] t)).drew :=
  ((((Below.refl w.heap.size w).alloc (Nat.le_refl _) _).alloc (by simp) _).alloc (by simp; omega) _).drew
theorem three_0 (w : World) (x y z : Value) (t : TypeId) : (((w.alloc (.cells #[x] t)).alloc (.cells #[y] t)).alloc (.cells #[z] t)).drew.heap[w.heap.size]? = some (.cells #[x] t (0, 0)) :=
  blk_stay (w := (w.alloc (.cells #[x] t)).alloc (.cells #[y] t)) (blk_stay (heap_alloc_new w (.cells #[x] t)))
theorem three_1 (w : World) (x y z : Value) (t : TypeId) : (((w.alloc (.cells #[x] t)).alloc (.cells #[y] t)).alloc (.cells #[z] t)).drew.heap[w.heap.size + 1]? = some (.cells #[y] t (0, 0)) := by
  have h := heap_alloc_new (w.alloc (.cells #[x] t)) (.cells #[y] t)
  rw [World.size_alloc] at h
  exact blk_stay (w := (w.alloc (.cells #[x] t)).alloc (.cells #[y] t)) h
theorem three_2 (w : World) (x y z : Value) (t : TypeId) : (((w.alloc (.cells #[x] t)).alloc (.cells #[y] t)).alloc (.cells #[z] t)).drew.heap[w.heap.size + 1 + 1]? = some (.cells #[z] t (0, 0)) := by
  have h := heap_alloc_new ((w.alloc (.cells #[x] t)).alloc (.cells #[y] t)) (.cells #[z] t)
  rw [World.size_alloc, World.size_alloc] at h
  exact h
set_option maxRecDepth 100000 in
set_option maxHeartbeats 4000000 in
theorem implPassesBy_yes (L S : Int) (v : Value) (l : List Int) (p T : Int) (w : World) (hr : Rd w v (intVs l)) (hn : l.length ≤ 1048576) (hok : cpOk L S l p T = true) (hV : cirV L S l = true) (hpb : 0 ≤ p ∧ p ≤ L - 1) (hTb : 0 ≤ T ∧ T ≤ 100000) :
    Calls Try.prog 38 #[.agg #[.int .i64 L, .int .i64 S, v], .int .i64 p, .int .i64 T] w fun e w' => e = .returned (.tuple #[.int .i64 (pbR L S l p T), .bool (cpOk L S l p T)]) ∧ Below w.heap.size w w' := by
  have E0 := Lib.hid (fun W v h => canPass_c L S v l p T W h hn)
  rw [hok] at E0
  have HR := Lib.hid hr
  obtain ⟨a, ca, rfl⟩ := hr.isl
  have HB := Lib.hid ((Below.refl w.heap.size w).alloc (Nat.le_refl _) (.cells #[.int .i64 L, .int .i64 S, .slice a l.length ca] 26))
  have HB0 := Lib.hid (blk_new3 w (.int .i64 L) (.int .i64 S) (.slice a l.length ca) 26)
  have HOK := Lib.hid hok
  have HVV := Lib.hid hV
  obtain ⟨hL, hS, hri, h12⟩ := cirV_parts hV
  have hST := way_bd hS hTb
  have q1 : IntKind.i64.wrap (S * T) = S * T := IntWalk.i64_in _ (by omega)
  have q2 : IntKind.i64.wrap (10 * L) = 10 * L := IntWalk.i64_in _ (by omega)
  clear hr hok hV hri
  refine (callsIn_wide (n := 4)).1 ?_
  refine callsIn_of_wp_marks Try.func38 rfl trivial ?_ rfl
  simp only [Try.ntmps38, List.size_toArray, List.length_cons, List.length_nil, Nat.reduceAdd, Nat.reduceSub, Array.replicate_succ, Array.replicate_zero, List.push_toArray, List.append_toArray, List.nil_append, List.cons_append]
  refine wpIn_wide.2 ?_
  go_wp2_with fail
  refine (E0.out _ _ (HR.out.below HB.out rfl)).mono ?_
  rintro e w1 ⟨rfl, b1⟩
  have HT := Lib.hid (HB.out.trans (b1.mono HB.out.size))
  have HK := Lib.hid (blk_keep HB0.out b1 (by simp))
  have hs1 : w.heap.size + 1 ≤ w1.heap.size := by have := b1.size; simpa using this
  clear b1
  obtain ⟨c0, c1, c2⟩ := blk_cell3 HK.out
  go_upto_region 3 with fail
  go_cut [8, 9, 10] from 18 to 24 (fun p8 p9 p10 wx => ∃ b8 b9 b10 : Nat, p8 = .pointer (some ⟨b8, 0, none⟩) ∧ p9 = .pointer (some ⟨b9, 0, none⟩) ∧ p10 = .pointer (some ⟨b10, 0, none⟩) ∧
    Hid ((w1.heap.size ≤ b8 ∧ w1.heap.size ≤ b9 ∧ w1.heap.size ≤ b10) ∧ (b8 ≠ b9 ∧ b8 ≠ b10 ∧ b9 ≠ b10) ∧ Below w1.heap.size w1 wx ∧ wx.heap[b8]? = some (.cells #[.int .i64 (S * T)] 3 (0, 0)) ∧ wx.heap[b9]? = some (.cells #[.int .i64 (10 * L)] 3 (0, 0)) ∧ wx.heap[b10]? = some (.cells #[.int .i64 0] 3 (0, 0))))
  case first =>
    have HKS : Hid (∀ W, Below w1.heap.size w1 W → W.cell? ⟨w.heap.size, 0, none⟩ = some (.int .i64 L) ∧ W.cell? ⟨w.heap.size, 1, none⟩ = some (.int .i64 S)) := Lib.hid (fun W hW => by
      obtain ⟨d0, d1, _⟩ := blk_cell3 (blk_keep HK.out hW (by omega))
      exact ⟨d0, d1⟩)
    go_region_held3 (fun w' => w'.cell? ⟨w.heap.size, 0, none⟩ = some (.int .i64 L) ∧ w'.cell? ⟨w.heap.size, 1, none⟩ = some (.int .i64 S))
      (exact HKS.out _ (by repeat (first | exact Below.refl _ _ | refine Below.drew ?_ | refine Below.alloc ?_ (by simp <;> omega) _))) (fail)
    all_goals (go_wp2_with fail)
    all_goals go_meet
    all_goals (case rel =>
      refine ⟨_, _, _, rfl, rfl, rfl, Lib.hid ⟨⟨by omega, by omega, by omega⟩, ⟨by omega, by omega, by omega⟩, three_b _ _ _ _ _, ?_, ?_, ?_⟩⟩ <;> first | exact three_0 _ _ _ _ _ | exact three_1 _ _ _ _ _ | exact three_2 _ _ _ _ _)
  case rest =>
    obtain ⟨b8, b9, b10, rfl, rfl, rfl, HC⟩ := hcut
    have K0 := Lib.hid (blk_keep HK.out HC.out.2.2.1 (by omega))
    obtain ⟨d0, d1, d2⟩ := blk_cell3 K0.out
    obtain ⟨⟨hb8, hb9, hb10⟩, ⟨hn1, hn2, hn3⟩, hwc, B8, B9, B10⟩ := HC.out
    have l8 := blk_lt B8
    have l9 := blk_lt B9
    have l10 := blk_lt B10
    have HBW := Lib.hid (HT.out.trans (hwc.mono HT.out.size))
    have HRW := Lib.hid (HR.out.below HBW.out rfl)
    have hsz := hwc.size
    have HBB := Lib.hid (And.intro B8 (And.intro B9 B10))
    clear HC B8 B9 B10 c0 c1 c2 hwc
    go_wp2_with fail
    refine (callsIn_wide.1 (distancesTo_in 4 L S a l.length ca p 0 wc)).mono ?_
    rintro e w3 ⟨rfl, rfl⟩
    have hb3 : Below wc.heap.size wc (((wc.alloc (.cells #[.int .i64 L, .int .i64 S, .slice a l.length ca] 26)).alloc (.cells #[.int .i64 p] 3)).alloc (.cells #[.int .i64 0] 3)) := (((Below.refl _ _).alloc (Nat.le_refl _) _).alloc (by simp) _).alloc (by simp; omega) _
    have hz3 : (((wc.alloc (.cells #[.int .i64 L, .int .i64 S, .slice a l.length ca] 26)).alloc (.cells #[.int .i64 p] 3)).alloc (.cells #[.int .i64 0] 3)).heap.size = wc.heap.size + 3 := by simp
    have hk0 := blk_stay (o' := .cells #[.int .i64 0] 3) (blk_stay (o' := .cells #[.int .i64 p] 3) (blk_new3 wc (.int .i64 L) (.int .i64 S) (.slice a l.length ca) 26))
    have hk1 := blk_stay (o' := .cells #[.int .i64 0] 3) (heap_alloc_new (wc.alloc (.cells #[.int .i64 L, .int .i64 S, .slice a l.length ca] 26)) (.cells #[.int .i64 p] 3))
    have hk2 := heap_alloc_new ((wc.alloc (.cells #[.int .i64 L, .int .i64 S, .slice a l.length ca] 26)).alloc (.cells #[.int .i64 p] 3)) (.cells #[.int .i64 0] 3)
    simp only [World.size_alloc] at hk1 hk2
    generalize hW3 : ((wc.alloc (.cells #[.int .i64 L, .int .i64 S, .slice a l.length ca] 26)).alloc (.cells #[.int .i64 p] 3)).alloc (.cells #[.int .i64 0] 3) = W3 at *
    clear hW3
    have hk1c := cell_of_row _ _ 0 _ _ _ hk1
    have hk2c := cell_of_row _ _ 0 _ _ _ hk2
    simp at hk1c hk2c
    have HDS := Lib.hid (dist_stops 3 (by omega) L S _ l p 0 wc.heap.size (wc.heap.size + 2) (wc.heap.size + 1) [b10] W3 (HRW.out.below hb3 rfl) HVV.out hpb (by omega) hk0 hk2c (by omega) hk1c (by omega) (fun k hk => by simp at hk; subst hk; omega) (by simp; omega) (by omega))
    have HB3 := Lib.hid (HBW.out.trans (hb3.mono HBW.out.size))
    have HBB3 := Lib.hid (And.intro (blk_keep HBB.out.1 hb3 l8) (And.intro (blk_keep HBB.out.2.1 hb3 l9) (blk_keep HBB.out.2.2 hb3 l10)))
    clear d0 d1 d2 hk0 hk1 hk2 hk1c hk2c hb3
    go_wp2_with fail
    have HST0 := Lib.hid hST
    have HRI := Lib.hid (fun (k : Nat) (h : k < l.length) => rise_at (cirV_parts HVV.out).2.2.1 h)
    refine (wpIn_wide (n := 4)).1 ?_
    refine wpIn_rangeFunc_ownG rfl (by omega) (gf := 91) (lb := #[.pointer (some ⟨wc.heap.size, 0, none⟩), .pointer (some ⟨wc.heap.size + 2, 0, none⟩), .pointer (some ⟨wc.heap.size + 1, 0, none⟩)]) rfl trivial (enters_of Try.func91 (by kernel_rfl) rfl)
      HDS.out (fun h g => kpD_t h g) (fun W l o o' _ hl ho _ => kpD_b W l o o' hl ho) (Below.refl _ _) (fun _ => rfl)
      (fun pre W => (W.heap[b10]? = some (.cells #[.int .i64 (pbS L (S * T) pre)] 3 (0, 0)) ∧ W.heap[b8]? = some (.cells #[.int .i64 (S * T)] 3 (0, 0)) ∧ W.heap[b9]? = some (.cells #[.int .i64 (10 * L)] 3 (0, 0))) ∧ Below w.heap.size w W)
      (fun _ _ _ => False)
      (OwnFrom.and (Own.from (fun s A B row hs hg hr => ⟨own_blk b10 (fun pre : List (Dst L) => #[.int .i64 (pbS L (S * T) pre)]) 3 (0, 0) s A B row hs.1 hg hr, own_blk b8 (fun pre : List (Dst L) => #[.int .i64 (S * T)]) 3 (0, 0) s A B row hs.2.1 hg hr, own_blk b9 (fun pre : List (Dst L) => #[.int .i64 (10 * L)]) 3 (0, 0) s A B row hs.2.2 hg hr⟩) _) (ownFrom_below (Nat.le_refl _) HB3.out.size))
      (fun _ _ _ _ _ hs _ _ => hs)
      ⟨⟨HBB3.out.2.2, HBB3.out.1, HBB3.out.2.1⟩, HB3.out⟩
      ?a1 ?assign ?body ?done ?stop
    case assign =>
      intro l0 x W K hK
      simp [encD]
      gi_wp2
      exact hK
    case body =>
      rintro l0 pre x W ⟨⟨g10, g8, g9⟩, hB⟩ hlt
      have j10 := cell_of_row _ _ 0 _ _ _ g10
      have j8 := cell_of_row _ _ 0 _ _ _ g8
      have j9 := cell_of_row _ _ 0 _ _ _ g9
      have m10 := frozen_of_row _ _ 0 _ _ g10
      simp at j10 j8 j9
      have hx := x.2
      have hbd := pbS_bd (L := L) (X := S * T) (by omega) HST0.out pre
      have hpl : pre.length ≤ 12 := by omega
      have hst := HST0.out
      have HSN := Lib.hid (pbS_snoc L (S * T) pre x)
      obtain ⟨Y, hY⟩ : ∃ Y, x.1.2 = Y := ⟨_, rfl⟩
      rw [hY] at hx HSN
      have HPS := Lib.hid (pass_step (L := L) (X := S * T) (d := Y) (by omega) hst.1 hx.2)
      have hpo := passOne_nonneg (t := 10 * L) (x := S * T) (w := Y) (by omega)
      have hpl2 := passOne_le (t := 10 * L) (x := S * T) (w := Y) (by omega) hst.1 hx.2.1
      have h5 : 0 ≤ S * T / (10 * L) := Int.ediv_nonneg hst.1 (by omega)
      have h6 := Int.ediv_le_self (10 * L) hst.1
      rw [HPS.out] at HSN
      have q3 : IntKind.i64.wrap (S * T - Y) = S * T - Y := IntWalk.i64_in _ (by omega)
      have q4 : IntKind.i64.wrap (S * T - Y + 10 * L) = S * T - Y + 10 * L := IntWalk.i64_in _ (by omega)
      have q5 : Int.tdiv (S * T - Y + 10 * L) (10 * L) = passOne (10 * L) (S * T) Y := by rw [← HPS.out]; exact Int.tdiv_eq_ediv_of_nonneg (by omega)
      have q6 : IntKind.i64.wrap (passOne (10 * L) (S * T) Y) = passOne (10 * L) (S * T) Y := IntWalk.i64_in _ (by omega)
      have q7 : ((10 * L) == 0) = false := by rw [beq_eq_false_iff_ne]; omega
      have q8 : ¬ (10 * L = 0) := by omega
      generalize passOne (10 * L) (S * T) Y = O at *
      generalize hN : pbS L (S * T) pre = N at *
      have q9 : IntKind.i64.wrap (N + O) = N + O := IntWalk.i64_in _ (by omega)
      clear hN
      simp only [hY]
      gi_wp2
      refine wpIn_region_still_tail 9 (by kernel_rfl) (by kernel_rfl) (by kernel_rfl) (fun ⟨_, _, h⟩ => h) ?_
      simp only [List.take_succ_cons, List.take_zero, List.drop_succ_cons, List.drop_zero]
      repeat still_step
      try refine wpStill_nil ?_
      change wpList _ _ _ _ _ W.drew
      go_wp2
      have G10 := blk_put (i := 0) (v := .int .i64 (N + O)) g10
      have G8 := (blk_by (w := W) (b := b10) (i := 0) (v := .int .i64 (N + O)) (Ne.symm hn2)).trans g8
      have G9 := (blk_by (w := W) (b := b10) (i := 0) (v := .int .i64 (N + O)) (Ne.symm hn3)).trans g9
      exact ⟨((KeepsOthers.setCell _ _ _).trans (KeepsOthers.drew _)).from _, kpD_put W b10 0 (.int .i64 (N + O)) (by simp), ⟨by rw [HSN.out]; exact G10, G8, G9⟩, (hB.setCell (p := ⟨b10, 0, none⟩) (by have := HT.out.size; show w.heap.size ≤ b10; omega) _).drew⟩
    case done =>
      rintro D ys W hD rfl ⟨⟨g10, g8, g9⟩, hB⟩ hK
      have HPV : Hid (pbS L (S * T) (dstL L S l p 0 (by omega) l.length) = pbR L S l p T) := Lib.hid (by rw [pb_yes HOK.out]; exact pbS_all (by omega) HST0.out.1 HRI.out l.length (Nat.le_refl _))
      rw [HPV.out] at g10
      have j10 := cell_of_row _ _ 0 _ _ _ g10
      simp at j10
      go_wp2
      refine ⟨by simp, .inl ⟨_, _, rfl, run_takeDeferred hK, ?_⟩⟩
      refine ⟨.tuple #[.int .i64 (pbR L S l p T), .bool true], ?_, by rw [HOK.out], hB.trans (belowK_b (w := w) (Nat.le_refl _) W D _ _ (by have := HB3.out.size; omega) hK rfl rfl)⟩
      simp [results, Try.f38, go_sem]
    case stop =>
      rintro D c pre W _ _ h _
      exact h.elim
set_option maxHeartbeats 1000000 in
theorem implPassesBy_c (L S : Int) (v : Value) (l : List Int) (p T : Int) (w : World) (hr : Rd w v (intVs l)) (hn : l.length ≤ 1048576) (hwp : (Lit.int .i64 p).wf = true) (hwT : (Lit.int .i64 T).wf = true) :
    Calls Try.prog 38 #[.agg #[.int .i64 L, .int .i64 S, v], .int .i64 p, .int .i64 T] w fun e w' => e = .returned (.tuple #[.int .i64 (pbR L S l p T), .bool (cpOk L S l p T)]) ∧ Below w.heap.size w w' := by
  cases hok : cpOk L S l p T with
  | true =>
    have h := hok
    unfold cpOk at h
    simp only [Bool.and_eq_true, inR_iff] at h
    rw [← hok]
    exact implPassesBy_yes L S v l p T w hr hn hok h.1 h.2.1 h.2.2
  | false =>
    have E0 := Lib.hid (fun W v h => canPass_c L S v l p T W h hn)
    rw [hok] at E0
    have HN := Lib.hid (pb_no hok)
    have HR := Lib.hid hr
    obtain ⟨a, ca, rfl⟩ := hr.isl
    have HB := Lib.hid ((Below.refl w.heap.size w).alloc (Nat.le_refl _) (.cells #[.int .i64 L, .int .i64 S, .slice a l.length ca] 26))
    clear hr hok
    go_enter Try.func38, Try.ntmps38
    go_wp2_with fail
    refine (E0.out _ _ (HR.out.below HB.out rfl)).mono ?_
    rintro e w1 ⟨rfl, b1⟩
    have HT := Lib.hid (HB.out.trans (b1.mono HB.out.size))
    clear b1
    go_wp2
    go_ret2
    exact ⟨ret_iv HN.out.symm rfl, HT.out⟩
end Go.Proofs.Ytiioabmfonhlbaa
