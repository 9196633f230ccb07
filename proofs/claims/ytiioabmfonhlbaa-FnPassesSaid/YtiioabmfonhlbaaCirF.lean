/- NextPass, the program's. Condition: sizes. -/
import Derived.Test.YtiioabmfonhlbaaCirE
namespace Go.Proofs.Ytiioabmfonhlbaa
open Go.RowKit Go.Shelf
set_option linter.unusedVariables false
attribute [local go_sem] Oper.semAt_some
theorem kpD_put0 {D : List Nat} (W : World) (b i : Nat) (v : Value) (hb : b ∈ D) : KpD D W (W.setCell ⟨b, i, none⟩ v) := by
  have h : KpD D W (W.setCell ⟨b, i, none⟩ v) := kpD_of_grown (b := b) (grown_put W ⟨b, i, none⟩ v) hb
  exact h
/-- the nearest of those that have come -/
def nxt (L : Int) (a : List (Dst L)) : Int × Int := a.foldl (fun s x => if x.1.2 < s.2 then ((x.1.1 : Int), x.1.2) else s) (0, 10 * L)
theorem nxt_snoc (L : Int) (a : List (Dst L)) (x : Dst L) : nxt L (a ++ [x]) = if x.1.2 < (nxt L a).2 then ((x.1.1 : Int), x.1.2) else nxt L a := by
  unfold nxt
  rw [List.foldl_append]
  rfl
theorem nxt_all {L S : Int} {l : List Int} {p T : Int} {hL : 0 < L} (h12 : l.length ≤ 12) : 0 < l.length → nxt L (dstL L S l p T hL l.length) = ((amin (dIs L S l p T) (l.length - 1) : Int), dIs L S l p T (amin (dIs L S l p T) (l.length - 1))) := by
  have key : ∀ n, n + 1 ≤ 12 → nxt L (dstL L S l p T hL (n + 1)) = ((amin (dIs L S l p T) n : Int), dIs L S l p T (amin (dIs L S l p T) n)) := by
    intro n
    induction n with
    | zero =>
      intro _
      have hr := dIs_range (L := L) (S := S) (l := l) (p := p) (T := T) hL 0
      rw [dstL_succ, nxt_snoc]
      have e : nxt L (dstL L S l p T hL 0) = (0, 10 * L) := rfl
      have e2 : (dstOf L S l p T hL 0).1.2 = dIs L S l p T 0 := rfl
      rw [e, e2, if_pos hr.2]
      rfl
    | succ n ih =>
      intro h
      rw [dstL_succ, nxt_snoc, ih (by omega)]
      have e2 : (dstOf L S l p T hL (n + 1)).1.2 = dIs L S l p T (n + 1) := rfl
      have e1 : (dstOf L S l p T hL (n + 1)).1.1 = n + 1 := by show min (n + 1) 12 = n + 1; omega
      rw [e1, e2]
      simp only [amin]
      split <;> rfl
  intro h0
  have := key (l.length - 1) (by omega)
  rwa [show l.length - 1 + 1 = l.length by omega] at this
theorem nf8_eq {L S : Int} {l : List Int} {p T : Int} (hL : 0 < L) (hx : 0 ≤ S * T) {k : Nat} : nf8 L S l p T k = S * T + dIs L S l p T k := by
  have hw := wayOf_range (L := L) (s := l.getD k 0) (p := p) hL
  have hd := dIs_range (L := L) (S := S) (l := l) (p := p) (T := T) hL k
  have e1 : wayOf L (l.getD k 0) p = (10 * (p - l.getD k 0) + 10 * L) % (10 * L) := rfl
  have e2 : dIs L S l p T k = (10 * p - placeAt L (l.getD k 0) (S * T) + 10 * L) % (10 * L) := rfl
  have e3 : placeAt L (l.getD k 0) (S * T) = (10 * l.getD k 0 + S * T) % (10 * L) := rfl
  have f1 := Int.emod_add_mul_ediv (10 * (p - l.getD k 0) + 10 * L) (10 * L)
  have f3 := Int.emod_add_mul_ediv (10 * l.getD k 0 + S * T) (10 * L)
  have f2 := Int.emod_add_mul_ediv (10 * p - placeAt L (l.getD k 0) (S * T) + 10 * L) (10 * L)
  rw [← e1] at f1
  rw [← e2] at f2
  rw [← e3] at f3
  unfold nf8
  generalize wayOf L (l.getD k 0) p = w at *
  generalize dIs L S l p T k = d at *
  generalize placeAt L (l.getD k 0) (S * T) = P at *
  generalize l.getD k 0 = s at *
  generalize S * T = x at *
  generalize (10 * (p - s) + 10 * L) / (10 * L) = A at *
  generalize (10 * s + x) / (10 * L) = B at *
  generalize (10 * p - P + 10 * L) / (10 * L) = C at *
  clear e1 e2 e3
  have hq : x + d = w + 10 * L * (A + B - C) := by
    rw [Int.mul_sub, Int.mul_add]
    omega
  by_cases h : w < x
  · exact nextW_is (q := A + B - C) (by omega) h hq (by omega) (by omega)
  · have e : nextW (10 * L) x w = w := by unfold nextW; rw [if_neg h]
    rw [e]
    generalize A + B - C = q at *
    have h1 : 10 * L * q < 10 * L * 1 := by rw [Int.mul_one]; omega
    have h2 : 10 * L * (-1) < 10 * L * q := by rw [Int.mul_neg, Int.mul_one]; omega
    have h3 := Int.lt_of_mul_lt_mul_left h1 (by omega)
    have h4 := Int.lt_of_mul_lt_mul_left h2 (by omega)
    have h5 : q = 0 := by omega
    rw [h5, Int.mul_zero] at hq
    omega
theorem amin_shift {f g : Nat → Int} {c : Int} (h : ∀ k, f k = c + g k) : ∀ n, amin f n = amin g n
  | 0 => rfl
  | n + 1 => by
    simp only [amin, amin_shift h n, h]
    by_cases e : g (n + 1) < g (amin g n)
    · rw [if_pos e, if_pos (by omega)]
    · rw [if_neg e, if_neg (by omega)]
theorem nf8_amin {L S : Int} {l : List Int} {p T : Int} (hL : 0 < L) (hx : 0 ≤ S * T) (n : Nat) : amin (nf8 L S l p T) n = amin (dIs L S l p T) n := amin_shift (fun k => nf8_eq hL hx) n
theorem sec_shift {S T d : Int} (hS : 0 < S) : secOf S (S * T + d) = T + (d + S - 1) / S := by
  unfold secOf
  rw [show S * T + d + S - 1 = (d + S - 1) + S * T by omega, Int.add_mul_ediv_left _ _ (by omega)]
  omega
theorem two_b (w : World) (x y : Value) (t : TypeId) : Below w.heap.size w ((w.alloc (.cells #[x] t)).alloc (.cells #[y] t)).drew :=
  (((Below.refl w.heap.size w).alloc (Nat.le_refl _) _).alloc (by simp) _).drew
theorem two_0 (w : World) (x y : Value) (t : TypeId) : ((w.alloc (.cells #[x] t)).alloc (.cells #[y] t)).drew.heap[w.heap.size]? = some (.cells #[x] t (0, 0)) :=
  blk_stay (w := w.alloc (.cells #[x] t)) (heap_alloc_new w (.cells #[x] t))
theorem two_1 (w : World) (x y : Value) (t : TypeId) : ((w.alloc (.cells #[x] t)).alloc (.cells #[y] t)).drew.heap[w.heap.size + 1]? = some (.cells #[y] t (0, 0)) := by
  have h := heap_alloc_new (w.alloc (.cells #[x] t)) (.cells #[y] t)
  rw [World.size_alloc] at h
  exact h
set_option maxRecDepth 100000 in
set_option maxHeartbeats 4000000 in
theorem implNextPass_yes (L S : Int) (v : Value) (l : List Int) (p T : Int) (w : World) (hr : Rd w v (intVs l)) (hn : l.length ≤ 1048576) (hok : cpOk L S l p T = true) (hV : cirV L S l = true) (hpb : 0 ≤ p ∧ p ≤ L - 1) (hTb : 0 ≤ T ∧ T ≤ 100000) (h0 : 0 < l.length) :
    Calls Try.prog 36 #[.agg #[.int .i64 L, .int .i64 S, v], .int .i64 p, .int .i64 T] w fun e w' => e = .returned (.tuple #[.int .i64 (npI L S l p T), .int .i64 (npS L S l p T), .bool (npOk L S l p T)]) ∧ Below w.heap.size w w' := by
  have E0 := Lib.hid (fun W v h => canPass_c L S v l p T W h hn)
  rw [hok] at E0
  have HR := Lib.hid hr
  obtain ⟨a, ca, rfl⟩ := hr.isl
  have HB := Lib.hid ((Below.refl w.heap.size w).alloc (Nat.le_refl _) (.cells #[.int .i64 L, .int .i64 S, .slice a l.length ca] 26))
  have HB0 := Lib.hid (blk_new3 w (.int .i64 L) (.int .i64 S) (.slice a l.length ca) 26)
  have HOK := Lib.hid hok
  have HVV := Lib.hid hV
  obtain ⟨hL, hS, hri, h12⟩ := cirV_parts hV
  have hST := way_bd hS hTb
  have q1 : IntKind.i64.wrap (S * T) = S * T := IntWalk.i64_in _ (by omega)
  have q2 : IntKind.i64.wrap (10 * L) = 10 * L := IntWalk.i64_in _ (by omega)
  clear hr hok hV hri
  refine (callsIn_wide (n := 4)).1 ?_
  refine callsIn_of_wp_marks Try.func36 rfl trivial ?_ rfl
  simp only [Try.ntmps36, List.size_toArray, List.length_cons, List.length_nil, Nat.reduceAdd, Nat.reduceSub, Array.replicate_succ, Array.replicate_zero, List.push_toArray, List.append_toArray, List.nil_append, List.cons_append]
  refine wpIn_wide.2 ?_
  go_wp2_with fail
  refine (E0.out _ _ (HR.out.below HB.out rfl)).mono ?_
  rintro e w1 ⟨rfl, b1⟩
  have HT := Lib.hid (HB.out.trans (b1.mono HB.out.size))
  have HK := Lib.hid (blk_keep HB0.out b1 (by simp))
  have hs1 : w.heap.size + 1 ≤ w1.heap.size := by have := b1.size; simpa using this
  clear b1
  obtain ⟨c0, c1, c2⟩ := blk_cell3 HK.out
  have t1 : ((l.length : Int) == 0) = false := by rw [beq_eq_false_iff_ne]; omega
  have t2 : (l.length == 0) = false := by rw [beq_eq_false_iff_ne]; omega
  go_upto_region 3 with fail
  clear t1 t2
  go_cut [9, 10] from 24 to 26 (fun p9 p10 wx => ∃ b9 b10 : Nat, p9 = .pointer (some ⟨b9, 0, none⟩) ∧ p10 = .pointer (some ⟨b10, 0, none⟩) ∧
    Hid ((w1.heap.size ≤ b9 ∧ w1.heap.size ≤ b10) ∧ b9 ≠ b10 ∧ Below w1.heap.size w1 wx ∧ wx.heap[b9]? = some (.cells #[.int .i64 0] 3 (0, 0)) ∧ wx.heap[b10]? = some (.cells #[.int .i64 (10 * L)] 3 (0, 0))))
  case first =>
    have HKS : Hid (∀ W, Below w1.heap.size w1 W → W.cell? ⟨w.heap.size, 0, none⟩ = some (.int .i64 L)) := Lib.hid (fun W hW => by
      obtain ⟨d0, d1, _⟩ := blk_cell3 (blk_keep HK.out hW (by omega))
      exact d0)
    go_region_held3 (fun w' => w'.cell? ⟨w.heap.size, 0, none⟩ = some (.int .i64 L))
      (exact HKS.out _ (by repeat (first | exact Below.refl _ _ | refine Below.drew ?_ | refine Below.alloc ?_ (by simp <;> omega) _))) (fail)
    all_goals (go_wp2_with fail)
    all_goals go_meet
    all_goals (case rel =>
      refine ⟨_, _, rfl, rfl, Lib.hid ⟨⟨by omega, by omega⟩, by omega, two_b _ _ _ _, ?_, ?_⟩⟩ <;> first | exact two_0 _ _ _ _ | exact two_1 _ _ _ _)
  case rest =>
    obtain ⟨b9, b10, rfl, rfl, HC⟩ := hcut
    have K0 := Lib.hid (blk_keep HK.out HC.out.2.2.1 (by omega))
    obtain ⟨d0, d1, d2⟩ := blk_cell3 K0.out
    obtain ⟨⟨hb9, hb10⟩, hn3, hwc, B9, B10⟩ := HC.out
    have l9 := blk_lt B9
    have l10 := blk_lt B10
    have HBW := Lib.hid (HT.out.trans (hwc.mono HT.out.size))
    have HRW := Lib.hid (HR.out.below HBW.out rfl)
    have hsz := hwc.size
    have HBB := Lib.hid (And.intro B9 B10)
    clear HC B9 B10 c0 c1 c2 hwc
    go_wp2_with fail
    refine (callsIn_wide.1 (distancesTo_in 4 L S a l.length ca p T wc)).mono ?_
    rintro e w3 ⟨rfl, rfl⟩
    have hb3 : Below wc.heap.size wc (((wc.alloc (.cells #[.int .i64 L, .int .i64 S, .slice a l.length ca] 26)).alloc (.cells #[.int .i64 p] 3)).alloc (.cells #[.int .i64 T] 3)) := (((Below.refl _ _).alloc (Nat.le_refl _) _).alloc (by simp) _).alloc (by simp; omega) _
    have hz3 : (((wc.alloc (.cells #[.int .i64 L, .int .i64 S, .slice a l.length ca] 26)).alloc (.cells #[.int .i64 p] 3)).alloc (.cells #[.int .i64 T] 3)).heap.size = wc.heap.size + 3 := by simp
    have hk0 := blk_stay (o' := .cells #[.int .i64 T] 3) (blk_stay (o' := .cells #[.int .i64 p] 3) (blk_new3 wc (.int .i64 L) (.int .i64 S) (.slice a l.length ca) 26))
    have hk1 := blk_stay (o' := .cells #[.int .i64 T] 3) (heap_alloc_new (wc.alloc (.cells #[.int .i64 L, .int .i64 S, .slice a l.length ca] 26)) (.cells #[.int .i64 p] 3))
    have hk2 := heap_alloc_new ((wc.alloc (.cells #[.int .i64 L, .int .i64 S, .slice a l.length ca] 26)).alloc (.cells #[.int .i64 p] 3)) (.cells #[.int .i64 T] 3)
    simp only [World.size_alloc] at hk1 hk2
    generalize hW3 : ((wc.alloc (.cells #[.int .i64 L, .int .i64 S, .slice a l.length ca] 26)).alloc (.cells #[.int .i64 p] 3)).alloc (.cells #[.int .i64 T] 3) = W3 at *
    clear hW3
    have hk1c := cell_of_row _ _ 0 _ _ _ hk1
    have hk2c := cell_of_row _ _ 0 _ _ _ hk2
    simp at hk1c hk2c
    have HDS := Lib.hid (dist_stops 3 (by omega) L S _ l p T wc.heap.size (wc.heap.size + 2) (wc.heap.size + 1) [b9, b10] W3 (HRW.out.below hb3 rfl) HVV.out hpb hTb hk0 hk2c (by omega) hk1c (by omega) (fun k hk => by simp at hk; rcases hk with rfl | rfl <;> omega) (by simp; omega) (by omega))
    have HB3 := Lib.hid (HBW.out.trans (hb3.mono HBW.out.size))
    have HBB3 := Lib.hid (And.intro (blk_keep HBB.out.1 hb3 l9) (And.intro (blk_keep HBB.out.2 hb3 l10) (blk_keep K0.out hb3 (by omega))))
    clear d0 d1 d2 hk0 hk1 hk2 hk1c hk2c hb3
    go_wp2_with fail
    have HST0 := Lib.hid hST
    have HRI := Lib.hid (fun (k : Nat) (h : k < l.length) => rise_at (cirV_parts HVV.out).2.2.1 h)
    refine (wpIn_wide (n := 4)).1 ?_
    refine wpIn_rangeFunc_ownG rfl (by omega) (gf := 91) (lb := #[.pointer (some ⟨wc.heap.size, 0, none⟩), .pointer (some ⟨wc.heap.size + 2, 0, none⟩), .pointer (some ⟨wc.heap.size + 1, 0, none⟩)]) rfl trivial (enters_of Try.func91 (by kernel_rfl) rfl)
      HDS.out (fun h g => kpD_t h g) (fun W l o o' _ hl ho _ => kpD_b W l o o' hl ho) (Below.refl _ _) (fun _ => rfl)
      (fun pre W => (W.heap[b9]? = some (.cells #[.int .i64 (nxt L pre).1] 3 (0, 0)) ∧ W.heap[b10]? = some (.cells #[.int .i64 (nxt L pre).2] 3 (0, 0)) ∧ W.heap[w.heap.size]? = some (.cells #[.int .i64 L, .int .i64 S, .slice a l.length ca] 26 (0, 0))) ∧ Below w.heap.size w W)
      (fun _ _ _ => False)
      (OwnFrom.and (Own.from (fun s A B row hs hg hr => ⟨own_blk b9 (fun pre : List (Dst L) => #[.int .i64 (nxt L pre).1]) 3 (0, 0) s A B row hs.1 hg hr, own_blk b10 (fun pre : List (Dst L) => #[.int .i64 (nxt L pre).2]) 3 (0, 0) s A B row hs.2.1 hg hr, own_blk w.heap.size (fun pre : List (Dst L) => #[.int .i64 L, .int .i64 S, .slice a l.length ca]) 26 (0, 0) s A B row hs.2.2 hg hr⟩) _) (ownFrom_below (Nat.le_refl _) HB3.out.size))
      (fun _ _ _ _ _ hs _ _ => hs)
      ⟨⟨HBB3.out.1, HBB3.out.2.1, HBB3.out.2.2⟩, HB3.out⟩
      ?a1 ?assign ?body ?done ?stop
    case assign =>
      intro l0 x W K hK
      simp [encD]
      gi_wp2
      exact hK
    case body =>
      rintro l0 pre x W ⟨⟨g9, g10, g0⟩, hB⟩ hlt
      have j10 := cell_of_row _ _ 0 _ _ _ g10
      have j9 := cell_of_row _ _ 0 _ _ _ g9
      have m10 := frozen_of_row _ _ 0 _ _ g10
      have m9 := frozen_of_row _ _ 0 _ _ g9
      simp at j10 j9
      have hx := x.2
      have HSN := Lib.hid (nxt_snoc L pre x)
      obtain ⟨Y, hY⟩ : ∃ Y, x.1.2 = Y := ⟨_, rfl⟩
      obtain ⟨X, hX⟩ : ∃ X, x.1.1 = X := ⟨_, rfl⟩
      rw [hY, hX] at HSN
      rw [hY, hX] at hx
      generalize hN1 : (nxt L pre).1 = N1 at *
      generalize hN2 : (nxt L pre).2 = N2 at *
      have hN : nxt L pre = (N1, N2) := by rw [← hN1, ← hN2]
      rw [hN] at HSN
      clear hN1 hN2 hN
      simp only [hY, hX]
      by_cases hlt2 : Y < N2
      · have HS2 : Hid (nxt L (pre ++ [x]) = ((X : Int), Y)) := Lib.hid (by rw [HSN.out]; simp [hlt2])
        have t1 : decide (Y < N2) = true := by simpa using hlt2
        clear hlt2
        gi_wp2
        have G9 := (blk_by (w := W.setCell ⟨b9, 0, none⟩ (.int .i64 (X : Int))) (b := b10) (i := 0) (v := .int .i64 Y) (Ne.symm hn3)).trans (blk_put (i := 0) (v := .int .i64 (X : Int)) g9)
        have G10 := blk_put (i := 0) (v := .int .i64 Y) ((blk_by (w := W) (b := b9) (i := 0) (v := .int .i64 (X : Int)) hn3).trans g10)
        have G0 := (blk_by (w := W.setCell ⟨b9, 0, none⟩ (.int .i64 (X : Int))) (b := b10) (i := 0) (v := .int .i64 Y) (by omega)).trans ((blk_by (w := W) (b := b9) (i := 0) (v := .int .i64 (X : Int)) (by omega)).trans g0)
        exact ⟨((KeepsOthers.setCell _ _ _).trans (KeepsOthers.setCell _ _ _)).from _, kpD_t (kpD_put0 W b9 0 (.int .i64 (X : Int)) (by simp)) (kpD_put0 _ b10 0 (.int .i64 Y) (by simp)), ⟨by rw [HS2.out]; exact G9, by rw [HS2.out]; exact G10, G0⟩, (hB.setCell (p := ⟨b9, 0, none⟩) (by have := HT.out.size; show w.heap.size ≤ b9; omega) _).setCell (p := ⟨b10, 0, none⟩) (by have := HT.out.size; show w.heap.size ≤ b10; omega) _⟩
      · have HS2 : Hid (nxt L (pre ++ [x]) = (N1, N2)) := Lib.hid (by rw [HSN.out]; simp [hlt2])
        have t1 : decide (Y < N2) = false := by simpa using hlt2
        clear hlt2
        gi_wp2
        exact ⟨(KeepsOthers.refl _).from _, ⟨Nat.le_refl _, fun _ _ _ h _ => h⟩, ⟨by rw [HS2.out]; exact g9, by rw [HS2.out]; exact g10, g0⟩, hB⟩
    case done =>
      rintro D ys W hD rfl ⟨⟨g9, g10, g0⟩, hB⟩ hK
      have HNX := Lib.hid (nxt_all (L := L) (S := S) (l := l) (p := p) (T := T) (hL := show 0 < L by omega) h12 h0)
      rw [HNX.out] at g9 g10
      have HD2 : Hid (npOk L S l p T = true) := Lib.hid (by unfold npOk; rw [HOK.out]; simp; exact h0)
      have HY := Lib.hid (np_yes HD2.out)
      have HAE := Lib.hid (nf8_amin (L := L) (S := S) (l := l) (p := p) (T := T) (by omega) HST0.out.1 (l.length - 1))
      have hdr := dIs_range (L := L) (S := S) (l := l) (p := p) (T := T) (by omega) (amin (dIs L S l p T) (l.length - 1))
      have HSV : Hid (npS L S l p T = T + (dIs L S l p T (amin (dIs L S l p T) (l.length - 1)) + S - 1) / S) := Lib.hid (by
        rw [HY.out.2, HAE.out, nf8_eq (by omega) HST0.out.1, sec_shift (by omega)])
      have HIV : Hid (npI L S l p T = (amin (dIs L S l p T) (l.length - 1) : Int)) := Lib.hid (by rw [HY.out.1, HAE.out])
      have hst := HST0.out
      generalize dIs L S l p T (amin (dIs L S l p T) (l.length - 1)) = V at *
      generalize amin (dIs L S l p T) (l.length - 1) = B at *
      have j10 := cell_of_row _ _ 0 _ _ _ g10
      have j9 := cell_of_row _ _ 0 _ _ _ g9
      obtain ⟨k0, k1, k2⟩ := blk_cell3 g0
      simp at j10 j9
      have q3 : IntKind.i64.wrap (V + S) = V + S := IntWalk.i64_in _ (by omega)
      have q4 : IntKind.i64.wrap (V + S - 1) = V + S - 1 := IntWalk.i64_in _ (by omega)
      have q5 : Int.tdiv (V + S - 1) S = (V + S - 1) / S := Int.tdiv_eq_ediv_of_nonneg (by omega)
      have hdv := Int.ediv_nonneg (show 0 ≤ V + S - 1 by omega) (show 0 ≤ S by omega)
      have hdv2 := Int.ediv_le_self S (show 0 ≤ V + S - 1 by omega)
      have q6 : (S == 0) = false := by rw [beq_eq_false_iff_ne]; omega
      have q9 : ¬ (S = 0) := by omega
      generalize (V + S - 1) / S = Q at *
      have q10 : IntKind.i64.wrap Q = Q := IntWalk.i64_in _ (by omega)
      have q11 : IntKind.i64.wrap (T + Q) = T + Q := IntWalk.i64_in _ (by omega)
      go_wp2
      go_quiet (fail)
      go_wp2
      refine ⟨by simp, .inl ⟨_, _, rfl, run_takeDeferred (by exact hK), ?_⟩⟩
      refine ⟨.tuple #[.int .i64 B, .int .i64 (T + Q), .bool true], ?_, by rw [HD2.out, HSV.out, HIV.out], (below_drewN hB nq).trans (belowK_b (w := w) (Nat.le_refl _) _ D _ _ (by have := HB3.out.size; omega) hK rfl rfl)⟩
      simp [results, Try.f36, go_sem]
    case stop =>
      rintro D c pre W _ _ h _
      exact h.elim
set_option maxHeartbeats 1000000 in
theorem implNextPass_c (L S : Int) (v : Value) (l : List Int) (p T : Int) (w : World) (hr : Rd w v (intVs l)) (hn : l.length ≤ 1048576) (hwp : (Lit.int .i64 p).wf = true) (hwT : (Lit.int .i64 T).wf = true) :
    Calls Try.prog 36 #[.agg #[.int .i64 L, .int .i64 S, v], .int .i64 p, .int .i64 T] w fun e w' => e = .returned (.tuple #[.int .i64 (npI L S l p T), .int .i64 (npS L S l p T), .bool (npOk L S l p T)]) ∧ Below w.heap.size w w' := by
  cases hok : cpOk L S l p T with
  | true =>
    have h := hok
    unfold cpOk at h
    simp only [Bool.and_eq_true, inR_iff] at h
    by_cases h0 : 0 < l.length
    · exact implNextPass_yes L S v l p T w hr hn hok h.1 h.2.1 h.2.2 h0
    · have E0 := Lib.hid (fun W v h => canPass_c L S v l p T W h hn)
      rw [hok] at E0
      have HD2 : Hid (npOk L S l p T = false) := Lib.hid (by unfold npOk; rw [hok, decide_eq_false h0]; rfl)
      have HN := Lib.hid (np_no HD2.out)
      have HR := Lib.hid hr
      have t1 : ((l.length : Int) == 0) = true := by rw [beq_iff_eq]; omega
      have t2 : (l.length == 0) = true := by rw [beq_iff_eq]; omega
      obtain ⟨a, ca, rfl⟩ := hr.isl
      have HB := Lib.hid ((Below.refl w.heap.size w).alloc (Nat.le_refl _) (.cells #[.int .i64 L, .int .i64 S, .slice a l.length ca] 26))
      have HB0 := Lib.hid (blk_new3 w (.int .i64 L) (.int .i64 S) (.slice a l.length ca) 26)
      clear hr hok h
      go_enter Try.func36, Try.ntmps36
      go_wp2_with fail
      refine (E0.out _ _ (HR.out.below HB.out rfl)).mono ?_
      rintro e w1 ⟨rfl, b1⟩
      have HT := Lib.hid (HB.out.trans (b1.mono HB.out.size))
      obtain ⟨c0, c1, c2⟩ := blk_cell3 (blk_keep HB0.out b1 (by simp))
      clear b1
      go_wp2
      go_ret3
      exact ⟨ret_iib8 HN.out.1.symm HN.out.2.symm HD2.out.symm, HT.out⟩
  | false =>
    have E0 := Lib.hid (fun W v h => canPass_c L S v l p T W h hn)
    rw [hok] at E0
    have HD2 : Hid (npOk L S l p T = false) := Lib.hid (by unfold npOk; rw [hok]; rfl)
    have HN := Lib.hid (np_no HD2.out)
    have HR := Lib.hid hr
    obtain ⟨a, ca, rfl⟩ := hr.isl
    have HB := Lib.hid ((Below.refl w.heap.size w).alloc (Nat.le_refl _) (.cells #[.int .i64 L, .int .i64 S, .slice a l.length ca] 26))
    clear hr hok
    go_enter Try.func36, Try.ntmps36
    go_wp2_with fail
    refine (E0.out _ _ (HR.out.below HB.out rfl)).mono ?_
    rintro e w1 ⟨rfl, b1⟩
    have HT := Lib.hid (HB.out.trans (b1.mono HB.out.size))
    clear b1
    go_wp2
    go_ret3
    exact ⟨ret_iib8 HN.out.1.symm HN.out.2.symm HD2.out.symm, HT.out⟩
end Go.Proofs.Ytiioabmfonhlbaa
