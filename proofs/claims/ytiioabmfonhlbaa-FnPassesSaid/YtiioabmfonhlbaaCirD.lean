/- The iterator over the cabins' distances to a place. Condition: sizes. -/
import Derived.RangeFuncBox
import Derived.RangeFuncLeaves
import Derived.Shelf.Abstract
import Derived.WalkKit
import Derived.WalkArith
import Derived.OwnWalkIn
import Derived.TacticsInMore
import Derived.LoopNIn
import Derived.LoopIn
import Derived.Maps.AppendAt
import Derived.Sort.BigQuietIn
import Derived.Test.YtiioabmfonhlbaaCirN
namespace Go.Proofs.Ytiioabmfonhlbaa
open Go.RowKit Go.Shelf
set_option linter.unusedVariables false
attribute [local go_sem] Oper.semAt_some
/-- whatever cells lie outside the blocks D lie as they lay -/
def KpD (D : List Nat) (W W' : World) : Prop := W.heap.size ≤ W'.heap.size ∧ ∀ (k : Nat) (o : Obj), k ∉ D → W.heap[k]? = some o → o.isCells = true → W'.heap[k]? = some o
theorem kpD_t {D : List Nat} {A B C : World} (h : KpD D A B) (g : KpD D B C) : KpD D A C := ⟨Nat.le_trans h.1 g.1, fun k o hk ho hc => g.2 k o hk (h.2 k o hk ho hc) hc⟩
theorem kpD_b {D : List Nat} (W : World) (l : Nat) (o o' : Obj) (hl : W.heap[l]? = some o) (ho : o.isCells = false) : KpD D W (W.putObj l o') :=
  ⟨by simp, fun k q hk hq hc => by
    have hne : k ≠ l := fun e => by
      subst e
      rw [hl] at hq
      cases hq
      rw [ho] at hc
      cases hc
    exact (World.putObj_heap_other hne).trans hq⟩
theorem kpD_of_grown {D : List Nat} {W W' : World} {b : Nat} (h : W.grownBy W' (some b)) (hb : b ∈ D) : KpD D W W' :=
  ⟨h.size, fun k o hk ho _ => by
    have hl := (Array.getElem?_eq_some_iff.1 ho).1
    exact (h.block k hl (fun e => hk (by cases e; exact hb))).trans ho⟩
/-- a number and a distance -/
abbrev Dst (L : Int) := { x : Nat × Int // x.1 ≤ 12 ∧ 0 ≤ x.2 ∧ x.2 < 10 * L }
def dIs (L S : Int) (l : List Int) (p T : Int) (k : Nat) : Int := (10 * p - placeAt L (l.getD k 0) (S * T) + 10 * L) % (10 * L)
theorem dIs_range {L S : Int} {l : List Int} {p T : Int} (hL : 0 < L) (k : Nat) : 0 ≤ dIs L S l p T k ∧ dIs L S l p T k < 10 * L := emod_range (by omega)
def dstOf (L S : Int) (l : List Int) (p T : Int) (hL : 0 < L) (k : Nat) : Dst L := ⟨(min k 12, dIs L S l p T k), by show min k 12 ≤ 12; omega, (dIs_range hL k).1, (dIs_range hL k).2⟩
def dstL (L S : Int) (l : List Int) (p T : Int) (hL : 0 < L) (k : Nat) : List (Dst L) := (List.range k).map (dstOf L S l p T hL)
theorem dstL_succ {L S : Int} {l : List Int} {p T : Int} {hL : 0 < L} (k : Nat) : dstL L S l p T hL (k + 1) = dstL L S l p T hL k ++ [dstOf L S l p T hL k] := by simp [dstL, List.range_succ]
theorem dstL_len {L S : Int} {l : List Int} {p T : Int} {hL : 0 < L} (k : Nat) : (dstL L S l p T hL k).length = k := by simp [dstL]
theorem dstL_pre {L S : Int} {l : List Int} {p T : Int} {hL : 0 < L} : ∀ (n k : Nat), k ≤ n → dstL L S l p T hL k <+: dstL L S l p T hL n
  | 0, k, h => by
    have : k = 0 := by omega
    subst this
    exact List.prefix_refl _
  | n + 1, k, h => by
    by_cases e : k = n + 1
    · subst e; exact List.prefix_refl _
    · rw [dstL_succ]
      exact (dstL_pre n k (by omega)).trans (List.prefix_append _ _)
def encD (L : Int) (x : Dst L) : Array Value := #[.int .i64 (x.1.1 : Int), .int .i64 x.1.2]
theorem abides_below {β : Type} {B : Nat} {J : β → World → Prop} (hJ : AbidesFrom B J) {s : β} {W W' : World} (h : J s W) (hb : Below W.heap.size W W') : J s W' :=
  hJ s W W' none h ⟨hb.os, hb.tape, hb.output, hb.size, fun k hk _ => hb.block k hk⟩ (fun r e => by cases e)
set_option maxHeartbeats 1000000 in
theorem canPass_c (L S : Int) (v : Value) (l : List Int) (p T : Int) (w : World) (hr : Rd w v (intVs l)) (hn : l.length ≤ 1048576) :
    Calls Try.prog 76 #[.agg #[.int .i64 L, .int .i64 S, v], .int .i64 p, .int .i64 T] w fun e w' => e = .returned (.bool (cpOk L S l p T)) ∧ Below w.heap.size w w' := by
  have E0 := Lib.hid (fun W v h => implIsCircle_c L S v l W h hn)
  have E1 := Lib.hid (fun W => within_c p 0 (L - 1) W)
  have E2 := Lib.hid (fun W => within_c T 0 100000 W)
  have HR := Lib.hid hr
  obtain ⟨a, ca, rfl⟩ := hr.isl
  have HB := Lib.hid ((Below.refl w.heap.size w).alloc (Nat.le_refl _) (.cells #[.int .i64 L, .int .i64 S, .slice a l.length ca] 26))
  have HB0 := Lib.hid (blk_new3 w (.int .i64 L) (.int .i64 S) (.slice a l.length ca) 26)
  have hd : cpOk L S l p T = (cirV L S l && (inR p 0 (L - 1) && inR T 0 100000)) := rfl
  clear hr
  cases hk : cirV L S l with
  | false =>
    rw [hk] at E0 hd
    have HD : Hid (cpOk L S l p T = false) := Lib.hid (by rw [hd]; rfl)
    clear hk hd E1 E2
    go_enter Try.func76, Try.ntmps76
    go_wp2_with fail
    refine (E0.out _ _ (HR.out.below HB.out rfl)).mono ?_
    rintro e w1 ⟨rfl, b1⟩
    have HT := Lib.hid (HB.out.trans (b1.mono HB.out.size))
    clear b1
    go_wp2
    go_ret
    exact ⟨ret_b HD.out.symm, HT.out⟩
  | true =>
    obtain ⟨hL, hS, hri, h12⟩ := cirV_parts hk
    have hw1 : IntKind.i64.wrap (L - 1) = L - 1 := IntWalk.i64_in _ (by omega)
    rw [hk] at E0 hd
    have HD : Hid (cpOk L S l p T = (inR p 0 (L - 1) && inR T 0 100000)) := Lib.hid (by rw [hd]; rfl)
    generalize inR p 0 (L - 1) = b1 at *
    generalize inR T 0 100000 = b2 at *
    clear hk hd hri
    go_enter Try.func76, Try.ntmps76
    go_wp2_with fail
    refine (E0.out _ _ (HR.out.below HB.out rfl)).mono ?_
    rintro e w1 ⟨rfl, b1⟩
    have HT := Lib.hid (HB.out.trans (b1.mono HB.out.size))
    obtain ⟨c0, c1, c2⟩ := blk_cell3 (blk_keep HB0.out b1 (by simp))
    clear b1
    go_wp2_with fail
    refine (E1.out _).mono ?_
    rintro e w2 ⟨rfl, rfl⟩
    cases b1 with
    | false =>
      go_wp2
      go_ret
      exact ⟨ret_b HD.out.symm, HT.out⟩
    | true =>
      go_wp2_with fail
      refine (E2.out _).mono ?_
      rintro e w3 ⟨rfl, rfl⟩
      go_wp2
      go_ret
      exact ⟨ret_b HD.out.symm, HT.out⟩
theorem cellD {W W' : World} {D : List Nat} (h : KpD D W W') {b i : Nat} {v : Value} (hb : b ∉ D) (hc : W.cell? ⟨b, i, none⟩ = some v) : W'.cell? ⟨b, i, none⟩ = some v := by
  obtain ⟨o, ho, hoc⟩ := cells_of_cell hc
  rw [World.cell?_of_block (w := W) (a := ⟨b, i, none⟩) ((h.2 b o hb ho hoc).trans ho.symm)]
  exact hc
set_option maxRecDepth 100000 in
set_option maxHeartbeats 2000000 in
theorem dist_stops (n : Nat) (hn : 1 ≤ n) (L S : Int) (v : Value) (l : List Int) (p T : Int) (P0 PT PP : Nat) (D : List Nat) (w : World) (hr : Rd w v (intVs l)) (hV : cirV L S l = true) (hpb : 0 ≤ p ∧ p ≤ L - 1) (hTb : 0 ≤ T ∧ T ≤ 100000)
    (h0 : w.heap[P0]? = some (.cells #[.int .i64 L, .int .i64 S, v] 26 (0, 0))) (h1 : w.cell? ⟨PT, 0, none⟩ = some (.int .i64 T)) (hPT : PT < w.heap.size) (h2 : w.cell? ⟨PP, 0, none⟩ = some (.int .i64 p)) (hPP : PP < w.heap.size) (hD : ∀ k ∈ D, k < w.heap.size) (hPD : PP ∉ D) (hL : 0 < L) :
    SeqStopsK Fence.wide n Try.prog 91 #[.pointer (some ⟨P0, 0, none⟩), .pointer (some ⟨PT, 0, none⟩), .pointer (some ⟨PP, 0, none⟩)] (encD L) (KpD D) (fun xs => xs = dstL L S l p T hL l.length) (fun pre => pre <+: dstL L S l p T hL l.length) l.length w := by
  intro l0 J Jx W hW hJ hJx hY hJ0
  obtain ⟨hL', hS, hri, h12⟩ := cirV_parts hV
  have h0l := blk_lt h0
  have E0 := Lib.hid (implPlacesAt_c L S T v l W (hr.below hW rfl) (by omega) (WalkArith.wf_i64 (by omega)))
  obtain ⟨c0, c1, c2⟩ := blk_cell3 (blk_keep h0 hW h0l)
  have t0 : W.cell? ⟨PT, 0, none⟩ = some (.int .i64 T) := (hW.cell (p := ⟨PT, 0, none⟩) hPT).trans h1
  have HPc : Hid (W.cell? ⟨PP, 0, none⟩ = some (.int .i64 p)) := Lib.hid ((hW.cell (p := ⟨PP, 0, none⟩) hPP).trans h2)
  have hPPW : PP < W.heap.size := Nat.lt_of_lt_of_le hPP hW.size
  have hok : plOk L S l T = true := by unfold plOk; rw [hV, (inR_iff T 0 100000).2 hTb]; rfl
  have HN := Lib.hid (pl_yes hok)
  rw [HN.out, hok, placesTo_len] at E0
  have hST := way_bd hS hTb
  have q2 : IntKind.i64.wrap (10 * L) = 10 * L := IntWalk.i64_in _ (by omega)
  have q3 : IntKind.i64.wrap (10 * p) = 10 * p := IntWalk.i64_in _ (by omega)
  have q7 : ((10 * L) == 0) = false := by rw [beq_eq_false_iff_ne]; omega
  have q8 : ¬ (10 * L = 0) := by omega
  have HDW : Hid (∀ g, W.heap.size ≤ g → g ∉ D) := Lib.hid (fun g hg hx => by have := hD g hx; have := hW.size; omega)
  clear hok hr hri h0 h1 h2
  refine callsIn_of_wp Try.func91 rfl trivial ?_ rfl
  simp only [Try.ntmps91, List.size_toArray, List.length_cons, List.length_nil, Nat.reduceAdd, Nat.reduceSub, Array.replicate_succ, Array.replicate_zero, List.push_toArray, List.append_toArray, List.nil_append, List.cons_append]
  gi_wp2_with fail
  refine ⟨trivial, ?_⟩
  refine (callsIn_wide.2 E0.out).mono ?_
  rintro e w1 ⟨g, rfl, o1, b1⟩
  have HJ1 := Lib.hid (abides_below hJ hJ0 b1)
  have HP1 : Hid (w1.cell? ⟨PP, 0, none⟩ = some (.int .i64 p)) := Lib.hid ((b1.cell (p := ⟨PP, 0, none⟩) hPPW).trans HPc.out)
  have c3 := (b1.cell (p := ⟨P0, 0, none⟩) (Nat.lt_of_lt_of_le h0l hW.size)).trans c0
  have HRow : Hid (∃ ao b off cap, g = .slice ao l.length cap ∧ (0 < l.length → ao = some ⟨b, off, none⟩ ∧ b ∉ D) ∧ IntAt w1 b off (placesTo L (S * T) l l.length)) := Lib.hid (by
    rcases own_form o1 with ⟨hz, rfl⟩ | ⟨gb, gc, rfl, hBg, hgw, hnc, hcm⟩
    · exact ⟨none, 0, 0, 0, by rw [hz], fun h => by omega, fun i hi => by rw [placesTo_len] at hi; omega⟩
    · exact ⟨_, gb, 0, gc, rfl, fun _ => ⟨rfl, HDW.out gb hBg⟩, fun i hi => own_cells8 o1 i hi⟩)
  clear o1 b1 c0 c1 c2 t0 E0
  obtain ⟨ao, b, off, cap, rfl, hao, hat⟩ := HRow.out
  have HA := Lib.hid hao
  clear HRow hao
  gi_wp2
  gi_loopw [21] (fun i wr => ∃ k : Nat, k ≤ l.length ∧ i = .int .i64 k ∧ J (dstL L S l p T hL k) wr ∧ Hid (IntAt wr b off (placesTo L (S * T) l l.length)) ∧ Hid (wr.cell? ⟨PP, 0, none⟩ = some (.int .i64 p)))
    (fun i _ => l.length - (intOf i).toNat)
  case atStart => exact ⟨0, Nat.zero_le _, rfl, HJ1.out, Lib.hid hat, HP1⟩
  case round =>
    obtain ⟨k, hk, rfl, hJk, HAT, HPW⟩ := hrel
    clear c3
    by_cases hlt : k < l.length
    · obtain ⟨rfl, hbD⟩ := HA.out (by omega)
      have e0 := HAT.out k (by rw [placesTo_len]; exact hlt)
      rw [placesTo_at hlt] at e0
      have r0 := placeAt_range (L := L) (s := l.getD k 0) (x := S * T) hL
      have HS := Lib.hid (dstL_succ (L := L) (S := S) (l := l) (p := p) (T := T) (hL := hL) k)
      have HE : Hid (encD L (dstOf L S l p T hL k) = #[.int .i64 (k : Int), .int .i64 (dIs L S l p T k)]) := Lib.hid (by
        show #[Value.int .i64 ((min k 12 : Nat) : Int), Value.int .i64 (dIs L S l p T k)] = _
        rw [show min k 12 = k by omega])
      have HDI : Hid (dIs L S l p T k = (10 * p - placeAt L (l.getD k 0) (S * T) + 10 * L) % (10 * L)) := Lib.hid rfl
      have hdr := dIs_range (L := L) (S := S) (l := l) (p := p) (T := T) hL k
      generalize placeAt L (l.getD k 0) (S * T) = X at *
      have q4 : IntKind.i64.wrap (10 * p - X) = 10 * p - X := IntWalk.i64_in _ (by omega)
      have q5 : IntKind.i64.wrap (10 * p - X + 10 * L) = 10 * p - X + 10 * L := IntWalk.i64_in _ (by omega)
      have q6 : Int.tmod (10 * p - X + 10 * L) (10 * L) = dIs L S l p T k := by rw [HDI.out, Int.tmod_eq_emod_of_nonneg (by omega)]
      have q9 : IntKind.i64.wrap (dIs L S l p T k) = dIs L S l p T k := IntWalk.i64_in _ (by omega)
      have c4 := HPW.out
      have hYk := hY (dstL L S l p T hL k) (dstOf L S l p T hL k) wr hJk (by rw [dstL_len]; exact hlt)
      rw [HE.out] at hYk
      have hkk : (k : Int) < (l.length : Int) := by omega
      generalize dIs L S l p T k = Y at *
      obtain ⟨fn, tmps, assign, body, hy, hR⟩ := hYk
      gi_wp2
      refine hR.mono ?_
      rintro e W3 (⟨rfl, hJ3, hk3⟩ | ⟨rfl, hJx3⟩)
      · have HAT3 : Hid (IntAt W3 b off (placesTo L (S * T) l l.length)) := Lib.hid (fun i hi => cellD hk3 hbD (HAT.out i hi))
        have HPW3 : Hid (W3.cell? ⟨PP, 0, none⟩ = some (.int .i64 p)) := Lib.hid (cellD hk3 hPD HPW.out)
        clear e0 c4
        gi_wp2
        go_roundw
        case rel => exact ⟨k + 1, by omega, by go_num, by rw [HS.out]; exact hJ3, HAT3, HPW3⟩
        case measure => simp [intOf]; omega
      · have HX := Lib.hid (And.intro (show dstL L S l p T hL k ++ [dstOf L S l p T hL k] <+: dstL L S l p T hL l.length by rw [← HS.out]; exact dstL_pre _ _ (by omega)) hJx3)
        gi_wp2
        refine bodyPost_ret (results_none rfl _ _ _) rfl ?_
        exact ⟨⟨_, rfl⟩, .inr ⟨_, HX.out.1, HX.out.2⟩⟩
    · obtain rfl : k = l.length := by omega
      gi_wp2
      go_end0
      exact ⟨⟨_, rfl⟩, .inl ⟨_, rfl, hJk⟩⟩
end Go.Proofs.Ytiioabmfonhlbaa
