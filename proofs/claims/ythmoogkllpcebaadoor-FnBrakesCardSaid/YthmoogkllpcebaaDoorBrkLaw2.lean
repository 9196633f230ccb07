/- What FnBrakes asks: fewer brakes are slower; the fewest ones as a drive of their own; the speeds of a stop. Condition: sizes. -/
import Derived.Test.YthmoogkllpcebaaDoorBrkLaw
namespace Go.Proofs.YthmoogkllpcebaaDoor
open Go.RowKit
set_option linter.unusedVariables false
set_option maxHeartbeats 400000 in
theorem vInts10_same (va vb : Value) (l : List Int) (w : World) (ha : Rd w va (intVs l)) (hb : Rd w vb (intVs l)) :
    Calls Tryd.prog 17 #[va, vb] w fun e w' => e = .returned (.bool true) ∧ Drew w w' := by
  by_cases h0 : l = []
  · subst h0
    obtain ⟨a, ca, rfl⟩ := ha.iv0
    obtain ⟨b, cb, rfl⟩ := hb.iv0
    clear ha hb
    go_enter Tryd.func17, Tryd.ntmps17
    go_wp2
    refine wp_loop_rounds 1 ?_
    rw [rounds_succ]
    go_wp2
    go_ret
    exact ⟨rfl, Drew.refl _⟩
  · obtain ⟨a, oa, ca, rfl, hla, hm, hca⟩ := ha.iv h0
    obtain ⟨b, ob, cb, rfl, hlb, _, hcb⟩ := hb.iv h0
    unfold maxLen at hm
    have HA := Lib.hid hca
    have HB := Lib.hid hcb
    clear hca hcb ha hb
    go_enter Tryd.func17, Tryd.ntmps17
    go_wp2
    go_loopw [5] (fun i wr => ∃ k m : Nat, k ≤ l.length ∧ i = .int .i64 k ∧ wr = w.drewN m) (fun i _ => l.length - (intOf i).toNat)
    case atStart => exact ⟨0, 0, Nat.zero_le _, rfl, rfl⟩
    case round =>
      obtain ⟨k, m, hk, rfl, rfl⟩ := hrel
      by_cases hlt : k < l.length
      · have c1 : w.cell? ⟨a, oa + k, none⟩ = some (.int .i64 (l.getD k 0)) := HA.out k hlt
        have c2 : w.cell? ⟨b, ob + k, none⟩ = some (.int .i64 (l.getD k 0)) := HB.out k hlt
        generalize l.getD k 0 = x at c1 c2
        go_wp2
        go_quiet (fail)
        go_wp2
        go_roundw
        case rel => exact ⟨k + 1, m + nq, by omega, by go_num, rfl⟩
        case measure => simp [intOf]; omega
      · go_wp2
        go_ret
        exact ⟨rfl, m, rfl⟩
theorem vInts10_c (va vb : Value) (l : List Int) (w : World) (ha : Rd w va (intVs l)) (hb : Rd w vb (intVs l)) :
    Calls Tryd.prog 17 #[va, vb] w fun e w' => e = .returned (.bool true) ∧ Below w.heap.size w w' := (vInts10_same va vb l w ha hb).mono fun _ _ h => ⟨h.1, h.2.below _⟩
/-- The brakes of a set, as a list of their own. -/
def subB (l : List Brk) (s : Nat) : List Brk := (mem10 s).map (fun i => gth l i)
theorem subB_len (l : List Brk) (s : Nat) : (subB l s).length = (mem10 s).length := by simp [subB]
theorem gth_sub (l : List Brk) {s j : Nat} (h : j < (mem10 s).length) : gth (subB l s) j = gth l ((mem10 s).getD j 0) := by
  unfold subB
  rw [gth_map h]
  congr 1
theorem hold_sub (l : List Brk) (s : Nat) (u : Nat → Bool) (k : Int) : ∀ j, j ≤ (mem10 s).length → (∀ i, i < j → u i = true) → hold (subB l s) u k j = holdL l k ((mem10 s).take j)
  | 0, _, _ => by simp [hold, holdL]
  | j + 1, hj, hu => by
    have ih := hold_sub l s u k j (by omega) (fun i hi => hu i (by omega))
    rw [holdL_take l k (mem10 s) j (by omega)]
    simp only [hold, ih, hu j (by omega), Bool.true_and, gth_sub l (show j < (mem10 s).length by omega)]
    congr 1
    by_cases h : (gth l ((mem10 s).getD j 0)).d ≤ k
    · rw [if_pos h, if_pos (by simpa using h)]
    · rw [if_neg h, if_neg (by simpa using h)]
theorem frS_sub {S : Int} {l : List Brk} {s : Nat} (hl : l.length ≤ 4) (hs : s < 2 ^ l.length) : frS S (subB l s) (full10 (subB l s).length) = frS S l s := by
  funext k
  rw [frS_mem hl hs]
  unfold frS frc
  rw [hold_sub l s _ (k : Int) (subB l s).length (by rw [subB_len]; exact Nat.le_refl _) (fun i hi => full10_bit _ _ hi)]
  rw [subB_len, List.take_length]
theorem sub_ok {L S : Int} {l : List Brk} {s : Nat} (h : drvOk L S l = true) (hs : s < 2 ^ l.length) : drvOk L S (subB l s) = true := by
  obtain ⟨a, b, h4, hg⟩ := (drvOk_iff _ _ _).1 h
  refine (drvOk_iff _ _ _).2 ⟨a, b, ?_, fun i hi => ?_⟩
  · rw [subB_len]; exact mem10_len s (set_lt16 h4 hs)
  · rw [subB_len] at hi
    rw [gth_sub l hi]
    exact hg _ (mem10_lt h4 hs hi)
theorem sub_same {L S : Int} {l : List Brk} {x : Int} {s : Nat} (h : ask10 L S l x = true) (hs : s < 2 ^ l.length) : sw10 L S (subB l s) x (full10 (subB l s).length) = sw10 L S l x s ∧ wy10 L S (subB l s) x (full10 (subB l s).length) = wy10 L S l x s := by
  obtain ⟨h1, h2⟩ := (ask10_iff _ _ _ _).1 h
  have h4 := ((drvOk_iff _ _ _).1 h1).2.2.1
  have ha : ask10 L S (subB l s) x = true := (ask10_iff _ _ _ _).2 ⟨sub_ok h1 hs, h2⟩
  have hf := frS_sub (S := S) h4 hs
  have e1 : stp10 L S (subB l s) x (full10 (subB l s).length) = stp10 L S l x s := by unfold stp10; rw [hf]
  have e2 : way10 L S (subB l s) x (full10 (subB l s).length) = way10 L S l x s := by unfold way10; rw [hf]
  have e3 : sw10 L S (subB l s) x (full10 (subB l s).length) = sw10 L S l x s := by unfold sw10; rw [ha, h, e1]
  refine ⟨e3, ?_⟩
  unfold wy10
  rw [e3, e2]
/-- More brakes: it stops, and on no longer a way. -/
theorem more_stop {L S : Int} {l : List Brk} {x : Int} {s t : Nat} (h : ask10 L S l x = true) (hst : ∀ i, i < l.length → s.testBit i = true → t.testBit i = true) (g : sw10 L S l x s = true) : sw10 L S l x t = true ∧ wy10 L S l x t ≤ wy10 L S l x s := by
  obtain ⟨h1, h2⟩ := (ask10_iff _ _ _ _).1 h
  obtain ⟨hm, _, hg⟩ := (drvOk_iff _ _ _).1 h1
  have hfr : ∀ k, frS S l t k ≤ frS S l s k := fun k => by
    have := hold_more hg (u := fun i => s.testBit i) (v := fun i => t.testBit i) hst (k : Int) l.length (Nat.le_refl _)
    unfold frS frc
    omega
  have g2 : stp10 L S l x s = true := by unfold sw10 at g; rw [h] at g; simpa using g
  have hz : spK L (frS S l s) x 60 = 0 := by simpa [stp10] using g2
  have a := spK_more (m := L) hm.1 (v := x) (u := x) ⟨h2.1, Int.le_refl _⟩ hfr 60
  have b := spK_nonneg (m := L) (fr := frS S l t) h2.1 60
  have g3 : stp10 L S l x t = true := by unfold stp10; rw [decide_eq_true_iff]; omega
  have c := wyK_more (m := L) hm.1 (v := x) (u := x) ⟨h2.1, Int.le_refl _⟩ hfr 60
  obtain ⟨p1, _, p3⟩ := sw10_yes h g3
  obtain ⟨_, _, q3⟩ := sw10_yes h g2
  refine ⟨p1, ?_⟩
  rw [p3, q3]
  exact c
theorem sw_ask {L S : Int} {l : List Brk} {x : Int} {s : Nat} (g : sw10 L S l x s = true) : ask10 L S l x = true := by unfold sw10 at g; simp at g; exact g.1
theorem more_full {L S : Int} {l : List Brk} {x : Int} {s : Nat} (g : sw10 L S l x s = true) : sw10 L S l x (full10 l.length) = true ∧ wy10 L S l x (full10 l.length) ≤ wy10 L S l x s :=
  more_stop (sw_ask g) (fun i hi _ => full10_bit _ _ hi) g
theorem fb_keeps {L S : Int} {l : List Brk} {x y : Int} (h : fbOk L S l x y = true) : fbR L S l x y = memI (fbS L S l x y) ∧ fbS L S l x y < 2 ^ l.length ∧ l.length ≤ 4 ∧
    sw10 L S (subB l (fbS L S l x y)) x (full10 (subB l (fbS L S l x y)).length) = true ∧ wy10 L S (subB l (fbS L S l x y)) x (full10 (subB l (fbS L S l x y)).length) ≤ y ∧
    sw10 L S l x (full10 l.length) = true ∧ wy10 L S l x (full10 l.length) ≤ wy10 L S (subB l (fbS L S l x y)) x (full10 (subB l (fbS L S l x y)).length) := by
  have h2 := h
  unfold fbOk at h2
  rw [Bool.and_eq_true, Bool.and_eq_true] at h2
  obtain ⟨⟨hd, h0⟩, hb⟩ := h2
  obtain ⟨b1, b2⟩ := bst_good hb
  have hs : fbS L S l x y < 2 ^ l.length := by
    have := full_lt l.length
    unfold fbS
    omega
  have hf : fbF L S l x y (fbS L S l x y) = true := b2
  unfold fbF at hf
  rw [Bool.and_eq_true, decide_eq_true_iff] at hf
  obtain ⟨f1, f2⟩ := hf
  have ha := sw_ask f1
  obtain ⟨e1, e2⟩ := sub_same ha hs
  obtain ⟨m1, m2⟩ := more_full f1
  have hw := sw10_way f1
  refine ⟨by simp [fbR, h], hs, ask_len ha, by rw [e1]; exact f1, by rw [e2, hw]; exact f2, m1, by rw [e2]; exact m2⟩
theorem ww_keeps {L S : Int} {l : List Brk} {x b : Int} (h : wwOk L S l x b = true) : sw10 L S l x (full10 l.length) = true ∧ wy10 L S l x (full10 l.length) ≤ wwV L S l x b := by
  have h2 := h
  unfold wwOk at h2
  rw [Bool.and_eq_true] at h2
  obtain ⟨m1, m2⟩ := more_full h2.2
  refine ⟨m1, ?_⟩
  rw [(ww_in (x := x) h2.1).1]
  exact m2
theorem bs_keeps {L S : Int} {l : List Brk} {x : Int} {s : Nat} (h : sw10 L S l x s = true) : 1 ≤ (spR10 L S l x s).length ∧ (spR10 L S l x s).getD 0 0 = x ∧ (spR10 L S l x s).getD ((spR10 L S l x s).length - 1) 0 = 0 := by
  have ha := sw_ask h
  have g : stp10 L S l x s = true := by unfold sw10 at h; rw [ha] at h; simpa using h
  obtain ⟨h1, h2⟩ := (ask10_iff _ _ _ _).1 ha
  rw [(sw10_yes ha g).2.1, spL_len]
  refine ⟨by omega, ?_, ?_⟩
  · rw [spL_get (Nat.zero_le _)]; rfl
  · rw [Nat.add_sub_cancel, spL_get (Nat.le_refl _)]
    have hz : spK L (frS S l s) x 60 = 0 := by simpa [stp10] using g
    exact (rdK_stop h2.1).2 hz
end Go.Proofs.YthmoogkllpcebaaDoor
