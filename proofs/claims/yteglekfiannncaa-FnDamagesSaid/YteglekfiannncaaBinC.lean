/- slices.BinarySearchFunc at damages and compareDamages. Condition: sizes. -/
import Derived.Test.YteglekfiannncaaCloneC
namespace Go.Proofs.Yteglekfiannncaa
open Go.RowKit
set_option linter.unusedVariables false
theorem fnd_cmp (l : List Dmg) (d : Dmg) (h : posn l d < l.length) : (cmpD (gth l (posn l d)) d == 0) = fnd l d := by
  unfold fnd sameP
  rw [decide_eq_true h, Bool.true_and, Bool.eq_iff_iff, beq_iff_eq, cmpD_zero]
  simp
theorem ret_nb {a b : Int} {c d : Bool} (h : a = b) (g : c = d) : Ending.returned (.tuple #[.int .i64 a, .bool c]) = .returned (.tuple #[.int .i64 b, .bool d]) := by rw [h, g]
theorem half_eq (i j : Nat) (h : i < j) (hj : j ≤ 15) : ((i + j) / 2) < j ∧ i ≤ (i + j) / 2 := by omega
set_option maxRecDepth 100000 in
set_option maxHeartbeats 4000000 in
theorem binSearch_c (k : RK) (v : Value) (l : List Dmg) (d : Dmg) (w : World) (hr : Rs w v l.length (dmgs l)) (hg : Good k l) :
    Calls Try.prog 108 #[v, .agg #[.int .i64 d.a, .int .i64 d.s, .int .i64 d.w], .func (.func 109) #[] #[]] w fun e w' => e = .returned (.tuple #[.int .i64 (posn l d : Int), .bool (fnd l d)]) ∧ Below w.heap.size w w' := by
  obtain ⟨ao, a, oa, ca, rfl, hao, hat⟩ := hr.form_Dmg
  have HA := Lib.hid hao
  have HL := Lib.hid hat
  have HG := Lib.hid hg
  have h15 := hg.len
  have HBX := Lib.hid (box_Dmg w d 55 _ rfl)
  clear hr hao hat hg
  go_enter Try.func108, Try.ntmps108
  go_wp2
  have HT : Hid (Below w.heap.size w (w.alloc (.cells #[.int .i64 d.a, .int .i64 d.s, .int .i64 d.w] 55))) := Lib.hid ((Below.refl _ _).alloc (Nat.le_refl _) _)
  have hs0 : (w.alloc (.cells #[.int .i64 d.a, .int .i64 d.s, .int .i64 d.w] 55)).heap.size = w.heap.size + 1 := by simp
  generalize w.alloc (.cells #[.int .i64 d.a, .int .i64 d.s, .int .i64 d.w] 55) = W0 at *
  go_loopw [9, 10] (fun iv jv wr => ∃ i j : Nat, i ≤ j ∧ j ≤ l.length ∧ iv = .int .i64 (i : Int) ∧ jv = .int .i64 (j : Int) ∧ Hid (∀ t, t < i → bef (gth l t) d = true) ∧ Hid (∀ t, j ≤ t → t < l.length → bef (gth l t) d = false) ∧ Hid (Below (w.heap.size + 1) W0 wr)) (fun iv jv _ => (intOf jv).toNat - (intOf iv).toNat)
  case atStart => exact ⟨0, l.length, Nat.zero_le _, Nat.le_refl _, rfl, rfl, Lib.hid (fun t h => by omega), Lib.hid (fun t h1 h2 => by omega), Lib.hid (Below.refl _ _)⟩
  case round =>
    obtain ⟨i, j, hij, hjl, rfl, rfl, HI, HJ, hbl⟩ := hrel
    have hwr := hbl.out.size
    have HTr : Hid (Below w.heap.size w wr) := Lib.hid (HT.out.trans (hbl.out.mono (by omega)))
    obtain ⟨d0, d1, d2⟩ := HBX.out _ hbl.out
    by_cases hlt : i < j
    · obtain ⟨rfl, hla, hlm⟩ := HA.out (by omega)
      obtain ⟨h, hh⟩ : ∃ h, h = (i + j) / 2 := ⟨_, rfl⟩
      have e1 : IntKind.i64.wrap ((i : Int) + (j : Int)) = (i : Int) + (j : Int) := IntWalk.i64_in _ (by omega)
      go_wp2_with fail
      have hhj : h < j := by omega
      have hih : i ≤ h := by omega
      have hhl : h < l.length := by omega
      have hI : ((i : Int) + (j : Int)) / 2 = (h : Int) := by omega
      rw [hI]
      clear hI e1 hh
      obtain ⟨c0, c1, c2⟩ := (HL.out.below HTr.out hla) h hhl
      have HC := Lib.hid (compareDamages_c (gth l h) d)
      have HZ := Lib.hid (cmpD_neg (gth l h) d)
      have HUp : Hid (bef (gth l h) d = true → ∀ t, t < h + 1 → bef (gth l t) d = true) := Lib.hid (fun hb t ht => by
        by_cases e : t = h
        · subst e; exact hb
        · exact bef_trans (HG.out.bef t h (by omega) hhl) hb)
      have HDn : Hid (bef (gth l h) d = false → ∀ t, h ≤ t → t < l.length → bef (gth l t) d = false) := Lib.hid (fun hb t h1 h2 => by
        by_cases e : t = h
        · subst e; exact hb
        · cases hq : bef (gth l t) d with
          | false => rfl
          | true => rw [bef_trans (HG.out.bef h t (by omega) h2) hq] at hb; cases hb)
      generalize cmpD (gth l h) d = Z at *
      generalize bef (gth l h) d = BF at *
      generalize gth l h = E at *
      have D0' : ∀ x : Aft wr, x.w.cell? ⟨w.heap.size, 0, none⟩ = some (.int .i64 d.a) := fun x => x.cell d0
      have D1' : ∀ x : Aft wr, x.w.cell? ⟨w.heap.size, 1, none⟩ = some (.int .i64 d.s) := fun x => x.cell d1
      have D2' : ∀ x : Aft wr, x.w.cell? ⟨w.heap.size, 2, none⟩ = some (.int .i64 d.w) := fun x => x.cell d2
      have E0' : ∀ x : Aft wr, x.w.cell? ⟨a, oa + h * 3, none⟩ = some (.int .i64 E.a) := fun x => x.cell c0
      have E1' : ∀ x : Aft wr, x.w.cell? ⟨a, oa + h * 3 + 1, none⟩ = some (.int .i64 E.s) := fun x => x.cell c1
      have E2' : ∀ x : Aft wr, x.w.cell? ⟨a, oa + h * 3 + 2, none⟩ = some (.int .i64 E.w) := fun x => x.cell c2
      clear c0 c1 c2 d0 d1 d2
      have hb0 : (0 : Int) ≤ (h : Int) := by omega
      have hb1 : (h : Int) < (l.length : Int) := by omega
      cases BF with
      | true =>
        have t1 : decide (Z < 0) = true := by have := HZ.out; simp at this ⊢; omega
        refine wp_region_aft (w0 := wr) (by kernel_rfl) (by kernel_rfl) (Below.refl _ _) ?_
        repeat (go_big_quiet_step ((go_at_call 109; exact aft_of (HC.out _))))
        refine wpQuiet_nil ?_
        rintro _ ⟨x, rfl⟩
        go_wp2
        go_roundw
        case rel => exact ⟨h + 1, j, by omega, hjl, by go_num, rfl, Lib.hid (HUp.out (by simp)), HJ, Lib.hid (hbl.out.trans (x.below.mono (by omega)))⟩
        case measure => simp [intOf]; omega
      | false =>
        have t1 : decide (Z < 0) = false := by have := HZ.out; simp at this ⊢; omega
        refine wp_region_aft (w0 := wr) (by kernel_rfl) (by kernel_rfl) (Below.refl _ _) ?_
        repeat (go_big_quiet_step ((go_at_call 109; exact aft_of (HC.out _))))
        refine wpQuiet_nil ?_
        rintro _ ⟨x, rfl⟩
        go_wp2
        go_roundw
        case rel => exact ⟨i, h, hih, by omega, rfl, rfl, HI, Lib.hid (HDn.out (by simp)), Lib.hid (hbl.out.trans (x.below.mono (by omega)))⟩
        case measure => simp [intOf]; omega
    · obtain rfl : i = j := by omega
      have HP : Hid (posn l d = i) := Lib.hid (posn_eq hjl HI.out (fun h => HJ.out i (Nat.le_refl _) h))
      by_cases hil : i < l.length
      · obtain ⟨rfl, hla, hlm⟩ := HA.out (by omega)
        obtain ⟨c0, c1, c2⟩ := (HL.out.below HTr.out hla) i hil
        have HC := Lib.hid (compareDamages_c (gth l i) d)
        have HF : Hid ((cmpD (gth l i) d == 0) = fnd l d) := Lib.hid (by have := fnd_cmp l d (by rw [HP.out]; exact hil); rw [HP.out] at this; exact this)
        generalize cmpD (gth l i) d = Z at *
        generalize gth l i = E at *
        have D0' : ∀ x : Aft wr, x.w.cell? ⟨w.heap.size, 0, none⟩ = some (.int .i64 d.a) := fun x => x.cell d0
        have D1' : ∀ x : Aft wr, x.w.cell? ⟨w.heap.size, 1, none⟩ = some (.int .i64 d.s) := fun x => x.cell d1
        have D2' : ∀ x : Aft wr, x.w.cell? ⟨w.heap.size, 2, none⟩ = some (.int .i64 d.w) := fun x => x.cell d2
        have E0' : ∀ x : Aft wr, x.w.cell? ⟨a, oa + i * 3, none⟩ = some (.int .i64 E.a) := fun x => x.cell c0
        have E1' : ∀ x : Aft wr, x.w.cell? ⟨a, oa + i * 3 + 1, none⟩ = some (.int .i64 E.s) := fun x => x.cell c1
        have E2' : ∀ x : Aft wr, x.w.cell? ⟨a, oa + i * 3 + 2, none⟩ = some (.int .i64 E.w) := fun x => x.cell c2
        clear c0 c1 c2 d0 d1 d2
        have hb0 : (0 : Int) ≤ (i : Int) := by omega
        have hb1 : (i : Int) < (l.length : Int) := by omega
        have t1 : decide ((i : Int) < (l.length : Int)) = true := by simpa using hil
        go_wp2_with fail
        refine wp_region_aft (w0 := wr) (by kernel_rfl) (by kernel_rfl) (Below.refl _ _) ?_
        repeat (go_big_quiet_step ((go_at_call 109; exact aft_of (HC.out _))))
        refine wpQuiet_nil ?_
        rintro _ ⟨x, rfl⟩
        go_wp2
        go_ret2
        exact ⟨ret_nb (by rw [HP.out]) HF.out, HTr.out.trans (x.below.mono HTr.out.size)⟩
      · have HF : Hid (fnd l d = false) := Lib.hid (by unfold fnd; rw [HP.out, decide_eq_false hil]; rfl)
        have t1 : decide ((i : Int) < (l.length : Int)) = false := by simpa using hil
        go_wp2_with fail
        refine wp_region_aft (w0 := wr) (by kernel_rfl) (by kernel_rfl) (Below.refl _ _) ?_
        repeat (go_big_quiet_step (fail))
        refine wpQuiet_nil ?_
        rintro _ ⟨x, rfl⟩
        go_wp2
        go_ret2
        exact ⟨ret_nb (by rw [HP.out]) HF.out.symm, HTr.out.trans (x.below.mono HTr.out.size)⟩
end Go.Proofs.Yteglekfiannncaa
