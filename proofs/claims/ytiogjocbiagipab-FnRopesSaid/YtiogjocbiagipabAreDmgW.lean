/- The walk of impl.AreDamages; the program's and the specification's answer as one function. Condition: sizes. -/
import Derived.Test.YtiogjocbiagipabGoodW
import Derived.Test.YtiogjocbiagipabCmpW
import Derived.Test.YtiogjocbiagipabAft
namespace Go.Proofs.Ytiogjocbiagipab
open Go.RowKit
set_option linter.unusedVariables false
set_option maxRecDepth 100000 in
set_option maxHeartbeats 4000000 in
theorem AreDamages_b (k : RK) (v : Value) (l : List Dmg) (b : Bool) (w : World) (hr : Rs w v l.length (dmgs l)) (hn : l.length ≤ 1048576) (hb : b = true ↔ Good k l) :
    Calls Try.prog 52 #[.agg #[.int .i64 k.i, .int .i64 k.s, .int .i64 k.w, .int .i64 k.g, .int .i64 k.p], v] w fun e w' => e = .returned (.bool b) ∧ Below w.heap.size w w' := by
  have HB := Lib.hid hb
  clear hb
  obtain ⟨ao, a, oa, ca, rfl, hao, hat⟩ := hr.form_Dmg
  have HA := Lib.hid hao
  have HL := Lib.hid hat
  have HK := Lib.hid (box_k w k 25)
  clear hr hao hat
  cases hk : isK k with
  | false =>
    have E0 := Lib.hid (fun W => implIsRopeKind_c k W)
    rw [hk] at E0
    have HN : Hid (¬ Good k l) := Lib.hid (fun g => by have := g.kind; rw [hk] at this; cases this)
    clear hk
    go_enter Try.func52, Try.ntmps52
    go_wp2_with fail
    refine (E0.out _).mono ?_
    rintro e w1 ⟨rfl, b1⟩
    go_wp2
    go_ret
    exact ⟨ret_b (b_no HB HN.out), ((Below.refl _ _).alloc (Nat.le_refl _) _).trans (b1.mono (by simp))⟩
  | true =>
    have E0 := Lib.hid (fun W => implIsRopeKind_c k W)
    rw [hk] at E0
    have hkk := hk
    clear hk
    have HSw := Lib.hid (isK_strands hkk)
    have HKk := Lib.hid hkk
    clear hkk
    by_cases h15 : l.length ≤ 15
    · go_enter Try.func52, Try.ntmps52
      go_wp2_with fail
      generalize hw1 : w.alloc (.cells #[.int .i64 k.i, .int .i64 k.s, .int .i64 k.w, .int .i64 k.g, .int .i64 k.p] 25) = w1 at *
      have hsz1 : w1.heap.size = w.heap.size + 1 := by rw [← hw1]; simp
      have HW1 : Hid (Below w.heap.size w w1) := Lib.hid (by rw [← hw1]; exact (Below.refl _ _).alloc (Nat.le_refl _) _)
      clear hw1
      refine (E0.out _).mono ?_
      rintro e w2 ⟨rfl, b2⟩
      have HB2 : Hid (Below (w.heap.size + 1) w1 w2) := Lib.hid (by rw [← hsz1]; exact b2)
      clear b2
      go_wp2
      go_loopw [17] (fun i wr => ∃ j : Nat, j ≤ l.length ∧ i = .int .i64 j ∧ Hid (Below (w.heap.size + 1) w1 wr) ∧ Hid (∀ i, i < j → DOk (k.s - 1) k.w l i)) (fun i _ => l.length - (intOf i).toNat)
      case atStart => exact ⟨0, Nat.zero_le _, rfl, HB2, Lib.hid (fun i hi => by omega)⟩
      case round =>
        obtain ⟨j, hj, rfl, hbl, HO⟩ := hrel
        have hszr := hbl.out.size
        have HE : Hid (∀ W, Below wr.heap.size wr W → Below w.heap.size w W) := Lib.hid (fun W h => HW1.out.trans ((hbl.out.trans (h.mono (by omega))).mono (by omega)))
        by_cases hlt : j < l.length
        · obtain ⟨rfl, hla, hlm⟩ := HA.out (by omega)
          obtain ⟨c0, c1, c2⟩ := (HL.out.below (HE.out _ (Below.refl _ _)) hla) j hlt
          obtain ⟨k0, k1, k2, k3, k4⟩ := HK.out _ hbl.out
          have hlaw : a < wr.heap.size := by omega
          have hbw : w.heap.size < wr.heap.size := by omega
          have HD := Lib.hid (isDamage_c k (gth l j) (k.s - 1) HSw.out)
          have HN : Hid (¬ DOk (k.s - 1) k.w l j → ¬ Good k l) := Lib.hid (fun h g => h (g.ok j hlt))
          have HO1 : Hid ((inR (gth l j).a 0 3000 && inR (gth l j).s 0 (k.s - 1) && inR (gth l j).w 1 k.w) = true → (0 < j → bef (gth l (j - 1)) (gth l j) = true) → ∀ i, i < j + 1 → DOk (k.s - 1) k.w l i) := Lib.hid (fun h1 h4 i hi => by
            by_cases e : i = j
            · subst e
              simp only [Bool.and_eq_true] at h1
              exact ⟨h1.1.1, h1.1.2, h1.2, h4⟩
            · exact HO.out i (by omega))
          have HN1 : Hid ((inR (gth l j).a 0 3000 && inR (gth l j).s 0 (k.s - 1) && inR (gth l j).w 1 k.w) = false → ¬ Good k l) := Lib.hid (fun h => HN.out (fun ⟨d1, d2, d3, _⟩ => by rw [d1, d2, d3] at h; cases h))
          have HX : Hid ((0 < j → bef (gth l (j - 1)) (gth l j) = false → ¬ Good k l)) := Lib.hid (fun h0 h1 => HN.out (fun ⟨_, _, _, d4⟩ => by rw [d4 h0] at h1; cases h1))
          have hb0 := Lib.hid (fun hp : 0 < j => (HL.out.below (HE.out _ (Below.refl _ _)) hla) (j - 1) (by omega))
          have HC := Lib.hid (compareDamages_c (gth l (j - 1)) (gth l j))
          have HZ := Lib.hid (cmpD_neg (gth l (j - 1)) (gth l j))
          generalize (inR (gth l j).a 0 3000 && inR (gth l j).s 0 (k.s - 1) && inR (gth l j).w 1 k.w) = D1 at *
          generalize cmpD (gth l (j - 1)) (gth l j) = Z at *
          generalize bef (gth l (j - 1)) (gth l j) = BF at *
          generalize gth l j = D at *
          generalize gth l (j - 1) = E at *
          have HBd := Lib.hid (box_d wr D 34 wr.heap.size rfl)
          cases D1 with
          | false =>
            go_wp2_with fail
            generalize hW0 : wr.alloc (.cells #[.int .i64 D.a, .int .i64 D.s, .int .i64 D.w] 34) = W0 at *
            have hsW : W0.heap.size = wr.heap.size + 1 := by rw [← hW0]; simp
            have HWB : Hid (Below wr.heap.size wr W0) := Lib.hid (by rw [← hW0]; exact (Below.refl _ _).alloc (Nat.le_refl _) _)
            obtain ⟨d0, d1, d2⟩ := HBd.out
            clear hW0 HBd
            have K0 : ∀ x : Aft W0, x.w.cell? ⟨w.heap.size, 0, none⟩ = some (.int .i64 k.i) := fun x => x.cell ((HWB.out.cell (p := ⟨w.heap.size, 0, none⟩) hbw).trans k0)
            have K1 : ∀ x : Aft W0, x.w.cell? ⟨w.heap.size, 1, none⟩ = some (.int .i64 k.s) := fun x => x.cell ((HWB.out.cell (p := ⟨w.heap.size, 1, none⟩) hbw).trans k1)
            have K2 : ∀ x : Aft W0, x.w.cell? ⟨w.heap.size, 2, none⟩ = some (.int .i64 k.w) := fun x => x.cell ((HWB.out.cell (p := ⟨w.heap.size, 2, none⟩) hbw).trans k2)
            have K3 : ∀ x : Aft W0, x.w.cell? ⟨w.heap.size, 3, none⟩ = some (.int .i64 k.g) := fun x => x.cell ((HWB.out.cell (p := ⟨w.heap.size, 3, none⟩) hbw).trans k3)
            have K4 : ∀ x : Aft W0, x.w.cell? ⟨w.heap.size, 4, none⟩ = some (.int .i64 k.p) := fun x => x.cell ((HWB.out.cell (p := ⟨w.heap.size, 4, none⟩) hbw).trans k4)
            have D0' : ∀ x : Aft W0, x.w.cell? ⟨wr.heap.size, 0, none⟩ = some (.int .i64 D.a) := fun x => x.cell d0
            have D1' : ∀ x : Aft W0, x.w.cell? ⟨wr.heap.size, 1, none⟩ = some (.int .i64 D.s) := fun x => x.cell d1
            have D2' : ∀ x : Aft W0, x.w.cell? ⟨wr.heap.size, 2, none⟩ = some (.int .i64 D.w) := fun x => x.cell d2
            clear k0 k1 k2 k3 k4 d0 d1 d2 c0 c1 c2
            refine wp_region_aft (w0 := W0) (by kernel_rfl) (by kernel_rfl) (Below.refl _ _) ?_
            repeat (go_big_quiet_step ((go_at_call 91; exact aft_of (HD.out _))))
            refine wpQuiet_nil ?_
            rintro _ ⟨x, rfl⟩
            go_wp2
            go_ret
            exact ⟨ret_b (b_no HB (HN1.out (by simp))), HE.out _ (HWB.out.trans (x.below.mono HWB.out.size))⟩
          | true =>
            by_cases hp : 0 < j
            · obtain ⟨q0, q1, q2⟩ := hb0.out hp
              obtain ⟨p1, p2, p3⟩ := pred_in j hp (by omega)
              have hgt : (0 : Int) < (j : Int) := by omega
              cases BF with
              | false =>
                have t1 : decide (0 ≤ Z) = true := by have := HZ.out; simp at this ⊢; omega
                go_wp2_with fail
                generalize hW0 : wr.alloc (.cells #[.int .i64 D.a, .int .i64 D.s, .int .i64 D.w] 34) = W0 at *
                have hsW : W0.heap.size = wr.heap.size + 1 := by rw [← hW0]; simp
                have HWB : Hid (Below wr.heap.size wr W0) := Lib.hid (by rw [← hW0]; exact (Below.refl _ _).alloc (Nat.le_refl _) _)
                obtain ⟨d0, d1, d2⟩ := HBd.out
                clear hW0 HBd
                have K0 : ∀ x : Aft W0, x.w.cell? ⟨w.heap.size, 0, none⟩ = some (.int .i64 k.i) := fun x => x.cell ((HWB.out.cell (p := ⟨w.heap.size, 0, none⟩) hbw).trans k0)
                have K1 : ∀ x : Aft W0, x.w.cell? ⟨w.heap.size, 1, none⟩ = some (.int .i64 k.s) := fun x => x.cell ((HWB.out.cell (p := ⟨w.heap.size, 1, none⟩) hbw).trans k1)
                have K2 : ∀ x : Aft W0, x.w.cell? ⟨w.heap.size, 2, none⟩ = some (.int .i64 k.w) := fun x => x.cell ((HWB.out.cell (p := ⟨w.heap.size, 2, none⟩) hbw).trans k2)
                have K3 : ∀ x : Aft W0, x.w.cell? ⟨w.heap.size, 3, none⟩ = some (.int .i64 k.g) := fun x => x.cell ((HWB.out.cell (p := ⟨w.heap.size, 3, none⟩) hbw).trans k3)
                have K4 : ∀ x : Aft W0, x.w.cell? ⟨w.heap.size, 4, none⟩ = some (.int .i64 k.p) := fun x => x.cell ((HWB.out.cell (p := ⟨w.heap.size, 4, none⟩) hbw).trans k4)
                have D0' : ∀ x : Aft W0, x.w.cell? ⟨wr.heap.size, 0, none⟩ = some (.int .i64 D.a) := fun x => x.cell d0
                have D1' : ∀ x : Aft W0, x.w.cell? ⟨wr.heap.size, 1, none⟩ = some (.int .i64 D.s) := fun x => x.cell d1
                have D2' : ∀ x : Aft W0, x.w.cell? ⟨wr.heap.size, 2, none⟩ = some (.int .i64 D.w) := fun x => x.cell d2
                have Q0' : ∀ x : Aft W0, x.w.cell? ⟨a, oa + (j - 1) * 3, none⟩ = some (.int .i64 E.a) := fun x => x.cell ((HWB.out.cell (p := ⟨a, oa + (j - 1) * 3, none⟩) hlaw).trans q0)
                have Q1' : ∀ x : Aft W0, x.w.cell? ⟨a, oa + (j - 1) * 3 + 1, none⟩ = some (.int .i64 E.s) := fun x => x.cell ((HWB.out.cell (p := ⟨a, oa + (j - 1) * 3 + 1, none⟩) hlaw).trans q1)
                have Q2' : ∀ x : Aft W0, x.w.cell? ⟨a, oa + (j - 1) * 3 + 2, none⟩ = some (.int .i64 E.w) := fun x => x.cell ((HWB.out.cell (p := ⟨a, oa + (j - 1) * 3 + 2, none⟩) hlaw).trans q2)
                clear k0 k1 k2 k3 k4 d0 d1 d2 c0 c1 c2 q0 q1 q2
                refine wp_region_aft (w0 := W0) (by kernel_rfl) (by kernel_rfl) (Below.refl _ _) ?_
                repeat (go_big_quiet_step (first | (go_at_call 91; exact aft_of (HD.out _)) | (go_at_call 92; exact aft_of (HC.out _))))
                refine wpQuiet_nil ?_
                rintro _ ⟨x, rfl⟩
                clear p1 p3
                go_wp2
                go_ret
                exact ⟨ret_b (b_no HB (HX.out hp (by simp))), HE.out _ (HWB.out.trans (x.below.mono HWB.out.size))⟩
              | true =>
                have t1 : decide (0 ≤ Z) = false := by have := HZ.out; simp at this ⊢; omega
                go_wp2_with fail
                generalize hW0 : wr.alloc (.cells #[.int .i64 D.a, .int .i64 D.s, .int .i64 D.w] 34) = W0 at *
                have hsW : W0.heap.size = wr.heap.size + 1 := by rw [← hW0]; simp
                have HWB : Hid (Below wr.heap.size wr W0) := Lib.hid (by rw [← hW0]; exact (Below.refl _ _).alloc (Nat.le_refl _) _)
                obtain ⟨d0, d1, d2⟩ := HBd.out
                clear hW0 HBd
                have K0 : ∀ x : Aft W0, x.w.cell? ⟨w.heap.size, 0, none⟩ = some (.int .i64 k.i) := fun x => x.cell ((HWB.out.cell (p := ⟨w.heap.size, 0, none⟩) hbw).trans k0)
                have K1 : ∀ x : Aft W0, x.w.cell? ⟨w.heap.size, 1, none⟩ = some (.int .i64 k.s) := fun x => x.cell ((HWB.out.cell (p := ⟨w.heap.size, 1, none⟩) hbw).trans k1)
                have K2 : ∀ x : Aft W0, x.w.cell? ⟨w.heap.size, 2, none⟩ = some (.int .i64 k.w) := fun x => x.cell ((HWB.out.cell (p := ⟨w.heap.size, 2, none⟩) hbw).trans k2)
                have K3 : ∀ x : Aft W0, x.w.cell? ⟨w.heap.size, 3, none⟩ = some (.int .i64 k.g) := fun x => x.cell ((HWB.out.cell (p := ⟨w.heap.size, 3, none⟩) hbw).trans k3)
                have K4 : ∀ x : Aft W0, x.w.cell? ⟨w.heap.size, 4, none⟩ = some (.int .i64 k.p) := fun x => x.cell ((HWB.out.cell (p := ⟨w.heap.size, 4, none⟩) hbw).trans k4)
                have D0' : ∀ x : Aft W0, x.w.cell? ⟨wr.heap.size, 0, none⟩ = some (.int .i64 D.a) := fun x => x.cell d0
                have D1' : ∀ x : Aft W0, x.w.cell? ⟨wr.heap.size, 1, none⟩ = some (.int .i64 D.s) := fun x => x.cell d1
                have D2' : ∀ x : Aft W0, x.w.cell? ⟨wr.heap.size, 2, none⟩ = some (.int .i64 D.w) := fun x => x.cell d2
                have Q0' : ∀ x : Aft W0, x.w.cell? ⟨a, oa + (j - 1) * 3, none⟩ = some (.int .i64 E.a) := fun x => x.cell ((HWB.out.cell (p := ⟨a, oa + (j - 1) * 3, none⟩) hlaw).trans q0)
                have Q1' : ∀ x : Aft W0, x.w.cell? ⟨a, oa + (j - 1) * 3 + 1, none⟩ = some (.int .i64 E.s) := fun x => x.cell ((HWB.out.cell (p := ⟨a, oa + (j - 1) * 3 + 1, none⟩) hlaw).trans q1)
                have Q2' : ∀ x : Aft W0, x.w.cell? ⟨a, oa + (j - 1) * 3 + 2, none⟩ = some (.int .i64 E.w) := fun x => x.cell ((HWB.out.cell (p := ⟨a, oa + (j - 1) * 3 + 2, none⟩) hlaw).trans q2)
                clear k0 k1 k2 k3 k4 d0 d1 d2 c0 c1 c2 q0 q1 q2
                refine wp_region_aft (w0 := W0) (by kernel_rfl) (by kernel_rfl) (Below.refl _ _) ?_
                repeat (go_big_quiet_step (first | (go_at_call 91; exact aft_of (HD.out _)) | (go_at_call 92; exact aft_of (HC.out _))))
                refine wpQuiet_nil ?_
                rintro _ ⟨x, rfl⟩
                clear p1 p3
                go_wp2
                go_roundw
                case rel => exact ⟨j + 1, by omega, by go_num, Lib.hid (hbl.out.trans ((HWB.out.trans (x.below.mono HWB.out.size)).mono (by omega))), Lib.hid (HO1.out (by simp) (fun _ => by simp))⟩
                case measure => simp [intOf]; omega
            · obtain rfl : j = 0 := by omega
              have hgt : decide ((0 : Int) < ((0 : Nat) : Int)) = false := by simp
              simp only [Nat.zero_mul, Nat.add_zero] at c0 c1 c2
              go_wp2_with fail
              generalize hW0 : wr.alloc (.cells #[.int .i64 D.a, .int .i64 D.s, .int .i64 D.w] 34) = W0 at *
              have hsW : W0.heap.size = wr.heap.size + 1 := by rw [← hW0]; simp
              have HWB : Hid (Below wr.heap.size wr W0) := Lib.hid (by rw [← hW0]; exact (Below.refl _ _).alloc (Nat.le_refl _) _)
              obtain ⟨d0, d1, d2⟩ := HBd.out
              clear hW0 HBd
              have K0 : ∀ x : Aft W0, x.w.cell? ⟨w.heap.size, 0, none⟩ = some (.int .i64 k.i) := fun x => x.cell ((HWB.out.cell (p := ⟨w.heap.size, 0, none⟩) hbw).trans k0)
              have K1 : ∀ x : Aft W0, x.w.cell? ⟨w.heap.size, 1, none⟩ = some (.int .i64 k.s) := fun x => x.cell ((HWB.out.cell (p := ⟨w.heap.size, 1, none⟩) hbw).trans k1)
              have K2 : ∀ x : Aft W0, x.w.cell? ⟨w.heap.size, 2, none⟩ = some (.int .i64 k.w) := fun x => x.cell ((HWB.out.cell (p := ⟨w.heap.size, 2, none⟩) hbw).trans k2)
              have K3 : ∀ x : Aft W0, x.w.cell? ⟨w.heap.size, 3, none⟩ = some (.int .i64 k.g) := fun x => x.cell ((HWB.out.cell (p := ⟨w.heap.size, 3, none⟩) hbw).trans k3)
              have K4 : ∀ x : Aft W0, x.w.cell? ⟨w.heap.size, 4, none⟩ = some (.int .i64 k.p) := fun x => x.cell ((HWB.out.cell (p := ⟨w.heap.size, 4, none⟩) hbw).trans k4)
              have D0' : ∀ x : Aft W0, x.w.cell? ⟨wr.heap.size, 0, none⟩ = some (.int .i64 D.a) := fun x => x.cell d0
              have D1' : ∀ x : Aft W0, x.w.cell? ⟨wr.heap.size, 1, none⟩ = some (.int .i64 D.s) := fun x => x.cell d1
              have D2' : ∀ x : Aft W0, x.w.cell? ⟨wr.heap.size, 2, none⟩ = some (.int .i64 D.w) := fun x => x.cell d2
              clear k0 k1 k2 k3 k4 d0 d1 d2 c0 c1 c2
              refine wp_region_aft (w0 := W0) (by kernel_rfl) (by kernel_rfl) (Below.refl _ _) ?_
              repeat (go_big_quiet_step ((go_at_call 91; exact aft_of (HD.out _))))
              refine wpQuiet_nil ?_
              rintro _ ⟨x, rfl⟩
              go_wp2
              go_roundw
              case rel => exact ⟨0 + 1, by omega, by go_num, Lib.hid (hbl.out.trans ((HWB.out.trans (x.below.mono HWB.out.size)).mono (by omega))), Lib.hid (HO1.out (by simp) (fun h => by omega))⟩
              case measure => simp [intOf]; omega
        · obtain rfl : j = l.length := by omega
          go_wp2
          go_ret
          exact ⟨ret_b (b_yes HB ⟨HKk.out, h15, fun i hi => HO.out i hi⟩), HE.out _ (Below.refl _ _)⟩
    · go_enter Try.func52, Try.ntmps52
      go_wp2_with fail
      refine (E0.out _).mono ?_
      rintro e w1 ⟨rfl, b1⟩
      go_wp2
      go_ret
      exact ⟨ret_b (b_no HB (fun g => h15 g.len)), ((Below.refl _ _).alloc (Nat.le_refl _) _).trans (b1.mono (by simp))⟩
theorem implAreDamages_c (k : RK) (v : Value) (l : List Dmg) (w : World) (hr : Rs w v l.length (dmgs l)) (hn : l.length ≤ 1048576) :
    Calls Try.prog 52 #[.agg #[.int .i64 k.i, .int .i64 k.s, .int .i64 k.w, .int .i64 k.g, .int .i64 k.p], v] w fun e w' => e = .returned (.bool (good k l)) ∧ Below w.heap.size w w' := AreDamages_b k v l _ w hr hn (good_iff k l)
end Go.Proofs.Ytiogjocbiagipab
