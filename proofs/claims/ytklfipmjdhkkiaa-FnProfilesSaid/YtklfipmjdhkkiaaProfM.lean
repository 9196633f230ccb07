/- Smooth profiles: the program's and the specification's answer as one function. Condition: sizes. -/
import Derived.Test.YtklfipmjdhkkiaaProfV
import Derived.StillTailTactics
namespace Go.Proofs.Ytklfipmjdhkkiaa
open Go.RowKit
set_option linter.unusedVariables false
theorem sm_no {l : List Int} (h : p9V l = false) : smR l = [] := by simp [smR, h]
theorem sm_yes {l : List Int} (h : p9V l = true) : smR l = smN l (l.length - 2) := by simp [smR, h]
theorem sm3_in {x y z : Int} (hx : 0 ≤ x ∧ x ≤ 100) (hy : 0 ≤ y ∧ y ≤ 100) (hz : 0 ≤ z ∧ z ≤ 100) : Int.tdiv (x + y + z) 3 = (x + y + z) / 3 ∧ 0 ≤ (x + y + z) / 3 ∧ (x + y + z) / 3 ≤ 100 := by
  rw [Int.tdiv_eq_ediv_of_nonneg (by omega)]
  omega
theorem own_set9 {w : World} {B g ca n : Nat} {e : TypeId} {l : List Int} (h : w.ownsRow B e 1 (.slice (some ⟨g, 0, none⟩) n ca) n (intVs l)) (k : Nat) (x : Int) :
    (w.setCell ⟨g, k, none⟩ (.int .i64 x)).ownsRow B e 1 (.slice (some ⟨g, 0, none⟩) n ca) n (intVs (l.set k x)) := by
  have := (h.stored k (.int .i64 x)).1
  rw [iv_set] at this
  exact this
set_option maxRecDepth 100000 in
set_option maxHeartbeats 4000000 in
theorem implSmoothProfile_c (v : Value) (l : List Int) (w : World) (hr : Rd w v (intVs l)) (hn : l.length ≤ 1048576) :
    Calls Try.prog 21 #[v] w fun e w' => ∃ g, e = .returned (.tuple #[g, .bool (p9V l)]) ∧ w'.ownsRow w.heap.size 3 1 g (smR l).length (intVs (smR l)) ∧ Below w.heap.size w w' := by
  have E0 := Lib.hid (fun W h => implIsProfile_c v l W h hn)
  have E1 := Lib.hid (fun W h => cloneR_c v l W h hn)
  have HR := Lib.hid hr
  obtain ⟨ao, b, ob, ca, rfl, hao, hat⟩ := hr.formR
  have HA := Lib.hid hao
  have HL := Lib.hid hat
  clear hr hao hat
  cases hk : p9V l with
  | false =>
    rw [hk] at E0
    have HX := Lib.hid (sm_no hk)
    clear hk
    go_enter Try.func21, Try.ntmps21
    go_wp2_with fail
    refine (E0.out _ HR.out).mono ?_
    rintro e w1 ⟨rfl, b1⟩
    have HB := Lib.hid b1
    clear b1
    go_wp2
    go_ret2
    exact ⟨_, rfl, by rw [HX.out]; exact World.ownsRow_made _ #[] 0 HB.out.size (by decide) rfl, HB.out.alloc HB.out.size _⟩
  | true =>
    have HX := Lib.hid (sm_yes hk)
    obtain ⟨hl30, hv⟩ := (p9V_iff l).1 hk
    have HV := Lib.hid hv
    rw [hk] at E0
    clear hk hv
    go_enter Try.func21, Try.ntmps21
    go_wp2_with fail
    refine (E0.out _ HR.out).mono ?_
    rintro e w1 ⟨rfl, b1⟩
    go_wp2_with fail
    refine (E1.out _ (HR.out.below b1 rfl)).mono ?_
    rintro e w2 ⟨g, rfl, o2, b2⟩
    have HB := Lib.hid (b1.trans (b2.mono b1.size))
    have hs1 := b1.size
    have hs2 := b2.size
    rcases own_form o2 with ⟨h0, _⟩ | ⟨gb, gc, rfl, hBg, hgw, hnc, hcm⟩
    · omega
    have HO2 := Lib.hid (own_mono o2 (Nat.le_refl w1.heap.size))
    clear b1 b2 o2
    have q0 : IntKind.i64.wrap ((l.length : Int) - 1) = (l.length : Int) - 1 := IntWalk.i64_in _ (by omega)
    go_wp2
    go_loopw [5] (fun i wr => ∃ k : Nat, 0 < k ∧ (k + 1 ≤ l.length ∨ k = 1) ∧ i = .int .i64 k ∧ wr.ownsRow w1.heap.size 3 1 (.slice (some ⟨gb, 0, none⟩) l.length gc) l.length (intVs (smN l (k - 1))) ∧ Hid (Below w.heap.size w wr)) (fun i _ => l.length - (intOf i).toNat)
    case atStart => exact ⟨1, by omega, by omega, rfl, HO2.out, HB⟩
    case round =>
      obtain ⟨k, h0, hk, rfl, hown, hbel⟩ := hrel
      by_cases hlt : k + 1 < l.length
      · obtain ⟨rfl, hla, hlm⟩ := HA.out (by omega)
        have hbd := hbel.out.drew
        have c0 := (HL.out.below hbd hla) (k - 1) (by omega)
        have c1 := (HL.out.below hbd hla) k (by omega)
        have c2 := (HL.out.below hbd hla) (k + 1) (by omega)
        have hx := HV.out (k - 1) (by omega)
        have hy := HV.out k (by omega)
        have hz := HV.out (k + 1) (by omega)
        have HS := Lib.hid (smN_step l h0)
        obtain ⟨p1, p2, p3⟩ := pred_in k h0 (by omega)
        obtain ⟨r1, r2, r3⟩ := succ_in k (by omega)
        generalize l.getD (k - 1) 0 = X at *
        generalize l.getD k 0 = Y at *
        generalize l.getD (k + 1) 0 = Z at *
        have q1 : IntKind.i64.wrap (X + Y) = X + Y := IntWalk.i64_in _ (by omega)
        have q2 : IntKind.i64.wrap (X + Y + Z) = X + Y + Z := IntWalk.i64_in _ (by omega)
        obtain ⟨q3, m0, m1⟩ := sm3_in hx hy hz
        have q4 : IntKind.i64.wrap ((X + Y + Z) / 3) = (X + Y + Z) / 3 := IntWalk.i64_in _ (by omega)
        generalize (X + Y + Z) / 3 = M at *
        have t1 : decide ((k : Int) < (l.length : Int) - 1) = true := by simp; omega
        have t2 : (k : Int) + 1 < (l.length : Int) := by omega
        have t3 : (k : Int) < (l.length : Int) - 1 := by omega
        have t4 : (k : Int) < (l.length : Int) := by omega
        have t5 : (k : Int) - 1 < (l.length : Int) := by omega
        have t6 : (k : Int) ≤ (l.length : Int) := by omega
        have t7 : (1 : Int) ≤ (k : Int) := by omega
        have t8 : (0 : Int) < (k : Int) := by omega
        have t9 : k ≤ l.length := by omega
        have hod := hown.drew
        have hlen : (intVs (smN l (k - 1))).length = l.length := by simp [intVs, smN_len]
        have hu0 : k < (intVs (smN l (k - 1))).length := by rw [hlen]; exact Nat.lt_of_succ_lt hlt
        have k0 := (hod.cellAt k (by omega)).trans (List.getElem?_eq_getElem hu0)
        have f0 := hod.frozenAt k
        have HST := Lib.hid (own_set9 hod k M)
        have HBN := Lib.hid (hbd.setCell (p := ⟨gb, k, none⟩) (show w.heap.size ≤ gb by omega) (.int .i64 M))
        clear hown hod hbd
        go_wp2_with fail
        go_still_tail 20, (by kernel_rfl)
        change wpList _ _ _ _ _ wr.drew
        generalize wr.drew = w3 at *
        clear p1 p2 p3 c0 c1 c2
        go_wp2
        go_roundw
        case rel => exact ⟨k + 1, by omega, by omega, by go_num, by rw [Nat.add_sub_cancel, HS.out]; exact HST.out, HBN⟩
        case measure => simp [intOf]; omega
      · have HE : Hid (k - 1 = l.length - 2) := Lib.hid (by omega)
        have t1 : decide ((k : Int) < (l.length : Int) - 1) = false := by simp; omega
        have t3 : ¬ (k : Int) < (l.length : Int) - 1 := by omega
        go_wp2
        go_ret2
        exact ⟨_, rfl, by rw [HX.out, smN_len, ← HE.out]; exact own_mono hown hs1, hbel.out⟩
set_option maxRecDepth 100000 in
set_option maxHeartbeats 4000000 in
theorem specSmoothProfile_c (v : Value) (l : List Int) (w : World) (hr : Rd w v (intVs l)) (hn : l.length ≤ 1048576) :
    Calls Try.prog 22 #[v] w fun e w' => ∃ g, e = .returned (.tuple #[g, .bool (p9V l)]) ∧ w'.ownsRow w.heap.size 3 1 g (smR l).length (intVs (smR l)) ∧ Below w.heap.size w w' := by
  have E0 := Lib.hid (fun W h => l9Good_c v l W h hn)
  have E1 := Lib.hid (fun W h => ownR_c v l W h hn)
  have HR := Lib.hid hr
  obtain ⟨ao, b, ob, ca, rfl, hao, hat⟩ := hr.formR
  have HA := Lib.hid hao
  have HL := Lib.hid hat
  clear hr hao hat
  cases hk : p9V l with
  | false =>
    rw [hk] at E0
    have HX := Lib.hid (sm_no hk)
    clear hk
    go_enter Try.func22, Try.ntmps22
    go_wp2_with fail
    refine (E0.out _ HR.out).mono ?_
    rintro e w1 ⟨rfl, b1⟩
    have HB := Lib.hid b1
    clear b1
    go_wp2
    go_ret2
    exact ⟨_, rfl, by rw [HX.out]; exact World.ownsRow_made _ #[] 0 HB.out.size (by decide) rfl, HB.out.alloc HB.out.size _⟩
  | true =>
    have HX := Lib.hid (sm_yes hk)
    obtain ⟨hl30, hv⟩ := (p9V_iff l).1 hk
    have HV := Lib.hid hv
    rw [hk] at E0
    clear hk hv
    go_enter Try.func22, Try.ntmps22
    go_wp2_with fail
    refine (E0.out _ HR.out).mono ?_
    rintro e w1 ⟨rfl, b1⟩
    go_wp2_with fail
    refine (E1.out _ (HR.out.below b1 rfl)).mono ?_
    rintro e w2 ⟨g, rfl, o2, _, b2⟩
    have HB := Lib.hid (b1.trans (b2.mono b1.size))
    have hs1 := b1.size
    have hs2 := b2.size
    rcases own_form o2 with ⟨h0, _⟩ | ⟨gb, gc, rfl, hBg, hgw, hnc, hcm⟩
    · omega
    have HO2 := Lib.hid (own_mono o2 (Nat.le_refl w1.heap.size))
    clear b1 b2 o2
    have q0 : IntKind.i64.wrap ((l.length : Int) - 1) = (l.length : Int) - 1 := IntWalk.i64_in _ (by omega)
    go_wp2
    go_loopw [5] (fun i wr => ∃ k : Nat, 0 < k ∧ (k + 1 ≤ l.length ∨ k = 1) ∧ i = .int .i64 k ∧ wr.ownsRow w1.heap.size 3 1 (.slice (some ⟨gb, 0, none⟩) l.length gc) l.length (intVs (smN l (k - 1))) ∧ Hid (Below w.heap.size w wr)) (fun i _ => l.length - (intOf i).toNat)
    case atStart => exact ⟨1, by omega, by omega, rfl, HO2.out, HB⟩
    case round =>
      obtain ⟨k, h0, hk, rfl, hown, hbel⟩ := hrel
      by_cases hlt : k + 1 < l.length
      · obtain ⟨rfl, hla, hlm⟩ := HA.out (by omega)
        have hbd := hbel.out.drew
        have c0 := (HL.out.below hbd hla) (k - 1) (by omega)
        have c1 := (HL.out.below hbd hla) k (by omega)
        have c2 := (HL.out.below hbd hla) (k + 1) (by omega)
        have hx := HV.out (k - 1) (by omega)
        have hy := HV.out k (by omega)
        have hz := HV.out (k + 1) (by omega)
        have HS := Lib.hid (smN_step l h0)
        obtain ⟨p1, p2, p3⟩ := pred_in k h0 (by omega)
        obtain ⟨r1, r2, r3⟩ := succ_in k (by omega)
        generalize l.getD (k - 1) 0 = X at *
        generalize l.getD k 0 = Y at *
        generalize l.getD (k + 1) 0 = Z at *
        have q1 : IntKind.i64.wrap (X + Y) = X + Y := IntWalk.i64_in _ (by omega)
        have q2 : IntKind.i64.wrap (X + Y + Z) = X + Y + Z := IntWalk.i64_in _ (by omega)
        obtain ⟨q3, m0, m1⟩ := sm3_in hx hy hz
        have q4 : IntKind.i64.wrap ((X + Y + Z) / 3) = (X + Y + Z) / 3 := IntWalk.i64_in _ (by omega)
        generalize (X + Y + Z) / 3 = M at *
        have t1 : decide ((k : Int) < (l.length : Int) - 1) = true := by simp; omega
        have t2 : (k : Int) + 1 < (l.length : Int) := by omega
        have t3 : (k : Int) < (l.length : Int) - 1 := by omega
        have t4 : (k : Int) < (l.length : Int) := by omega
        have t5 : (k : Int) - 1 < (l.length : Int) := by omega
        have t6 : (k : Int) ≤ (l.length : Int) := by omega
        have t7 : (1 : Int) ≤ (k : Int) := by omega
        have t8 : (0 : Int) < (k : Int) := by omega
        have t9 : k ≤ l.length := by omega
        have hod := hown.drew
        have hlen : (intVs (smN l (k - 1))).length = l.length := by simp [intVs, smN_len]
        have hu0 : k < (intVs (smN l (k - 1))).length := by rw [hlen]; exact Nat.lt_of_succ_lt hlt
        have k0 := (hod.cellAt k (by omega)).trans (List.getElem?_eq_getElem hu0)
        have f0 := hod.frozenAt k
        have HST := Lib.hid (own_set9 hod k M)
        have HBN := Lib.hid (hbd.setCell (p := ⟨gb, k, none⟩) (show w.heap.size ≤ gb by omega) (.int .i64 M))
        clear hown hod hbd
        go_wp2_with fail
        go_still_tail 20, (by kernel_rfl)
        change wpList _ _ _ _ _ wr.drew
        generalize wr.drew = w3 at *
        clear p1 p2 p3 c0 c1 c2
        go_wp2
        go_roundw
        case rel => exact ⟨k + 1, by omega, by omega, by go_num, by rw [Nat.add_sub_cancel, HS.out]; exact HST.out, HBN⟩
        case measure => simp [intOf]; omega
      · have HE : Hid (k - 1 = l.length - 2) := Lib.hid (by omega)
        have t1 : decide ((k : Int) < (l.length : Int) - 1) = false := by simp; omega
        have t3 : ¬ (k : Int) < (l.length : Int) - 1 := by omega
        go_wp2
        go_ret2
        exact ⟨_, rfl, by rw [HX.out, smN_len, ← HE.out]; exact own_mono hown hs1, hbel.out⟩
end Go.Proofs.Ytklfipmjdhkkiaa
