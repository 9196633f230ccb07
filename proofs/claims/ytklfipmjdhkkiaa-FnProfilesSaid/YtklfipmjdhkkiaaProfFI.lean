/- The fastest profile under limits, the program's. Condition: sizes. -/
import Derived.Test.YtklfipmjdhkkiaaProfF
namespace Go.Proofs.Ytklfipmjdhkkiaa
open Go.RowKit
set_option linter.unusedVariables false
theorem fu_no1 {l : List Int} {f a : Int} (h : p9V l = false) : fuOk l f a = false ∧ fuR l f a = [] := by
  have : fuOk l f a = false := by simp [fuOk, fuIn, h]
  exact ⟨this, by simp [fuR, this]⟩
theorem fu_no2 {l : List Int} {f a : Int} (h : inR a 1 20 = false) : fuOk l f a = false ∧ fuR l f a = [] := by
  have : fuOk l f a = false := by simp [fuOk, fuIn, h]
  exact ⟨this, by simp [fuR, this]⟩
theorem fu_no3 {l : List Int} {f a : Int} (h : inR f 0 ((fuB l a).getD 0 0) = false) : fuOk l f a = false ∧ fuR l f a = [] := by
  have : fuOk l f a = false := by unfold fuOk; rw [h, Bool.and_false]
  exact ⟨this, by simp [fuR, this]⟩
theorem fu_in {l : List Int} {a : Int} (h : p9V l = true) (g : inR a 1 20 = true) : fuIn l a = true := by simp [fuIn, h, g]
theorem fu_yes {l : List Int} {f a : Int} (h : fuIn l a = true) (g : inR f 0 ((fuB l a).getD 0 0) = true) : fuOk l f a = true ∧ fuR l f a = fuL l f a := by
  have : fuOk l f a = true := by unfold fuOk; rw [h, g]; rfl
  exact ⟨this, by simp [fuR, this]⟩
theorem bk_step {l : List Int} {a : Int} {m : Nat} (h0 : 0 < m) (hm : m + 1 ≤ l.length) :
    (bkN l a (l.length - 1 - m)).set (m - 1) (if (bkN l a (l.length - 1 - m)).getD m 0 + a < (bkN l a (l.length - 1 - m)).getD (m - 1) 0 then (bkN l a (l.length - 1 - m)).getD m 0 + a else (bkN l a (l.length - 1 - m)).getD (m - 1) 0) = bkN l a (l.length - 1 - (m - 1)) := by
  have e : l.length - 1 - (m - 1) = l.length - 1 - m + 1 := by omega
  rw [e]
  simp only [bkN]
  rw [show l.length - 2 - (l.length - 1 - m) = m - 1 by omega, show l.length - 1 - (l.length - 1 - m) = m by omega]
theorem fw_step {r : List Int} {a : Int} {k : Nat} (h0 : 0 < k) :
    (fwN r a (k - 1)).set k (if (fwN r a (k - 1)).getD (k - 1) 0 + a < (fwN r a (k - 1)).getD k 0 then (fwN r a (k - 1)).getD (k - 1) 0 + a else (fwN r a (k - 1)).getD k 0) = fwN r a k := by
  obtain ⟨j, rfl⟩ : ∃ j, k = j + 1 := ⟨k - 1, by omega⟩
  simp only [fwN, Nat.add_sub_cancel]
set_option maxRecDepth 100000 in
set_option maxHeartbeats 4000000 in
theorem implFastestUnder_c (v : Value) (l : List Int) (f a : Int) (w : World) (hr : Rd w v (intVs l)) (hn : l.length ≤ 1048576) :
    Calls Try.prog 10 #[v, .int .i64 f, .int .i64 a] w fun e w' => ∃ g, e = .returned (.tuple #[g, .bool (fuOk l f a)]) ∧ w'.ownsRow w.heap.size 3 1 g (fuR l f a).length (intVs (fuR l f a)) ∧ Below w.heap.size w w' := by
  have E0 := Lib.hid (fun W h => implIsProfile_c v l W h hn)
  have E1 := Lib.hid (fun W => rate_c a W)
  have E2 := Lib.hid (fun W h => cloneR_c v l W h hn)
  have HR := Lib.hid hr
  obtain ⟨ao, b, ob, ca, rfl, hao, hat⟩ := hr.formR
  have HB0 := Lib.hid ((Below.refl w.heap.size w).alloc (Nat.le_refl _) (.cells #[.int .i64 a] 3))
  have HQ0 : Hid ((w.alloc (.cells #[.int .i64 a] 3)).cell? ⟨w.heap.size, 0, none⟩ = some (.int .i64 a)) := Lib.hid (by simp)
  clear hr hao hat
  cases hk : p9V l with
  | false =>
    rw [hk] at E0
    have HX := Lib.hid (fu_no1 (f := f) (a := a) hk)
    clear hk
    go_enter Try.func10, Try.ntmps10
    go_wp2_with fail
    refine (E0.out _ (HR.out.below HB0.out rfl)).mono ?_
    rintro e w1 ⟨rfl, b1⟩
    have HB := Lib.hid (HB0.out.trans (b1.mono HB0.out.size))
    clear b1
    go_wp2
    go_ret2
    exact ⟨_, ret_vR HX.out.1.symm, by rw [HX.out.2]; exact World.ownsRow_made _ #[] 0 HB.out.size (by decide) rfl, HB.out.alloc HB.out.size _⟩
  | true =>
    cases hm : inR a 1 20 with
    | false =>
      rw [hk] at E0
      rw [hm] at E1
      have HX := Lib.hid (fu_no2 (l := l) (f := f) hm)
      clear hk hm
      go_enter Try.func10, Try.ntmps10
      go_wp2_with fail
      refine (E0.out _ (HR.out.below HB0.out rfl)).mono ?_
      rintro e w1 ⟨rfl, b1⟩
      have HB := Lib.hid (HB0.out.trans (b1.mono HB0.out.size))
      have cq : w1.cell? ⟨w.heap.size, 0, none⟩ = some (.int .i64 a) := (b1.cell (p := ⟨w.heap.size, 0, none⟩) (by simp)).trans HQ0.out
      clear b1
      go_wp2_with fail
      refine (E1.out _).mono ?_
      rintro e w2 ⟨rfl, rfl⟩
      clear cq
      go_wp2
      go_ret2
      exact ⟨_, ret_vR HX.out.1.symm, by rw [HX.out.2]; exact World.ownsRow_made _ #[] 0 HB.out.size (by decide) rfl, HB.out.alloc HB.out.size _⟩
    | true =>
      have HI := Lib.hid (fu_in hk hm)
      obtain ⟨⟨hl30, hv⟩, ha⟩ := fu_parts HI.out
      have HV := Lib.hid hv
      have HBI := Lib.hid (fun k (hk : k + 1 ≤ l.length) => bkN_in ha.1 hv k hk)
      have HFB := Lib.hid (fuB_in HI.out)
      rw [hk] at E0
      rw [hm] at E1
      clear hk hm hv
      go_enter Try.func10, Try.ntmps10
      go_wp2_with fail
      refine (E0.out _ (HR.out.below HB0.out rfl)).mono ?_
      rintro e w1 ⟨rfl, b1⟩
      have HB := Lib.hid (HB0.out.trans (b1.mono HB0.out.size))
      have hs1 : w.heap.size + 1 ≤ w1.heap.size := by have := b1.size; simpa using this
      have cq : w1.cell? ⟨w.heap.size, 0, none⟩ = some (.int .i64 a) := (b1.cell (p := ⟨w.heap.size, 0, none⟩) (by simp)).trans HQ0.out
      have HQ := Lib.hid cq
      clear b1
      go_wp2_with fail
      refine (E1.out _).mono ?_
      rintro e w2 ⟨rfl, rfl⟩
      clear cq
      go_wp2_with fail
      refine (E2.out _ (HR.out.below HB.out rfl)).mono ?_
      rintro e w3 ⟨g, rfl, o3, b3⟩
      rcases own_form o3 with ⟨h0, _⟩ | ⟨gb, gc, rfl, hBg, hgw, hnc, hcm⟩
      · omega
      have hs3 := b3.size
      have HB3 := Lib.hid (HB.out.trans (b3.mono HB.out.size))
      have HQ3 : Hid (w3.cell? ⟨w.heap.size, 0, none⟩ = some (.int .i64 a)) := Lib.hid ((b3.cell (p := ⟨w.heap.size, 0, none⟩) (show w.heap.size < _ by omega)).trans HQ.out)
      have HO3 := Lib.hid o3
      have HBN := Lib.hid (HB3.out.alloc HB3.out.size (.cells #[.slice (some ⟨gb, 0, none⟩) l.length gc] 24))
      have HON := Lib.hid (o3.alloc (.cells #[.slice (some ⟨gb, 0, none⟩) l.length gc] 24))
      have HPN : Hid ((w3.alloc (.cells #[.slice (some ⟨gb, 0, none⟩) l.length gc] 24)).cell? ⟨w3.heap.size, 0, none⟩ = some (.slice (some ⟨gb, 0, none⟩) l.length gc)) := Lib.hid (by simp)
      have HQN : Hid ((w3.alloc (.cells #[.slice (some ⟨gb, 0, none⟩) l.length gc] 24)).cell? ⟨w.heap.size, 0, none⟩ = some (.int .i64 a)) := Lib.hid ((World.cell?_alloc_past _ _ _ (show w.heap.size < _ by omega)).trans HQ3.out)
      clear b3 o3
      have q0 : IntKind.i64.wrap ((l.length : Int) - 2) = (l.length : Int) - 2 := IntWalk.i64_in _ (by omega)
      go_wp2
      go_loopw [10] (fun i wr => ∃ m : Nat, m + 1 ≤ l.length ∧ i = .int .i64 ((m : Int) - 1) ∧ wr.ownsRow w2.heap.size 3 1 (.slice (some ⟨gb, 0, none⟩) l.length gc) l.length (intVs (bkN l a (l.length - 1 - m))) ∧ Hid (Below w.heap.size w wr) ∧ Hid (wr.cell? ⟨w3.heap.size, 0, none⟩ = some (.slice (some ⟨gb, 0, none⟩) l.length gc)) ∧ Hid (wr.cell? ⟨w.heap.size, 0, none⟩ = some (.int .i64 a)) ∧ Hid (w3.heap.size < wr.heap.size)) (fun i _ => (intOf i + 1).toNat)
      case atStart => exact ⟨l.length - 1, by omega, by congr 1; omega, by rw [show l.length - 1 - (l.length - 1) = 0 by omega]; exact HON.out, HBN, HPN, HQN, Lib.hid (by simp)⟩
      case round =>
        obtain ⟨m, hm, rfl, hown, hbel, hcp, hcq, hsz⟩ := hrel
        by_cases h0 : 0 < m
        · have hi := HBI.out (l.length - 1 - m) (by omega)
          have hi1 := hi (m - 1) (by omega)
          have hi2 := hi m (by omega)
          have hlen := bkN_len l a (l.length - 1 - m)
          have HST := Lib.hid (bk_step (a := a) h0 hm)
          have t1 : decide ((0 : Int) ≤ (m : Int) - 1) = true := by simp; omega
          have hge : (0 : Int) ≤ (m : Int) - 1 := by omega
          have q1 : IntKind.i64.wrap ((m : Int) - 1 + 1) = (m : Int) - 1 + 1 := IntWalk.i64_in _ (by omega)
          have q2 : IntKind.i64.wrap ((m : Int) - 1 - 1) = (m : Int) - 1 - 1 := IntWalk.i64_in _ (by omega)
          have hown' := Lib.hid hown
          have hbel2 := hbel.out.size
          have hsz2 := hsz.out
          clear hown
          go_wp2_with fail
          refine (lower_c _ _ (m - 1) m l.length (bkN l a (l.length - 1 - m)) a w3.heap.size w.heap.size gb gc w2.heap.size _ (by omega) (by omega) hcp.out hcq.out hown'.out hlen (by omega) (by omega) (by omega) hi1 hi2 ha hsz2 (by omega)).mono ?_
          rintro e w4 ⟨rfl, o4, b4, p4, s4⟩
          rw [HST.out] at o4
          have HO4 := Lib.hid o4
          have HB4 := Lib.hid (hbel.out.trans (b4.mono (by omega)))
          have HP4 := Lib.hid p4
          have HQ4 : Hid (w4.cell? ⟨w.heap.size, 0, none⟩ = some (.int .i64 a)) := Lib.hid ((b4.cell (p := ⟨w.heap.size, 0, none⟩) (show w.heap.size < _ by omega)).trans hcq.out)
          clear o4 b4 p4 hi1 hi2 hi hlen
          go_wp2
          go_roundw
          case rel => exact ⟨m - 1, by omega, by congr 1; omega, HO4.out, HB4, HP4, HQ4, Lib.hid (by omega)⟩
          case measure => simp [intOf]; omega
        · obtain rfl : m = 0 := by omega
          have hown0 : wr.ownsRow w2.heap.size 3 1 (.slice (some ⟨gb, 0, none⟩) l.length gc) l.length (intVs (fuB l a)) := by
            have e : l.length - 1 - 0 = l.length - 1 := by omega
            rw [e] at hown
            exact hown
          have hlen : (fuB l a).length = l.length := bkN_len _ _ _
          have cp := hcp.out
          have c0 := (hown0.cellAt 0 (by omega)).trans (int_at (l := fuB l a) (by omega))
          have f0 := hown0.frozenAt 0
          have E3 := Lib.hid (fun W => within_c f 0 ((fuB l a).getD 0 0) W)
          have hx := HFB.out 0 (by omega)
          have t0 : (0 : Int) < (l.length : Int) := by omega
          have t2 : 0 < l.length := by omega
          cases hin : inR f 0 ((fuB l a).getD 0 0) with
          | false =>
            have HX := Lib.hid (fu_no3 hin)
            rw [hin] at E3
            clear hin
            have HOW := Lib.hid hown0
            clear hown hown0
            generalize (fuB l a).getD 0 0 = X at *
            go_wp2_with fail
            refine (E3.out _).mono ?_
            rintro e w4 ⟨rfl, rfl⟩
            go_wp2
            go_ret2
            exact ⟨_, ret_vR HX.out.1.symm, by rw [HX.out.2]; exact World.ownsRow_made _ #[] 0 hbel.out.size (by decide) rfl, hbel.out.alloc hbel.out.size _⟩
          | true =>
            have HX := Lib.hid (fu_yes HI.out hin)
            have HSI := Lib.hid (fuS_in HX.out.1)
            rw [hin] at E3
            clear hin
            have HST := Lib.hid (own_set9 hown0 0 f)
            have HG := Lib.hid (hown0.stored 0 (.int .i64 f)).2
            have HP5 : Hid ((wr.setCell ⟨gb, 0, none⟩ (.int .i64 f)).cell? ⟨w3.heap.size, 0, none⟩ = some (.slice (some ⟨gb, 0, none⟩) l.length gc)) := Lib.hid ((HG.out.cell_far ⟨w3.heap.size, 0, none⟩ hsz.out (by simp; omega)).trans hcp.out)
            have HQ5 : Hid ((wr.setCell ⟨gb, 0, none⟩ (.int .i64 f)).cell? ⟨w.heap.size, 0, none⟩ = some (.int .i64 a)) := Lib.hid ((HG.out.cell_far ⟨w.heap.size, 0, none⟩ (show w.heap.size < _ by have := hsz.out; omega) (by simp; omega)).trans hcq.out)
            have HB5 := Lib.hid (hbel.out.setCell (p := ⟨gb, 0, none⟩) (show w.heap.size ≤ gb by omega) (.int .i64 f))
            have HS5 : Hid (w3.heap.size < (wr.setCell ⟨gb, 0, none⟩ (.int .i64 f)).heap.size) := Lib.hid (by have := HG.out.size; have := hsz.out; omega)
            have hfs : (fuB l a).set 0 f = fuS l f a := rfl
            rw [hfs] at HST
            have hlS := fuS_len l f a
            have HFI := Lib.hid (fun k (hk : k + 1 ≤ l.length) => fwN_in (l := fuS l f a) ha.1 (fun i hi => HSI.out i (by omega)) k (by omega))
            clear hown hown0 hfs
            generalize (fuB l a).getD 0 0 = X at *
            go_wp2_with fail
            refine (E3.out _).mono ?_
            rintro e w4 ⟨rfl, rfl⟩
            go_wp2
            generalize w4.setCell ⟨gb, 0, none⟩ (.int .i64 f) = w5 at *
            clear c0 f0 cp
            go_loopw [11] (fun i wr => ∃ k : Nat, 0 < k ∧ k ≤ l.length ∧ i = .int .i64 (k : Int) ∧ wr.ownsRow w2.heap.size 3 1 (.slice (some ⟨gb, 0, none⟩) l.length gc) l.length (intVs (fwN (fuS l f a) a (k - 1))) ∧ Hid (Below w.heap.size w wr) ∧ Hid (wr.cell? ⟨w3.heap.size, 0, none⟩ = some (.slice (some ⟨gb, 0, none⟩) l.length gc)) ∧ Hid (wr.cell? ⟨w.heap.size, 0, none⟩ = some (.int .i64 a)) ∧ Hid (w3.heap.size < wr.heap.size)) (fun i _ => l.length - (intOf i).toNat)
            case atStart => exact ⟨1, by omega, by omega, rfl, HST.out, HB5, HP5, HQ5, HS5⟩
            case round =>
              obtain ⟨k, h1, hk, rfl, hown, hbel, hcp, hcq, hsz⟩ := hrel
              have cp := hcp.out
              by_cases hlt : k < l.length
              · have hi := HFI.out (k - 1) (by omega)
                have hi1 := hi k (by omega)
                have hi2 := hi (k - 1) (by omega)
                have hlen := fwN_len (fuS l f a) a (k - 1)
                have HST2 := Lib.hid (fw_step (r := fuS l f a) (a := a) h1)
                obtain ⟨p1, p2, p3⟩ := pred_in k h1 (by omega)
                have hown' := Lib.hid hown
                have hsz2 := hsz.out
                have t4 : (k : Int) < (l.length : Int) := by omega
                clear hown
                go_wp2_with fail
                refine (lower_c _ _ k (k - 1) l.length (fwN (fuS l f a) a (k - 1)) a w3.heap.size w.heap.size gb gc w2.heap.size _ (by omega) (by omega) hcp.out hcq.out hown'.out (by omega) (by omega) (by omega) (by omega) hi1 hi2 ha hsz2 (by omega)).mono ?_
                rintro e w6 ⟨rfl, o6, b6, p6, s6⟩
                rw [HST2.out] at o6
                have HO6 := Lib.hid o6
                have HB6 := Lib.hid (hbel.out.trans (b6.mono (by omega)))
                have HP6 := Lib.hid p6
                have HQ6 : Hid (w6.cell? ⟨w.heap.size, 0, none⟩ = some (.int .i64 a)) := Lib.hid ((b6.cell (p := ⟨w.heap.size, 0, none⟩) (show w.heap.size < _ by omega)).trans hcq.out)
                clear o6 b6 p6 hi1 hi2 hi hlen p1 p2 p3 cp
                go_wp2
                go_roundw
                case rel => exact ⟨k + 1, by omega, by omega, by go_num, HO6.out, HB6, HP6, HQ6, Lib.hid (by omega)⟩
                case measure => simp [intOf]; omega
              · obtain rfl : k = l.length := by omega
                go_wp2
                go_ret2
                exact ⟨_, ret_vR HX.out.1.symm, by rw [HX.out.2, fuL_len]; exact own_mono hown (by omega), hbel.out⟩
end Go.Proofs.Ytklfipmjdhkkiaa
