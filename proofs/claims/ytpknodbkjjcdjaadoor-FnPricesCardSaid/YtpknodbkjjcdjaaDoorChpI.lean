/- The program's CheapestFor. Condition: the table of rules is as laid. -/
import Derived.Test.YtpknodbkjjcdjaaDoorChpC
import Derived.Test.YtpknodbkjjcdjaaDoorIntS
import Derived.Deep.DeepCutAuto
import Derived.Deep.Heap
namespace Go.Proofs.YtpknodbkjjcdjaaDoor
open Go.RowKit
set_option linter.unusedVariables false
theorem blk_put4 {w : World} {P : Nat} {a b c d : Value} {T : TypeId} (h : w.heap[P]? = some (.cells #[a, b, c, d] T (0, 0))) (x0 x1 x2 x3 : Value) :
    ((((w.setCell ⟨P, 0, none⟩ x0).setCell ⟨P, 1, none⟩ x1).setCell ⟨P, 2, none⟩ x2).setCell ⟨P, 3, none⟩ x3).heap[P]? = some (.cells #[x0, x1, x2, x3] T (0, 0)) := by
  simp [World.setCell, Array.getElem?_modify, h]
theorem blk_put1 {w : World} {P : Nat} {a b c d : Value} {T : TypeId} (h : w.heap[P]? = some (.cells #[a, b, c, d] T (0, 0))) (x : Value) :
    (w.setCell ⟨P, 3, none⟩ x).heap[P]? = some (.cells #[a, b, c, x] T (0, 0)) := by
  simp [World.setCell, Array.getElem?_modify, h]
theorem blk_other {w : World} {P Q i : Nat} {o : Obj} (h : w.heap[P]? = some o) (hne : Q ≠ P) (x : Value) : (w.setCell ⟨Q, i, none⟩ x).heap[P]? = some o := by
  simp [World.setCell, Array.getElem?_modify, h, hne]
theorem below_setX {B : Nat} {a w : World} (h : Below B a w) {b : Nat} (hb : B ≤ b) (i : Nat) (v : Value) : Below B a (w.setCell ⟨b, i, none⟩ v) := h.setCell (p := ⟨b, i, none⟩) hb v
theorem ret_viC {v : Value} {a b : Int} {p q : Bool} (h : a = b) (g : p = q) : Ending.returned (.tuple #[v, .int .i64 a, .bool p]) = .returned (.tuple #[v, .int .i64 b, .bool q]) := by rw [h, g]
theorem ch_no {p : Prc} {u v : Int} (h : chOk p u v = false) : chR p u v = [] ∧ chV p u v = 0 := by simp [chR, chV, h]
theorem ch_yes {p : Prc} {u v : Int} (h : chOk p u v = true) : chR p u v = [(chZ p u v).s, (chZ p u v).r, (chZ p u v).d, (chZ p u v).t] ∧ chV p u v = (chZ p u v).least := by simp [chR, chV, h]
theorem chU_yes {p : Prc} {u v : Int} {z : ChS} {s r d : Int} (h : z.least < 0 ∨ chC p u v s r d < z.least) : chU p u v z s r d = ⟨chC p u v s r d, s, r, d, chT u v s r d⟩ := by unfold chU; rw [if_pos h]
theorem chU_no {p : Prc} {u v : Int} {z : ChS} {s r d : Int} (h : ¬ (z.least < 0 ∨ chC p u v s r d < z.least)) : chU p u v z s r d = z := by unfold chU; rw [if_neg h]
theorem chD_zero {p : Prc} {u v s r : Int} {z : ChS} : chD p u v s r z 0 = z := rfl
theorem chD_succ {p : Prc} {u v s r : Int} {z : ChS} {k : Nat} : chD p u v s r z (k + 1) = chU p u v (chD p u v s r z k) s r k := rfl
theorem chB_zero {m : Nat} {p : Prc} {u v s : Int} {z : ChS} : chB m p u v s z 0 = z := rfl
theorem chB_succ {m : Nat} {p : Prc} {u v s : Int} {z : ChS} {k : Nat} : chB m p u v s z (k + 1) = chD p u v s k (chB m p u v s z k) m := rfl
theorem chS_zero {m : Nat} {p : Prc} {u v : Int} : chS m p u v 0 = ch0 := rfl
theorem chS_succ {m : Nat} {p : Prc} {u v : Int} {k : Nat} : chS m p u v (k + 1) = chB m p u v k (chS m p u v k) 21 := rfl
theorem chZ_21 {p : Prc} {u v : Int} (hp : prcV p = true) (hu : u ≤ 20) (hv : v ≤ 20) : chS 21 p u v 21 = chZ p u v := by unfold chZ; exact chS_eq hp hu hv 21 (Nat.le_refl _)
theorem own_arr4 {w : World} {B P : Nat} {T : TypeId} {a b c d : Int} (h : w.heap[P]? = some (.cells #[.int .i64 a, .int .i64 b, .int .i64 c, .int .i64 d] T (0, 0))) (hB : B ≤ P) :
    w.ownsRow B T 1 (.slice (some ⟨P, 0, none⟩) 4 4) 4 (intVs [a, b, c, d]) :=
  ⟨rfl, .inr ⟨P, 4, _, rfl, hB, h, Nat.le_refl _, by unfold maxLen; omega, rfl, rfl⟩⟩
set_option maxRecDepth 100000 in
set_option maxHeartbeats 4000000 in
theorem blk_old4 {W : World} {o o' : Obj} {g : Nat} (h : W.heap[g]? = some o) : (W.alloc o').heap[g]? = some o := by
  have hl := (Array.getElem?_eq_some_iff.1 h).1
  exact (((Below.refl W.heap.size W).alloc (Nat.le_refl _) o').block g hl).trans h
set_option maxRecDepth 100000 in
set_option maxHeartbeats 4000000 in
theorem implCheapestFor_c (p : Prc) (u v : Int) (w : World) (hT : RulP w) :
    Calls Tryd.prog 36 #[.agg #[.int .i64 p.a, .int .i64 p.b, .int .i64 p.c, .int .i64 p.d], .int .i64 u, .int .i64 v] w fun e w' => ∃ g T, e = .returned (.tuple #[g, .int .i64 (chV p u v), .bool (chOk p u v)]) ∧ w'.ownsRow w.heap.size T 1 g (chR p u v).length (intVs (chR p u v)) ∧ Below w.heap.size w w' := by
  have HTT := Lib.hid hT
  clear hT
  by_cases hall : chOk p u v = true
  · obtain ⟨hpv, hu, hv⟩ := (chOk_iff p u v).1 hall
    have HN := Lib.hid (ch_yes hall)
    have HK := Lib.hid hall
    have HPV := Lib.hid hpv
    have EP := Lib.hid (fun W => arePrices_c p W)
    have EU := Lib.hid (fun W => within_c u 0 20 W)
    have EV := Lib.hid (fun W => within_c v 0 20 W)
    rw [hpv] at EP
    rw [(inR_iff u 0 20).2 hu] at EU
    rw [(inR_iff v 0 20).2 hv] at EV
    have HEQ : Hid (chS 21 p u v 21 = chZ p u v) := Lib.hid (chZ_21 hpv (by omega) (by omega))
    have HX := Lib.hid (box_Prc w p 52 _ rfl)
    clear hpv hall
    go_enter Tryd.func36, Tryd.ntmps36
    go_wp2_with fail
    generalize hW0 : w.alloc (.cells #[.int .i64 p.a, .int .i64 p.b, .int .i64 p.c, .int .i64 p.d] 52) = W0 at *
    have hs0 : W0.heap.size = w.heap.size + 1 := by rw [← hW0]; simp
    have B0 : Hid (Below w.heap.size w W0) := Lib.hid (by rw [← hW0]; exact (Below.refl _ _).alloc (Nat.le_refl _) _)
    have HR0 := Lib.hid (HTT.out.below B0.out)
    obtain ⟨d0, d1, d2, d3⟩ := HX.out W0 (Below.refl _ _)
    clear hW0
    refine (EP.out _).mono ?_
    rintro e WP ⟨rfl, t1⟩
    have T1 := Lib.hid (B0.out.trans (t1.mono B0.out.size))
    have HX1 := Lib.hid (HX.out WP (by rw [← hs0]; exact t1))
    have hz1 : w.heap.size < WP.heap.size := by have := t1.size; omega
    have HRP := Lib.hid (HR0.out.below t1)
    clear t1 d0 d1 d2 d3 HX
    go_wp2_with fail
    refine (EU.out _).mono ?_
    rintro e w2 ⟨rfl, rfl⟩
    go_wp2_with fail
    refine (EV.out _).mono ?_
    rintro e w3 ⟨rfl, rfl⟩
    obtain ⟨P, hP⟩ : ∃ P, P = w3.heap.size := ⟨_, rfl⟩
    have HPB : Hid (∀ W, Below P w3 W → W.cell? ⟨w.heap.size, 0, none⟩ = some (.int .i64 p.a) ∧ W.cell? ⟨w.heap.size, 1, none⟩ = some (.int .i64 p.b) ∧ W.cell? ⟨w.heap.size, 2, none⟩ = some (.int .i64 p.c) ∧ W.cell? ⟨w.heap.size, 3, none⟩ = some (.int .i64 p.d)) := Lib.hid (fun W hW => by
      have hl : w.heap.size < P := by omega
      exact ⟨(hW.cell (p := ⟨w.heap.size, 0, none⟩) hl).trans HX1.out.1, (hW.cell (p := ⟨w.heap.size, 1, none⟩) hl).trans HX1.out.2.1, (hW.cell (p := ⟨w.heap.size, 2, none⟩) hl).trans HX1.out.2.2.1, (hW.cell (p := ⟨w.heap.size, 3, none⟩) hl).trans HX1.out.2.2.2⟩)
    have HRX : Hid (∀ W, Below P w3 W → RulP W) := Lib.hid (fun W hW => by subst hP; exact HRP.out.below hW)
    have hwP : w.heap.size ≤ P := by omega
    have hbP : (w3.alloc (.cells #[.int .i64 0, .int .i64 0, .int .i64 0, .int .i64 0] 103)).heap[P]? = some (.cells #[.int .i64 0, .int .i64 0, .int .i64 0, .int .i64 0] 103 (0, 0)) := by rw [hP]; exact heap_alloc_new _ _
    have HB8 : Hid (Below P w3 (w3.alloc (.cells #[.int .i64 0, .int .i64 0, .int .i64 0, .int .i64 0] 103))) := Lib.hid ((Below.refl _ _).alloc (by omega) _)
    go_upto_region 4 with fail
    rw [← hP]
    generalize w3.alloc (.cells #[.int .i64 0, .int .i64 0, .int .i64 0, .int .i64 0] 103) = W8 at *
    have HP8 := Lib.hid hbP
    clear hP hbP HX1 HRP
    go_wp2
    go_loopw [10, 31] (fun t i wr => ∃ n : Nat, n ≤ 21 ∧ i = .int .i64 n ∧ t = .int .i64 (chS 21 p u v n).least ∧ Hid (wr.heap[P]? = some (.cells #[.int .i64 (chS 21 p u v n).s, .int .i64 (chS 21 p u v n).r, .int .i64 (chS 21 p u v n).d, .int .i64 (chS 21 p u v n).t] 103 (0, 0))) ∧ Hid (Below P w3 wr)) (fun _ i _ => 21 - (intOf i).toNat)
    case atStart => exact ⟨0, by omega, rfl, by rw [chS_zero]; rfl, by rw [chS_zero]; exact HP8, HB8⟩
    case round =>
      obtain ⟨n, hn21, rfl, rfl, hblk, hbel⟩ := hrel
      have Hn21 := Lib.hid hn21
      clear hn21
      by_cases hln : n < 21
      · have HZ1 : Hid (chS 21 p u v (n + 1) = chB 21 p u v n (chS 21 p u v n) 21) := Lib.hid chS_succ
        generalize chS 21 p u v n = Z1 at *
        have HLN := Lib.hid hln
        have sn1 : IntKind.i64.wrap ((n : Int) + 1) = (n : Int) + 1 := IntWalk.i64_in _ (by (have := Hn21.out; omega))
        have ln1 : decide ((n : Int) < 21) = true := by simp; omega
        clear hln
        go_wp2
        go_loopw [10, 34] (fun t i wr => ∃ b : Nat, b ≤ 21 ∧ i = .int .i64 b ∧ t = .int .i64 (chB 21 p u v n Z1 b).least ∧ Hid (wr.heap[P]? = some (.cells #[.int .i64 (chB 21 p u v n Z1 b).s, .int .i64 (chB 21 p u v n Z1 b).r, .int .i64 (chB 21 p u v n Z1 b).d, .int .i64 (chB 21 p u v n Z1 b).t] 103 (0, 0))) ∧ Hid (Below P w3 wr)) (fun _ i _ => 21 - (intOf i).toNat)
        case atStart => exact ⟨0, by omega, rfl, by rw [chB_zero], by rw [chB_zero]; exact hblk, hbel⟩
        case round =>
          obtain ⟨b, hb21, rfl, rfl, hblk, hbel⟩ := hrel
          have Hb21 := Lib.hid hb21
          clear hb21
          by_cases hlb : b < 21
          · have HZ2 : Hid (chB 21 p u v n Z1 (b + 1) = chD p u v n b (chB 21 p u v n Z1 b) 21) := Lib.hid chB_succ
            generalize chB 21 p u v n Z1 b = Z2 at *
            have HLB := Lib.hid hlb
            have sb1 : IntKind.i64.wrap ((b : Int) + 1) = (b : Int) + 1 := IntWalk.i64_in _ (by (have := Hb21.out; omega))
            have lb1 : decide ((b : Int) < 21) = true := by simp; omega
            clear hlb
            go_wp2
            go_loopw [10, 37] (fun t i wr => ∃ k : Nat, k ≤ 21 ∧ i = .int .i64 k ∧ t = .int .i64 (chD p u v n b Z2 k).least ∧ Hid (wr.heap[P]? = some (.cells #[.int .i64 (chD p u v n b Z2 k).s, .int .i64 (chD p u v n b Z2 k).r, .int .i64 (chD p u v n b Z2 k).d, .int .i64 (chD p u v n b Z2 k).t] 103 (0, 0))) ∧ Hid (Below P w3 wr)) (fun _ i _ => 21 - (intOf i).toNat)
            case atStart => exact ⟨0, by omega, rfl, by rw [chD_zero], by rw [chD_zero]; exact hblk, hbel⟩
            case round =>
              obtain ⟨k, hk21, rfl, rfl, hblk, hbel⟩ := hrel
              have Hk21 := Lib.hid hk21
              clear hk21
              by_cases hlk : k < 21
              · have sk1 : IntKind.i64.wrap ((k : Int) + 1) = (k : Int) + 1 := IntWalk.i64_in _ (by (have := Hk21.out; omega))
                have lk1 : decide ((k : Int) < 21) = true := by simp; omega
                have HLK := Lib.hid hlk
                have hln := HLN.out
                have hlb := HLB.out
                have hbs := hbel.out.size
                have hPr : P < wr.heap.size := (Array.getElem?_eq_some_iff.1 hblk.out).1
                have hns : (0 : Int) ≤ (n : Int) ∧ (n : Int) ≤ 20 := by omega
                have hbs2 : (0 : Int) ≤ (b : Int) ∧ (b : Int) ≤ 20 := by omega
                have hks : (0 : Int) ≤ (k : Int) ∧ (k : Int) ≤ 20 := by omega
                clear hln hlb hlk
                have HST : Hid (chD p u v n b Z2 (k + 1) = chU p u v (chD p u v n b Z2 k) n b k) := Lib.hid chD_succ
                have HTN := Lib.hid (fun W h => tensBeside_c n b k 0 u v W h hns hbs2 hks hu hv)
                have htb := chT_bd (u := u) (v := v) (s := n) (r := b) (d := k) (by omega) (by omega) hns.1 hbs2.1 hks.1
                have HPO := Lib.hid (fun W => priceOf_c p n b k (chT u v n b k) 0 0 W HPV.out hns hbs2 hks htb)
                have HCC : Hid (chC p u v n b k = n * p.a + b * p.b + k * p.c + chT u v n b k * p.d) := Lib.hid rfl
                have HUY := Lib.hid (fun h => chU_yes (p := p) (u := u) (v := v) (z := chD p u v n b Z2 k) (s := n) (r := b) (d := k) h)
                have HUN := Lib.hid (fun h => chU_no (p := p) (u := u) (v := v) (z := chD p u v n b Z2 k) (s := n) (r := b) (d := k) h)
                rw [← HCC.out] at HPO
                generalize chU p u v (chD p u v n b Z2 k) n b k = ZN at *
                generalize chD p u v n b Z2 k = Z at *
                generalize chC p u v n b k = CC at *
                generalize chT u v n b k = TT at *
                clear HCC htb hns hbs2 hks
                generalize hzl : Z.least = zl at *
                have HZL := Lib.hid hzl
                clear hzl
                have hbQ : (wr.alloc (.cells #[.int .i64 n, .int .i64 b, .int .i64 k, .int .i64 0] 103)).heap[wr.heap.size]? = some (.cells #[.int .i64 n, .int .i64 b, .int .i64 k, .int .i64 0] 103 (0, 0)) := heap_alloc_new _ _
                have hzQ : (wr.alloc (.cells #[.int .i64 n, .int .i64 b, .int .i64 k, .int .i64 0] 103)).heap.size = wr.heap.size + 1 := by simp
                have HBQ := Lib.hid (hbel.out.alloc (Nat.le_of_lt hPr) (.cells #[.int .i64 n, .int .i64 b, .int .i64 k, .int .i64 0] 103))
                have hblQ := blk_old4 (o' := .cells #[.int .i64 n, .int .i64 b, .int .i64 k, .int .i64 0] 103) hblk.out
                go_wp2_with fail
                obtain ⟨Q, hQ⟩ : ∃ Q, Q = wr.heap.size := ⟨_, rfl⟩
                rw [← hQ] at hbQ hzQ ⊢
                generalize wr.alloc (.cells #[.int .i64 n, .int .i64 b, .int .i64 k, .int .i64 0] 103) = W1 at *
                have hPlQ : P < Q := by omega
                clear hQ hPr hbs
                refine (HTN.out _ (HRX.out _ HBQ.out)).mono ?_
                rintro e w2 ⟨rfl, b2⟩
                have hq2 := (b2.block Q (by omega)).trans hbQ
                have hp2 := (b2.block P (by omega)).trans hblQ
                have HB2 := Lib.hid (HBQ.out.trans (b2.mono (by omega)))
                have hPQ : Q ≠ P := by omega
                have hQl2 : Q < w2.heap.size := by have := b2.size; omega
                have x3 := cell_of_row _ Q 3 _ _ _ hq2
                have m3 := frozen_of_row _ Q 3 _ _ hq2
                have HQ3 := Lib.hid (blk_put1 hq2 (.int .i64 TT))
                have HP3 := Lib.hid (blk_other (i := 3) hp2 hPQ (.int .i64 TT))
                have HB3 := Lib.hid (below_setX HB2.out (by omega : P ≤ Q) 3 (.int .i64 TT))
                have HZ3 : Hid ((w2.setCell ⟨Q, 3, none⟩ (.int .i64 TT)).heap.size = w2.heap.size) := Lib.hid (Go.Deep.nblk_setCell _ _ _)
                clear hbQ hblQ b2 hq2 hp2 hzQ
                go_upto_region 15 with fail
                generalize w2.setCell ⟨Q, 3, none⟩ (.int .i64 TT) = W3 at *
                have hq3 := HQ3.out
                have hp3 := HP3.out
                have hz3 := HZ3.out
                have y0 := cell_of_row _ Q 0 _ _ _ hq3
                have y1 := cell_of_row _ Q 1 _ _ _ hq3
                have y2 := cell_of_row _ Q 2 _ _ _ hq3
                have y3 := cell_of_row _ Q 3 _ _ _ hq3
                obtain ⟨v0, v1, v2, v3⟩ := HPB.out _ HB3.out
                clear x3 m3
                go_wp2_with fail
                refine (HPO.out _).mono ?_
                rintro e w4 ⟨rfl, b4⟩
                have hq4 := (b4.block Q (by omega)).trans hq3
                have hp4 := (b4.block P (by omega)).trans hp3
                have HB4 := Lib.hid (HB3.out.trans (b4.mono (by omega)))
                clear y0 y1 y2 y3 v0 v1 v2 v3 b4 hq3 hp3
                have y0 := cell_of_row _ Q 0 _ _ _ hq4
                have y1 := cell_of_row _ Q 1 _ _ _ hq4
                have y2 := cell_of_row _ Q 2 _ _ _ hq4
                have y3 := cell_of_row _ Q 3 _ _ _ hq4
                have x0 := cell_of_row _ P 0 _ _ _ hp4
                have x1 := cell_of_row _ P 1 _ _ _ hp4
                have x2 := cell_of_row _ P 2 _ _ _ hp4
                have x3 := cell_of_row _ P 3 _ _ _ hp4
                have n0 := frozen_of_row _ P 0 _ _ hp4
                have n1 := frozen_of_row _ P 1 _ _ hp4
                have n2 := frozen_of_row _ P 2 _ _ hp4
                have n3 := frozen_of_row _ P 3 _ _ hp4
                have HPN := Lib.hid (blk_put4 hp4 (.int .i64 n) (.int .i64 b) (.int .i64 k) (.int .i64 TT))
                have HP4 := Lib.hid hp4
                have HBN := Lib.hid (below_setX (below_setX (below_setX (below_setX HB4.out (Nat.le_refl P) 0 (.int .i64 n)) (Nat.le_refl P) 1 (.int .i64 b)) (Nat.le_refl P) 2 (.int .i64 k)) (Nat.le_refl P) 3 (.int .i64 TT))
                clear hq4 hp4 hz3
                by_cases hl : zl < 0
                · have HE := Lib.hid (HUY.out (.inl hl))
                  have l1 : decide (zl < 0) = true := by simpa using hl
                  clear hl
                  go_wp2
                  go_roundw
                  case rel => exact ⟨k + 1, by (have := HLK.out; omega), by go_num, by rw [HST.out, HE.out], by rw [HST.out, HE.out]; exact HPN, HBN⟩
                  case measure => have := HLK.out; simp [intOf]; omega
                · have l1 : decide (zl < 0) = false := by simpa using hl
                  by_cases hl2 : CC < zl
                  · have HE := Lib.hid (HUY.out (.inr hl2))
                    have l2 : decide (CC < zl) = true := by simpa using hl2
                    clear hl hl2
                    go_wp2
                    go_roundw
                    case rel => exact ⟨k + 1, by (have := HLK.out; omega), by go_num, by rw [HST.out, HE.out], by rw [HST.out, HE.out]; exact HPN, HBN⟩
                    case measure => have := HLK.out; simp [intOf]; omega
                  · have HE := Lib.hid (HUN.out (fun h => h.elim hl hl2))
                    have l2 : decide (CC < zl) = false := by simpa using hl2
                    clear hl hl2
                    go_wp2
                    go_roundw
                    case rel => exact ⟨k + 1, by (have := HLK.out; omega), by go_num, by rw [HST.out, HE.out, HZL.out], by rw [HST.out, HE.out]; exact HP4, HB4⟩
                    case measure => have := HLK.out; simp [intOf]; omega
              · have HE : Hid (chB 21 p u v n Z1 (b + 1) = chD p u v n b Z2 k) := Lib.hid (by rw [HZ2.out, show k = 21 by (have := Hk21.out; omega)])
                generalize chD p u v n b Z2 k = Z3 at *
                have sk1 : IntKind.i64.wrap ((k : Int) + 1) = (k : Int) + 1 := IntWalk.i64_in _ (by (have := Hk21.out; omega))
                have lk1 : decide ((k : Int) < 21) = false := by simp; omega
                clear hlk
                go_wp2
                go_roundw
                case rel => exact ⟨b + 1, by (have := HLB.out; omega), by go_num, by rw [HE.out], by rw [HE.out]; exact hblk, hbel⟩
                case measure => have := HLB.out; simp [intOf]; omega
          · have HE : Hid (chS 21 p u v (n + 1) = chB 21 p u v n Z1 b) := Lib.hid (by rw [HZ1.out, show b = 21 by (have := Hb21.out; omega)])
            generalize chB 21 p u v n Z1 b = Z2 at *
            have sb1 : IntKind.i64.wrap ((b : Int) + 1) = (b : Int) + 1 := IntWalk.i64_in _ (by (have := Hb21.out; omega))
            have lb1 : decide ((b : Int) < 21) = false := by simp; omega
            clear hlb
            go_wp2
            go_roundw
            case rel => exact ⟨n + 1, by (have := HLN.out; omega), by go_num, by rw [HE.out], by rw [HE.out]; exact hblk, hbel⟩
            case measure => have := HLN.out; simp [intOf]; omega
      · have HE : Hid (chZ p u v = chS 21 p u v n) := Lib.hid (by rw [show n = 21 by (have := Hn21.out; omega)]; exact HEQ.out.symm)
        rw [HE.out] at HN
        generalize chS 21 p u v n = Z1 at *
        have sn1 : IntKind.i64.wrap ((n : Int) + 1) = (n : Int) + 1 := IntWalk.i64_in _ (by (have := Hn21.out; omega))
        have ln1 : decide ((n : Int) < 21) = false := by simp; omega
        clear HEQ HE hln
        go_wp2
        go_ret3
        exact ⟨_, 103, ret_viC HN.out.2.symm HK.out.symm, by rw [HN.out.1]; exact own_arr4 hblk.out hwP, T1.out.trans (hbel.out.mono hwP)⟩
  · have HK : Hid (chOk p u v = false) := Lib.hid (by simpa using hall)
    have HN := Lib.hid (ch_no HK.out)
    have HD : Hid ((prcV p && inR u 0 20 && inR v 0 20) = false) := Lib.hid HK.out
    have EP := Lib.hid (fun W => arePrices_c p W)
    have EU := Lib.hid (fun W => within_c u 0 20 W)
    have EV := Lib.hid (fun W => within_c v 0 20 W)
    clear hall
    generalize chOk p u v = CO at *
    generalize prcV p = B1 at *
    generalize inR u 0 20 = B2 at *
    generalize inR v 0 20 = B3 at *
    go_enter Tryd.func36, Tryd.ntmps36
    go_wp2_with fail
    refine (EP.out _).mono ?_
    rintro e w1 ⟨rfl, t1⟩
    have T1 := Lib.hid (((Below.refl w.heap.size w).alloc (Nat.le_refl _) _).trans (t1.mono (by simp)))
    clear t1
    cases B1 with
    | false =>
      go_wp2
      go_ret3
      exact ⟨_, 3, ret_viC HN.out.2.symm HK.out.symm, by rw [HN.out.1]; exact World.ownsRow_made _ #[] 0 T1.out.size (by decide) rfl, T1.out.alloc T1.out.size _⟩
    | true =>
      go_wp2_with fail
      refine (EU.out _).mono ?_
      rintro e w2 ⟨rfl, rfl⟩
      cases B2 with
      | false =>
        go_wp2
        go_ret3
        exact ⟨_, 3, ret_viC HN.out.2.symm HK.out.symm, by rw [HN.out.1]; exact World.ownsRow_made _ #[] 0 T1.out.size (by decide) rfl, T1.out.alloc T1.out.size _⟩
      | true =>
        cases B3 with
        | false =>
          go_wp2_with fail
          refine (EV.out _).mono ?_
          rintro e w3 ⟨rfl, rfl⟩
          go_wp2
          go_ret3
          exact ⟨_, 3, ret_viC HN.out.2.symm HK.out.symm, by rw [HN.out.1]; exact World.ownsRow_made _ #[] 0 T1.out.size (by decide) rfl, T1.out.alloc T1.out.size _⟩
        | true => have := HD.out; cases this
end Go.Proofs.YtpknodbkjjcdjaaDoor
