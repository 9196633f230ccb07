/- The walk of spec.l3Good. Condition: sizes. -/
import Derived.Test.YtiogjocbiagipabDmgMath
namespace Go.Proofs.Ytiogjocbiagipab
open Go.RowKit
set_option linter.unusedVariables false
theorem l2Place_c (x : Int) (w : World) :
    Calls Try.prog 60 #[.int .i64 x] w fun e w' => e = .returned (.bool (inR x 0 3000)) ∧ w' = w := by
  go_enter Try.func60, Try.ntmps60
  go_wp2_with fail
  refine (l1In_c x 0 3000 _).mono ?_
  rintro e w1 ⟨rfl, rfl⟩
  go_wp2
  go_ret
  exact ⟨rfl, rfl⟩
theorem box_k (w : World) (k : RK) (t : TypeId) (W : World) (h : Below (w.heap.size + 1) (w.alloc (.cells #[.int .i64 k.i, .int .i64 k.s, .int .i64 k.w, .int .i64 k.g, .int .i64 k.p] t)) W) :
    W.cell? ⟨w.heap.size, 0, none⟩ = some (.int .i64 k.i) ∧ W.cell? ⟨w.heap.size, 1, none⟩ = some (.int .i64 k.s) ∧ W.cell? ⟨w.heap.size, 2, none⟩ = some (.int .i64 k.w) ∧ W.cell? ⟨w.heap.size, 3, none⟩ = some (.int .i64 k.g) ∧ W.cell? ⟨w.heap.size, 4, none⟩ = some (.int .i64 k.p) := by
  refine ⟨?_, ?_, ?_, ?_, ?_⟩ <;> (rw [h.cell (by simp), World.cell?_alloc_at _ _ _ _ rfl]; rfl)
set_option maxRecDepth 100000 in
set_option maxHeartbeats 4000000 in
theorem l3Good_b (k : RK) (v : Value) (l : List Dmg) (b : Bool) (w : World) (hr : Rs w v l.length (dmgs l)) (hn : l.length ≤ 1048576) (hb : b = true ↔ Good k l) :
    Calls Try.prog 55 #[.agg #[.int .i64 k.i, .int .i64 k.s, .int .i64 k.w, .int .i64 k.g, .int .i64 k.p], v] w fun e w' => e = .returned (.bool b) ∧ Below w.heap.size w w' := by
  have HB := Lib.hid hb
  clear hb
  obtain ⟨ao, a, oa, ca, rfl, hao, hat⟩ := hr.form_Dmg
  have HA := Lib.hid hao
  have HL := Lib.hid hat
  have HK := Lib.hid (box_k w k 25)
  have HS0 := Lib.hid (fun h : isK k = true => isK_strands h)
  obtain ⟨S, hS⟩ : ∃ S, S = IntKind.i64.wrap (k.s - 1) := ⟨_, rfl⟩
  have HSd := Lib.hid hS
  clear hr hao hat hS
  go_enter Try.func55, Try.ntmps55
  go_wp2
  generalize hw1 : w.alloc (.cells #[.int .i64 k.i, .int .i64 k.s, .int .i64 k.w, .int .i64 k.g, .int .i64 k.p] 25) = w1
  have hsz1 : w1.heap.size = w.heap.size + 1 := by rw [← hw1]; simp
  have HW1 : Hid (Below w.heap.size w w1) := Lib.hid (by rw [← hw1]; exact (Below.refl _ _).alloc (Nat.le_refl _) _)
  rw [hw1] at HK
  clear hw1
  go_loopw [5] (fun i wr => ∃ j : Nat, j ≤ l.length ∧ i = .int .i64 j ∧ Hid (Below (w.heap.size + 1) w1 wr) ∧ Hid (∀ i, i < j → DOk S k.w l i)) (fun i _ => l.length - (intOf i).toNat)
  case atStart => exact ⟨0, Nat.zero_le _, rfl, Lib.hid (Below.refl _ _), Lib.hid (fun i hi => by omega)⟩
  case round =>
    obtain ⟨j, hj, rfl, hbl, HO⟩ := hrel
    have hszr := hbl.out.size
    have HE : Hid (∀ W, Below wr.heap.size wr W → Below w.heap.size w W) := Lib.hid (fun W h => HW1.out.trans ((hbl.out.trans (h.mono (by omega))).mono (by omega)))
    by_cases hlt : j < l.length
    · obtain ⟨rfl, hla, hlm⟩ := HA.out (by omega)
      obtain ⟨c0, c1, c2⟩ := (HL.out.below (HE.out _ (Below.refl _ _)) hla) j hlt
      obtain ⟨_, k1, k2, _, _⟩ := HK.out _ hbl.out
      have HN : Hid (¬ DOk S k.w l j → ¬ Good k l) := Lib.hid (fun h g => h (by rw [HSd.out, HS0.out g.kind]; exact g.ok j hlt))
      have hlaw : a < wr.heap.size := by omega
      have hbw : w.heap.size < wr.heap.size := by omega
      have HD : Hid (∀ X Y Z : Bool, X = inR (gth l j).a 0 3000 → Y = inR (gth l j).s 0 S → Z = inR (gth l j).w 1 k.w → (X = false ∨ Y = false ∨ Z = false) → ¬ Good k l) := Lib.hid (fun X Y Z h1 h2 h3 h4 => HN.out (fun ⟨d1, d2, d3, _⟩ => by rw [← h1] at d1; rw [← h2] at d2; rw [← h3] at d3; rcases h4 with h | h | h <;> simp_all))
      have e1 := Lib.hid (fun W => l2Place_c (gth l j).a W)
      have e2 := Lib.hid (fun W => l1In_c (gth l j).s 0 S W)
      have e3 := Lib.hid (fun W => l1In_c (gth l j).w 1 k.w W)
      have HO1 : Hid (inR (gth l j).a 0 3000 = true → inR (gth l j).s 0 S = true → inR (gth l j).w 1 k.w = true → (0 < j → bef (gth l (j - 1)) (gth l j) = true) → ∀ i, i < j + 1 → DOk S k.w l i) := Lib.hid (fun h1 h2 h3 h4 i hi => by
        by_cases e : i = j
        · subst e; exact ⟨h1, h2, h3, h4⟩
        · exact HO.out i (by omega))
      have hb0 := Lib.hid (fun hp : 0 < j => (HL.out.below (HE.out _ (Below.refl _ _)) hla) (j - 1) (by omega))
      have HC := Lib.hid (bef_cases (gth l (j - 1)) (gth l j))
      have HX : Hid ((0 < j → bef (gth l (j - 1)) (gth l j) = false → ¬ Good k l)) := Lib.hid (fun h0 h1 => HN.out (fun ⟨_, _, _, d4⟩ => by rw [d4 h0] at h1; cases h1))
      generalize bef (gth l (j - 1)) (gth l j) = BF at *
      generalize gth l j = D at *
      generalize gth l (j - 1) = E at *
      have HD := Lib.hid (HD.out _ _ _ rfl rfl rfl)
      generalize hB1 : inR D.a 0 3000 = B1 at *
      generalize hB2 : inR D.s 0 S = B2 at *
      generalize hB3 : inR D.w 1 k.w = B3 at *
      clear hB1 hB2 hB3
      have hSw : IntKind.i64.wrap (k.s - 1) = S := HSd.out.symm
      go_wp2_with fail
      refine (e1.out _).mono ?_
      rintro e w2 ⟨rfl, rfl⟩
      cases B1 with
      | false =>
        go_wp2
        go_ret
        exact ⟨ret_b (b_no HB (HD.out (by simp))), HE.out _ ((Below.refl _ _).alloc (Nat.le_refl _) _)⟩
      | true =>
        go_wp2_with fail
        clear hSw
        refine (e2.out _).mono ?_
        rintro e w2 ⟨rfl, rfl⟩
        cases B2 with
        | false =>
          go_wp2
          go_ret
          exact ⟨ret_b (b_no HB (HD.out (by simp))), HE.out _ ((Below.refl _ _).alloc (Nat.le_refl _) _)⟩
        | true =>
          go_wp2_with fail
          refine (e3.out _).mono ?_
          rintro e w2 ⟨rfl, rfl⟩
          cases B3 with
          | false =>
            go_wp2
            go_ret
            exact ⟨ret_b (b_no HB (HD.out (by simp))), HE.out _ ((Below.refl _ _).alloc (Nat.le_refl _) _)⟩
          | true =>
            by_cases hp : 0 < j
            · obtain ⟨q0, q1, q2⟩ := hb0.out hp
              obtain ⟨p1, p2, p3⟩ := pred_in j hp (by omega)
              have hgt : (0 : Int) < (j : Int) := by omega
              clear q2
              rcases HC.out with ⟨hx, hy⟩ | ⟨hx, hz, hy⟩ | ⟨hx, hz, hy⟩ | ⟨hx, hy⟩
              · have t1 : decide (D.a < E.a) = true := by simpa using hx
                go_wp2
                go_quiet (fail)
                clear p1 p3
                go_wp2
                go_ret
                exact ⟨ret_b (b_no HB (HX.out hp hy)), HE.out _ (below_drewN ((Below.refl _ _).alloc (Nat.le_refl _) _) _)⟩
              · have t1 : decide (D.a < E.a) = false := by simp; omega
                have t2 : (E.a == D.a) = true := by simpa using hx
                have t3 : decide (D.s ≤ E.s) = true := by simpa using hz
                go_wp2
                go_quiet (fail)
                clear p1 p3
                go_wp2
                go_ret
                exact ⟨ret_b (b_no HB (HX.out hp hy)), HE.out _ (below_drewN ((Below.refl _ _).alloc (Nat.le_refl _) _) _)⟩
              · have t1 : decide (D.a < E.a) = false := by simp; omega
                have t2 : (E.a == D.a) = true := by simpa using hx
                have t3 : decide (D.s ≤ E.s) = false := by simp; omega
                go_wp2
                go_quiet (fail)
                clear p1 p3
                go_wp2
                go_roundw
                case rel => exact ⟨j + 1, by omega, by go_num, Lib.hid (below_drewN (hbl.out.alloc (by omega) _) _), Lib.hid (HO1.out (by simp) (by simp) (by simp) (fun _ => hy))⟩
                case measure => simp [intOf]; omega
              · have t1 : decide (D.a < E.a) = false := by simp; omega
                have t2 : (E.a == D.a) = false := by rw [beq_eq_false_iff_ne]; omega
                go_wp2
                go_quiet (fail)
                clear p1 p3
                go_wp2
                go_roundw
                case rel => exact ⟨j + 1, by omega, by go_num, Lib.hid (below_drewN (hbl.out.alloc (by omega) _) _), Lib.hid (HO1.out (by simp) (by simp) (by simp) (fun _ => hy))⟩
                case measure => simp [intOf]; omega
            · obtain rfl : j = 0 := by omega
              have hgt : decide ((0 : Int) < ((0 : Nat) : Int)) = false := by simp
              go_wp2
              go_quiet (fail)
              go_wp2
              go_roundw
              case rel => exact ⟨0 + 1, by omega, by go_num, Lib.hid (below_drewN (hbl.out.alloc (by omega) _) _), Lib.hid (HO1.out (by simp) (by simp) (by simp) (fun h => by omega))⟩
              case measure => simp [intOf]; omega
    · obtain rfl : j = l.length := by omega
      obtain ⟨k0, k1, k2, k3, k4⟩ := HK.out _ hbl.out
      have hbw : w.heap.size < wr.heap.size := by omega
      go_wp2_with fail
      refine (l3Kind_c k _).mono ?_
      rintro e w2 ⟨rfl, b2⟩
      cases hk : isK k with
      | false =>
        go_wp2
        go_ret
        exact ⟨ret_b (b_no HB (fun g => by have := g.kind; rw [hk] at this; cases this)), HE.out _ b2⟩
      | true =>
        by_cases h15 : l.length ≤ 15
        · have HG : Hid (Good k l) := Lib.hid ⟨hk, h15, fun i hi => by rw [← HS0.out hk, ← HSd.out]; exact HO.out i hi⟩
          go_wp2
          go_ret
          exact ⟨ret_b (by first | exact b_yes HB HG.out | (rw [← b_yes HB HG.out]; simp; omega)), HE.out _ b2⟩
        · go_wp2
          go_ret
          exact ⟨ret_b (by first | exact b_no HB (fun g => h15 g.len) | (rw [← b_no HB (fun g => h15 g.len)]; simp; omega)), HE.out _ b2⟩
theorem l3Good_c (k : RK) (v : Value) (l : List Dmg) (w : World) (hr : Rs w v l.length (dmgs l)) (hn : l.length ≤ 1048576) :
    Calls Try.prog 55 #[.agg #[.int .i64 k.i, .int .i64 k.s, .int .i64 k.w, .int .i64 k.g, .int .i64 k.p], v] w fun e w' => e = .returned (.bool (good k l)) ∧ Below w.heap.size w w' := l3Good_b k v l _ w hr hn (good_iff k l)
end Go.Proofs.Ytiogjocbiagipab
