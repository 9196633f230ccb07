/- Lists of tickets: the program's and the specification's answer as one function. Condition: sizes. -/
import Derived.Test.YtpknodbkjjcdjaaDoorTikR
import Derived.Test.YtpknodbkjjcdjaaDoorAft
namespace Go.Proofs.YtpknodbkjjcdjaaDoor
open Go.RowKit
set_option linter.unusedVariables false
/-- Ticket i of a list is in order. -/
def TOk (l : List Tik) (i : Nat) : Prop := isT (gth l i) = true ∧ (0 < i → (gth l (i - 1)).i < (gth l i).i)
structure TikV (l : List Tik) : Prop where
  len : l.length ≤ 12
  ok : ∀ i, i < l.length → TOk l i
noncomputable def tikL (l : List Tik) : Bool := @decide (TikV l) (Classical.propDecidable _)
theorem tikL_iff (l : List Tik) : tikL l = true ↔ TikV l := by unfold tikL; simp
theorem tikL_yes {l : List Tik} (h : tikL l = true) : TikV l := (tikL_iff l).1 h
theorem tb_no {b : Bool} {P : Prop} (h : Hid (b = true ↔ P)) (g : ¬ P) : false = b := by
  cases b with
  | false => rfl
  | true => exact absurd (h.out.1 rfl) g
theorem tb_yes {b : Bool} {P : Prop} (h : Hid (b = true ↔ P)) (g : P) : true = b := (h.out.2 g).symm
set_option maxRecDepth 100000 in
set_option maxHeartbeats 4000000 in
theorem l11Good_b (v : Value) (l : List Tik) (b : Bool) (w : World) (hr : Rs w v l.length (tiks l)) (hn : l.length ≤ 2097152) (hb : b = true ↔ TikV l) :
    Calls Tryd.prog 64 #[v] w fun e w' => e = .returned (.bool b) ∧ Below w.heap.size w w' := by
  have HB := Lib.hid hb
  clear hb
  obtain ⟨ao, a, oa, ca, rfl, hao, hat⟩ := hr.form_Tik
  have HA := Lib.hid hao
  have HL := Lib.hid hat
  clear hr hao hat
  go_enter Tryd.func64, Tryd.ntmps64
  go_wp2
  go_loopw [3] (fun i wr => ∃ j : Nat, j ≤ l.length ∧ i = .int .i64 j ∧ Hid (Below w.heap.size w wr) ∧ Hid (∀ i, i < j → TOk l i)) (fun i _ => l.length - (intOf i).toNat)
  case atStart => exact ⟨0, Nat.zero_le _, rfl, Lib.hid (Below.refl _ _), Lib.hid (fun i hi => by omega)⟩
  case round =>
    obtain ⟨j, hj, rfl, hbl, HO⟩ := hrel
    have hszr := hbl.out.size
    by_cases hlt : j < l.length
    · skip
      obtain ⟨rfl, hla, hlm⟩ := HA.out (by omega)
      obtain ⟨c0, c1, c2, c3, c4⟩ := (HL.out.below hbl.out hla) j hlt
      have hlaw : a < wr.heap.size := by omega
      have HD := Lib.hid (l11One_c (gth l j))
      have HN : Hid (¬ TOk l j → ¬ TikV l) := Lib.hid (fun h g => h (g.ok j hlt))
      have HO1 : Hid (isT (gth l j) = true → (0 < j → (gth l (j - 1)).i < (gth l j).i) → ∀ i, i < j + 1 → TOk l i) := Lib.hid (fun h1 h4 i hi => by
        by_cases e : i = j
        · subst e; exact ⟨h1, h4⟩
        · exact HO.out i (by omega))
      have HN1 : Hid (isT (gth l j) = false → ¬ TikV l) := Lib.hid (fun h => HN.out (fun ⟨d, _⟩ => by rw [d] at h; cases h))
      have HX : Hid (0 < j → ¬ (gth l (j - 1)).i < (gth l j).i → ¬ TikV l) := Lib.hid (fun h0 h1 => HN.out (fun ⟨_, d⟩ => h1 (d h0)))
      have hb0 := Lib.hid (fun hp : 0 < j => ((HL.out.below hbl.out hla) (j - 1) (by omega)).1)
      generalize isT (gth l j) = K1 at *
      generalize gth l j = D at *
      generalize (gth l (j - 1)).i = E at *
      by_cases hp : 0 < j
      · obtain q0 := hb0.out hp
        obtain ⟨p1, p2, p3⟩ := pred_in j hp (by omega)
        have hgt : (0 : Int) < (j : Int) := by omega
        cases K1 with
        | false =>
          go_wp2_with fail
          have D0' : ∀ x : Aft wr, x.w.cell? ⟨a, oa + j * 5, none⟩ = some (.int .i64 D.i) := fun x => x.cell c0
          have D1' : ∀ x : Aft wr, x.w.cell? ⟨a, oa + j * 5 + 1, none⟩ = some (.int .i64 D.s) := fun x => x.cell c1
          have D2' : ∀ x : Aft wr, x.w.cell? ⟨a, oa + j * 5 + 2, none⟩ = some (.int .i64 D.w) := fun x => x.cell c2
          have D3' : ∀ x : Aft wr, x.w.cell? ⟨a, oa + j * 5 + 3, none⟩ = some (.int .i64 D.g) := fun x => x.cell c3
          have D4' : ∀ x : Aft wr, x.w.cell? ⟨a, oa + j * 5 + 4, none⟩ = some (.int .i64 D.p) := fun x => x.cell c4
          have Q0' : ∀ x : Aft wr, x.w.cell? ⟨a, oa + (j - 1) * 5, none⟩ = some (.int .i64 E) := fun x => x.cell q0
          clear c0 c1 c2 c3 c4 q0
          refine wp_region_aft (w0 := wr) (by kernel_rfl) (by kernel_rfl) (Below.refl _ _) ?_
          repeat (go_big_quiet_step ((go_at_call 73; exact aft_of (HD.out _))))
          refine wpQuiet_nil ?_
          rintro _ ⟨x, rfl⟩
          clear p1 p3
          go_wp2
          go_ret
          exact ⟨ret_b (tb_no HB (HN1.out (by simp))), hbl.out.trans ((x.below).mono hszr)⟩
        | true =>
          by_cases hx : E < D.i
          · have t1 : decide (D.i ≤ E) = false := by simp; omega
            go_wp2_with fail
            have D0' : ∀ x : Aft wr, x.w.cell? ⟨a, oa + j * 5, none⟩ = some (.int .i64 D.i) := fun x => x.cell c0
            have D1' : ∀ x : Aft wr, x.w.cell? ⟨a, oa + j * 5 + 1, none⟩ = some (.int .i64 D.s) := fun x => x.cell c1
            have D2' : ∀ x : Aft wr, x.w.cell? ⟨a, oa + j * 5 + 2, none⟩ = some (.int .i64 D.w) := fun x => x.cell c2
            have D3' : ∀ x : Aft wr, x.w.cell? ⟨a, oa + j * 5 + 3, none⟩ = some (.int .i64 D.g) := fun x => x.cell c3
            have D4' : ∀ x : Aft wr, x.w.cell? ⟨a, oa + j * 5 + 4, none⟩ = some (.int .i64 D.p) := fun x => x.cell c4
            have Q0' : ∀ x : Aft wr, x.w.cell? ⟨a, oa + (j - 1) * 5, none⟩ = some (.int .i64 E) := fun x => x.cell q0
            clear c0 c1 c2 c3 c4 q0
            refine wp_region_aft (w0 := wr) (by kernel_rfl) (by kernel_rfl) (Below.refl _ _) ?_
            repeat (go_big_quiet_step ((go_at_call 73; exact aft_of (HD.out _))))
            refine wpQuiet_nil ?_
            rintro _ ⟨x, rfl⟩
            clear p1 p3
            go_wp2
            go_roundw
            case rel => exact ⟨j + 1, by omega, by go_num, Lib.hid (hbl.out.trans ((x.below).mono hszr)), Lib.hid (HO1.out (by simp) (fun _ => hx))⟩
            case measure => simp [intOf]; omega
          · have t1 : decide (D.i ≤ E) = true := by simp; omega
            have HXX := Lib.hid (HX.out hp hx)
            go_wp2_with fail
            have D0' : ∀ x : Aft wr, x.w.cell? ⟨a, oa + j * 5, none⟩ = some (.int .i64 D.i) := fun x => x.cell c0
            have D1' : ∀ x : Aft wr, x.w.cell? ⟨a, oa + j * 5 + 1, none⟩ = some (.int .i64 D.s) := fun x => x.cell c1
            have D2' : ∀ x : Aft wr, x.w.cell? ⟨a, oa + j * 5 + 2, none⟩ = some (.int .i64 D.w) := fun x => x.cell c2
            have D3' : ∀ x : Aft wr, x.w.cell? ⟨a, oa + j * 5 + 3, none⟩ = some (.int .i64 D.g) := fun x => x.cell c3
            have D4' : ∀ x : Aft wr, x.w.cell? ⟨a, oa + j * 5 + 4, none⟩ = some (.int .i64 D.p) := fun x => x.cell c4
            have Q0' : ∀ x : Aft wr, x.w.cell? ⟨a, oa + (j - 1) * 5, none⟩ = some (.int .i64 E) := fun x => x.cell q0
            clear c0 c1 c2 c3 c4 q0
            refine wp_region_aft (w0 := wr) (by kernel_rfl) (by kernel_rfl) (Below.refl _ _) ?_
            repeat (go_big_quiet_step ((go_at_call 73; exact aft_of (HD.out _))))
            refine wpQuiet_nil ?_
            rintro _ ⟨x, rfl⟩
            clear p1 p3
            go_wp2
            go_ret
            exact ⟨ret_b (tb_no HB (HXX.out)), hbl.out.trans ((x.below).mono hszr)⟩
      · obtain rfl : j = 0 := by omega
        have hgt : decide ((0 : Int) < ((0 : Nat) : Int)) = false := by simp
        simp only [Nat.zero_mul, Nat.add_zero] at c0 c1 c2 c3 c4
        cases K1 with
        | false =>
          go_wp2_with fail
          have D0' : ∀ x : Aft wr, x.w.cell? ⟨a, oa, none⟩ = some (.int .i64 D.i) := fun x => x.cell c0
          have D1' : ∀ x : Aft wr, x.w.cell? ⟨a, oa + 1, none⟩ = some (.int .i64 D.s) := fun x => x.cell c1
          have D2' : ∀ x : Aft wr, x.w.cell? ⟨a, oa + 2, none⟩ = some (.int .i64 D.w) := fun x => x.cell c2
          have D3' : ∀ x : Aft wr, x.w.cell? ⟨a, oa + 3, none⟩ = some (.int .i64 D.g) := fun x => x.cell c3
          have D4' : ∀ x : Aft wr, x.w.cell? ⟨a, oa + 4, none⟩ = some (.int .i64 D.p) := fun x => x.cell c4
          clear c0 c1 c2 c3 c4
          refine wp_region_aft (w0 := wr) (by kernel_rfl) (by kernel_rfl) (Below.refl _ _) ?_
          repeat (go_big_quiet_step ((go_at_call 73; exact aft_of (HD.out _))))
          refine wpQuiet_nil ?_
          rintro _ ⟨x, rfl⟩
          go_wp2
          go_ret
          exact ⟨ret_b (tb_no HB (HN1.out (by simp))), hbl.out.trans ((x.below).mono hszr)⟩
        | true =>
          go_wp2_with fail
          have D0' : ∀ x : Aft wr, x.w.cell? ⟨a, oa, none⟩ = some (.int .i64 D.i) := fun x => x.cell c0
          have D1' : ∀ x : Aft wr, x.w.cell? ⟨a, oa + 1, none⟩ = some (.int .i64 D.s) := fun x => x.cell c1
          have D2' : ∀ x : Aft wr, x.w.cell? ⟨a, oa + 2, none⟩ = some (.int .i64 D.w) := fun x => x.cell c2
          have D3' : ∀ x : Aft wr, x.w.cell? ⟨a, oa + 3, none⟩ = some (.int .i64 D.g) := fun x => x.cell c3
          have D4' : ∀ x : Aft wr, x.w.cell? ⟨a, oa + 4, none⟩ = some (.int .i64 D.p) := fun x => x.cell c4
          clear c0 c1 c2 c3 c4
          refine wp_region_aft (w0 := wr) (by kernel_rfl) (by kernel_rfl) (Below.refl _ _) ?_
          repeat (go_big_quiet_step ((go_at_call 73; exact aft_of (HD.out _))))
          refine wpQuiet_nil ?_
          rintro _ ⟨x, rfl⟩
          go_wp2
          go_roundw
          case rel => exact ⟨0 + 1, by omega, by go_num, Lib.hid (hbl.out.trans ((x.below).mono hszr)), Lib.hid (HO1.out (by simp) (fun h => by omega))⟩
          case measure => simp [intOf]; omega
    · obtain rfl : j = l.length := by omega
      by_cases h6 : l.length ≤ 12
      · go_wp2
        go_ret
        exact ⟨ret_b (by rw [← tb_yes HB ⟨h6, fun i hi => HO.out i hi⟩]; simp; omega), hbl.out⟩
      · go_wp2
        go_ret
        exact ⟨ret_b (by rw [← tb_no HB (fun g => h6 g.len)]; simp; omega), hbl.out⟩
/- ASC -/
set_option maxHeartbeats 1000000 in
theorem keyTik_c (a b c d e : Int) (w : World) :
    Calls Tryd.prog 70 #[.agg #[.int .i64 a, .int .i64 b, .int .i64 c, .int .i64 d, .int .i64 e]] w fun e' w' => e' = .returned (.int .i64 a) ∧ Below w.heap.size w w' := by
  go_enter Tryd.func70, Tryd.ntmps70
  go_wp2
  go_ret
  exact ⟨rfl, (Below.refl _ _).alloc (Nat.le_refl _) _⟩
set_option maxRecDepth 100000 in
set_option maxHeartbeats 4000000 in
theorem ascTik_b (v : Value) (l : List Tik) (b : Bool) (w : World) (hr : Rs w v l.length (tiks l)) (hn : l.length ≤ 2097152) (hb : b = true ↔ TikV l) (hT : RulP w) :
    Calls Tryd.prog 69 #[v, .int .i64 12, .func (.func 33) #[] #[], .func (.func 70) #[] #[]] w fun e w' => e = .returned (.bool b) ∧ Below w.heap.size w w' := by
  have HB := Lib.hid hb
  have HTT := Lib.hid hT
  clear hb hT
  obtain ⟨ao, a, oa, ca, rfl, hao, hat⟩ := hr.form_Tik
  have HA := Lib.hid hao
  have HL := Lib.hid hat
  clear hr hao hat
  by_cases h6 : l.length ≤ 12
  · skip
    go_enter Tryd.func69, Tryd.ntmps69
    go_wp2
    go_loopw [17] (fun i wr => ∃ j : Nat, j ≤ l.length ∧ i = .int .i64 j ∧ Hid (Below w.heap.size w wr) ∧ Hid (∀ i, i < j → TOk l i)) (fun i _ => l.length - (intOf i).toNat)
    case atStart => exact ⟨0, Nat.zero_le _, rfl, Lib.hid (Below.refl _ _), Lib.hid (fun i hi => by omega)⟩
    case round =>
      obtain ⟨j, hj, rfl, hbl, HO⟩ := hrel
      have hszr := hbl.out.size
      by_cases hlt : j < l.length
      · skip
        obtain ⟨rfl, hla, hlm⟩ := HA.out (by omega)
        obtain ⟨c0, c1, c2, c3, c4⟩ := (HL.out.below hbl.out hla) j hlt
        have hlaw : a < wr.heap.size := by omega
        have HD := Lib.hid (fun W (h : RulP W) => implIsTicket_c (gth l j) W h)
        have HN : Hid (¬ TOk l j → ¬ TikV l) := Lib.hid (fun h g => h (g.ok j hlt))
        have HO1 : Hid (isT (gth l j) = true → (0 < j → (gth l (j - 1)).i < (gth l j).i) → ∀ i, i < j + 1 → TOk l i) := Lib.hid (fun h1 h4 i hi => by
          by_cases e : i = j
          · subst e; exact ⟨h1, h4⟩
          · exact HO.out i (by omega))
        have HN1 : Hid (isT (gth l j) = false → ¬ TikV l) := Lib.hid (fun h => HN.out (fun ⟨d, _⟩ => by rw [d] at h; cases h))
        have HX : Hid (0 < j → ¬ (gth l (j - 1)).i < (gth l j).i → ¬ TikV l) := Lib.hid (fun h0 h1 => HN.out (fun ⟨_, d⟩ => h1 (d h0)))
        have hb0 := Lib.hid (fun hp : 0 < j => (HL.out.below hbl.out hla) (j - 1) (by omega))
        generalize isT (gth l j) = K1 at *
        generalize gth l j = D at *
        generalize gth l (j - 1) = E at *
        by_cases hp : 0 < j
        · obtain ⟨q0, q1, q2, q3, q4⟩ := hb0.out hp
          obtain ⟨p1, p2, p3⟩ := pred_in j hp (by omega)
          have hgt : (0 : Int) < (j : Int) := by omega
          cases K1 with
          | false =>
            go_wp2_with fail
            generalize hW0 : wr.alloc (.cells #[.int .i64 D.i, .int .i64 D.s, .int .i64 D.w, .int .i64 D.g, .int .i64 D.p] 31) = W0 at *
            have hsW : W0.heap.size = wr.heap.size + 1 := by rw [← hW0]; simp
            have HWB : Hid (Below wr.heap.size wr W0) := Lib.hid (by rw [← hW0]; exact (Below.refl _ _).alloc (Nat.le_refl _) _)
            have d := box_Tik wr D 31 _ rfl W0 (by rw [← hW0]; exact Below.refl _ _)
            clear hW0
            have D0' : ∀ x : Aft W0, x.w.cell? ⟨wr.heap.size, 0, none⟩ = some (.int .i64 D.i) := fun x => x.cell d.1
            have D1' : ∀ x : Aft W0, x.w.cell? ⟨wr.heap.size, 1, none⟩ = some (.int .i64 D.s) := fun x => x.cell d.2.1
            have D2' : ∀ x : Aft W0, x.w.cell? ⟨wr.heap.size, 2, none⟩ = some (.int .i64 D.w) := fun x => x.cell d.2.2.1
            have D3' : ∀ x : Aft W0, x.w.cell? ⟨wr.heap.size, 3, none⟩ = some (.int .i64 D.g) := fun x => x.cell d.2.2.2.1
            have D4' : ∀ x : Aft W0, x.w.cell? ⟨wr.heap.size, 4, none⟩ = some (.int .i64 D.p) := fun x => x.cell d.2.2.2.2
            have Q0' : ∀ x : Aft W0, x.w.cell? ⟨a, oa + (j - 1) * 5, none⟩ = some (.int .i64 E.i) := fun x => x.cell ((HWB.out.cell (p := ⟨a, oa + (j - 1) * 5, none⟩) hlaw).trans q0)
            have Q1' : ∀ x : Aft W0, x.w.cell? ⟨a, oa + (j - 1) * 5 + 1, none⟩ = some (.int .i64 E.s) := fun x => x.cell ((HWB.out.cell (p := ⟨a, oa + (j - 1) * 5 + 1, none⟩) hlaw).trans q1)
            have Q2' : ∀ x : Aft W0, x.w.cell? ⟨a, oa + (j - 1) * 5 + 2, none⟩ = some (.int .i64 E.w) := fun x => x.cell ((HWB.out.cell (p := ⟨a, oa + (j - 1) * 5 + 2, none⟩) hlaw).trans q2)
            have Q3' : ∀ x : Aft W0, x.w.cell? ⟨a, oa + (j - 1) * 5 + 3, none⟩ = some (.int .i64 E.g) := fun x => x.cell ((HWB.out.cell (p := ⟨a, oa + (j - 1) * 5 + 3, none⟩) hlaw).trans q3)
            have Q4' : ∀ x : Aft W0, x.w.cell? ⟨a, oa + (j - 1) * 5 + 4, none⟩ = some (.int .i64 E.p) := fun x => x.cell ((HWB.out.cell (p := ⟨a, oa + (j - 1) * 5 + 4, none⟩) hlaw).trans q4)
            clear d c0 c1 c2 c3 c4 q0 q1 q2 q3 q4
            have HT0 : Hid (∀ x : Aft W0, RulP x.w) := Lib.hid (fun x => ((HTT.out.below hbl.out).below HWB.out).below x.below)
            refine wp_region_aft (w0 := W0) (by kernel_rfl) (by kernel_rfl) (Below.refl _ _) ?_
            repeat (go_big_quiet_step (first | (go_at_call 33; exact aft_of (HD.out _ (HT0.out _))) | (go_at_call 70; exact aft_of (keyTik_c _ _ _ _ _ _)) | fail))
            refine wpQuiet_nil ?_
            rintro _ ⟨x, rfl⟩
            clear p1 p3
            go_wp2
            go_ret
            exact ⟨ret_b (tb_no HB (HN1.out (by simp))), hbl.out.trans ((HWB.out.trans (x.below.mono HWB.out.size)).mono hszr)⟩
          | true =>
            by_cases hx : E.i < D.i
            · have t1 : decide (D.i ≤ E.i) = false := by simp; omega
              go_wp2_with fail
              generalize hW0 : wr.alloc (.cells #[.int .i64 D.i, .int .i64 D.s, .int .i64 D.w, .int .i64 D.g, .int .i64 D.p] 31) = W0 at *
              have hsW : W0.heap.size = wr.heap.size + 1 := by rw [← hW0]; simp
              have HWB : Hid (Below wr.heap.size wr W0) := Lib.hid (by rw [← hW0]; exact (Below.refl _ _).alloc (Nat.le_refl _) _)
              have d := box_Tik wr D 31 _ rfl W0 (by rw [← hW0]; exact Below.refl _ _)
              clear hW0
              have D0' : ∀ x : Aft W0, x.w.cell? ⟨wr.heap.size, 0, none⟩ = some (.int .i64 D.i) := fun x => x.cell d.1
              have D1' : ∀ x : Aft W0, x.w.cell? ⟨wr.heap.size, 1, none⟩ = some (.int .i64 D.s) := fun x => x.cell d.2.1
              have D2' : ∀ x : Aft W0, x.w.cell? ⟨wr.heap.size, 2, none⟩ = some (.int .i64 D.w) := fun x => x.cell d.2.2.1
              have D3' : ∀ x : Aft W0, x.w.cell? ⟨wr.heap.size, 3, none⟩ = some (.int .i64 D.g) := fun x => x.cell d.2.2.2.1
              have D4' : ∀ x : Aft W0, x.w.cell? ⟨wr.heap.size, 4, none⟩ = some (.int .i64 D.p) := fun x => x.cell d.2.2.2.2
              have Q0' : ∀ x : Aft W0, x.w.cell? ⟨a, oa + (j - 1) * 5, none⟩ = some (.int .i64 E.i) := fun x => x.cell ((HWB.out.cell (p := ⟨a, oa + (j - 1) * 5, none⟩) hlaw).trans q0)
              have Q1' : ∀ x : Aft W0, x.w.cell? ⟨a, oa + (j - 1) * 5 + 1, none⟩ = some (.int .i64 E.s) := fun x => x.cell ((HWB.out.cell (p := ⟨a, oa + (j - 1) * 5 + 1, none⟩) hlaw).trans q1)
              have Q2' : ∀ x : Aft W0, x.w.cell? ⟨a, oa + (j - 1) * 5 + 2, none⟩ = some (.int .i64 E.w) := fun x => x.cell ((HWB.out.cell (p := ⟨a, oa + (j - 1) * 5 + 2, none⟩) hlaw).trans q2)
              have Q3' : ∀ x : Aft W0, x.w.cell? ⟨a, oa + (j - 1) * 5 + 3, none⟩ = some (.int .i64 E.g) := fun x => x.cell ((HWB.out.cell (p := ⟨a, oa + (j - 1) * 5 + 3, none⟩) hlaw).trans q3)
              have Q4' : ∀ x : Aft W0, x.w.cell? ⟨a, oa + (j - 1) * 5 + 4, none⟩ = some (.int .i64 E.p) := fun x => x.cell ((HWB.out.cell (p := ⟨a, oa + (j - 1) * 5 + 4, none⟩) hlaw).trans q4)
              clear d c0 c1 c2 c3 c4 q0 q1 q2 q3 q4
              have HT0 : Hid (∀ x : Aft W0, RulP x.w) := Lib.hid (fun x => ((HTT.out.below hbl.out).below HWB.out).below x.below)
              refine wp_region_aft (w0 := W0) (by kernel_rfl) (by kernel_rfl) (Below.refl _ _) ?_
              repeat (go_big_quiet_step (first | (go_at_call 33; exact aft_of (HD.out _ (HT0.out _))) | (go_at_call 70; exact aft_of (keyTik_c _ _ _ _ _ _)) | fail))
              refine wpQuiet_nil ?_
              rintro _ ⟨x, rfl⟩
              clear p1 p3
              go_wp2
              go_roundw
              case rel => exact ⟨j + 1, by omega, by go_num, Lib.hid (hbl.out.trans ((HWB.out.trans (x.below.mono HWB.out.size)).mono hszr)), Lib.hid (HO1.out (by simp) (fun _ => hx))⟩
              case measure => simp [intOf]; omega
            · have t1 : decide (D.i ≤ E.i) = true := by simp; omega
              have HXX := Lib.hid (HX.out hp hx)
              go_wp2_with fail
              generalize hW0 : wr.alloc (.cells #[.int .i64 D.i, .int .i64 D.s, .int .i64 D.w, .int .i64 D.g, .int .i64 D.p] 31) = W0 at *
              have hsW : W0.heap.size = wr.heap.size + 1 := by rw [← hW0]; simp
              have HWB : Hid (Below wr.heap.size wr W0) := Lib.hid (by rw [← hW0]; exact (Below.refl _ _).alloc (Nat.le_refl _) _)
              have d := box_Tik wr D 31 _ rfl W0 (by rw [← hW0]; exact Below.refl _ _)
              clear hW0
              have D0' : ∀ x : Aft W0, x.w.cell? ⟨wr.heap.size, 0, none⟩ = some (.int .i64 D.i) := fun x => x.cell d.1
              have D1' : ∀ x : Aft W0, x.w.cell? ⟨wr.heap.size, 1, none⟩ = some (.int .i64 D.s) := fun x => x.cell d.2.1
              have D2' : ∀ x : Aft W0, x.w.cell? ⟨wr.heap.size, 2, none⟩ = some (.int .i64 D.w) := fun x => x.cell d.2.2.1
              have D3' : ∀ x : Aft W0, x.w.cell? ⟨wr.heap.size, 3, none⟩ = some (.int .i64 D.g) := fun x => x.cell d.2.2.2.1
              have D4' : ∀ x : Aft W0, x.w.cell? ⟨wr.heap.size, 4, none⟩ = some (.int .i64 D.p) := fun x => x.cell d.2.2.2.2
              have Q0' : ∀ x : Aft W0, x.w.cell? ⟨a, oa + (j - 1) * 5, none⟩ = some (.int .i64 E.i) := fun x => x.cell ((HWB.out.cell (p := ⟨a, oa + (j - 1) * 5, none⟩) hlaw).trans q0)
              have Q1' : ∀ x : Aft W0, x.w.cell? ⟨a, oa + (j - 1) * 5 + 1, none⟩ = some (.int .i64 E.s) := fun x => x.cell ((HWB.out.cell (p := ⟨a, oa + (j - 1) * 5 + 1, none⟩) hlaw).trans q1)
              have Q2' : ∀ x : Aft W0, x.w.cell? ⟨a, oa + (j - 1) * 5 + 2, none⟩ = some (.int .i64 E.w) := fun x => x.cell ((HWB.out.cell (p := ⟨a, oa + (j - 1) * 5 + 2, none⟩) hlaw).trans q2)
              have Q3' : ∀ x : Aft W0, x.w.cell? ⟨a, oa + (j - 1) * 5 + 3, none⟩ = some (.int .i64 E.g) := fun x => x.cell ((HWB.out.cell (p := ⟨a, oa + (j - 1) * 5 + 3, none⟩) hlaw).trans q3)
              have Q4' : ∀ x : Aft W0, x.w.cell? ⟨a, oa + (j - 1) * 5 + 4, none⟩ = some (.int .i64 E.p) := fun x => x.cell ((HWB.out.cell (p := ⟨a, oa + (j - 1) * 5 + 4, none⟩) hlaw).trans q4)
              clear d c0 c1 c2 c3 c4 q0 q1 q2 q3 q4
              have HT0 : Hid (∀ x : Aft W0, RulP x.w) := Lib.hid (fun x => ((HTT.out.below hbl.out).below HWB.out).below x.below)
              refine wp_region_aft (w0 := W0) (by kernel_rfl) (by kernel_rfl) (Below.refl _ _) ?_
              repeat (go_big_quiet_step (first | (go_at_call 33; exact aft_of (HD.out _ (HT0.out _))) | (go_at_call 70; exact aft_of (keyTik_c _ _ _ _ _ _)) | fail))
              refine wpQuiet_nil ?_
              rintro _ ⟨x, rfl⟩
              clear p1 p3
              go_wp2
              go_ret
              exact ⟨ret_b (tb_no HB HXX.out), hbl.out.trans ((HWB.out.trans (x.below.mono HWB.out.size)).mono hszr)⟩
        · obtain rfl : j = 0 := by omega
          have hgt : decide ((0 : Int) < ((0 : Nat) : Int)) = false := by simp
          simp only [Nat.zero_mul, Nat.add_zero] at c0 c1 c2 c3 c4
          cases K1 with
          | false =>
            go_wp2_with fail
            generalize hW0 : wr.alloc (.cells #[.int .i64 D.i, .int .i64 D.s, .int .i64 D.w, .int .i64 D.g, .int .i64 D.p] 31) = W0 at *
            have hsW : W0.heap.size = wr.heap.size + 1 := by rw [← hW0]; simp
            have HWB : Hid (Below wr.heap.size wr W0) := Lib.hid (by rw [← hW0]; exact (Below.refl _ _).alloc (Nat.le_refl _) _)
            have d := box_Tik wr D 31 _ rfl W0 (by rw [← hW0]; exact Below.refl _ _)
            clear hW0
            have D0' : ∀ x : Aft W0, x.w.cell? ⟨wr.heap.size, 0, none⟩ = some (.int .i64 D.i) := fun x => x.cell d.1
            have D1' : ∀ x : Aft W0, x.w.cell? ⟨wr.heap.size, 1, none⟩ = some (.int .i64 D.s) := fun x => x.cell d.2.1
            have D2' : ∀ x : Aft W0, x.w.cell? ⟨wr.heap.size, 2, none⟩ = some (.int .i64 D.w) := fun x => x.cell d.2.2.1
            have D3' : ∀ x : Aft W0, x.w.cell? ⟨wr.heap.size, 3, none⟩ = some (.int .i64 D.g) := fun x => x.cell d.2.2.2.1
            have D4' : ∀ x : Aft W0, x.w.cell? ⟨wr.heap.size, 4, none⟩ = some (.int .i64 D.p) := fun x => x.cell d.2.2.2.2
            clear d c0 c1 c2 c3 c4
            have HT0 : Hid (∀ x : Aft W0, RulP x.w) := Lib.hid (fun x => ((HTT.out.below hbl.out).below HWB.out).below x.below)
            refine wp_region_aft (w0 := W0) (by kernel_rfl) (by kernel_rfl) (Below.refl _ _) ?_
            repeat (go_big_quiet_step (first | (go_at_call 33; exact aft_of (HD.out _ (HT0.out _))) | (go_at_call 70; exact aft_of (keyTik_c _ _ _ _ _ _)) | fail))
            refine wpQuiet_nil ?_
            rintro _ ⟨x, rfl⟩
            go_wp2
            go_ret
            exact ⟨ret_b (tb_no HB (HN1.out (by simp))), hbl.out.trans ((HWB.out.trans (x.below.mono HWB.out.size)).mono hszr)⟩
          | true =>
            go_wp2_with fail
            generalize hW0 : wr.alloc (.cells #[.int .i64 D.i, .int .i64 D.s, .int .i64 D.w, .int .i64 D.g, .int .i64 D.p] 31) = W0 at *
            have hsW : W0.heap.size = wr.heap.size + 1 := by rw [← hW0]; simp
            have HWB : Hid (Below wr.heap.size wr W0) := Lib.hid (by rw [← hW0]; exact (Below.refl _ _).alloc (Nat.le_refl _) _)
            have d := box_Tik wr D 31 _ rfl W0 (by rw [← hW0]; exact Below.refl _ _)
            clear hW0
            have D0' : ∀ x : Aft W0, x.w.cell? ⟨wr.heap.size, 0, none⟩ = some (.int .i64 D.i) := fun x => x.cell d.1
            have D1' : ∀ x : Aft W0, x.w.cell? ⟨wr.heap.size, 1, none⟩ = some (.int .i64 D.s) := fun x => x.cell d.2.1
            have D2' : ∀ x : Aft W0, x.w.cell? ⟨wr.heap.size, 2, none⟩ = some (.int .i64 D.w) := fun x => x.cell d.2.2.1
            have D3' : ∀ x : Aft W0, x.w.cell? ⟨wr.heap.size, 3, none⟩ = some (.int .i64 D.g) := fun x => x.cell d.2.2.2.1
            have D4' : ∀ x : Aft W0, x.w.cell? ⟨wr.heap.size, 4, none⟩ = some (.int .i64 D.p) := fun x => x.cell d.2.2.2.2
            clear d c0 c1 c2 c3 c4
            have HT0 : Hid (∀ x : Aft W0, RulP x.w) := Lib.hid (fun x => ((HTT.out.below hbl.out).below HWB.out).below x.below)
            refine wp_region_aft (w0 := W0) (by kernel_rfl) (by kernel_rfl) (Below.refl _ _) ?_
            repeat (go_big_quiet_step (first | (go_at_call 33; exact aft_of (HD.out _ (HT0.out _))) | (go_at_call 70; exact aft_of (keyTik_c _ _ _ _ _ _)) | fail))
            refine wpQuiet_nil ?_
            rintro _ ⟨x, rfl⟩
            go_wp2
            go_roundw
            case rel => exact ⟨0 + 1, by omega, by go_num, Lib.hid (hbl.out.trans ((HWB.out.trans (x.below.mono HWB.out.size)).mono hszr)), Lib.hid (HO1.out (by simp) (fun h => by omega))⟩
            case measure => simp [intOf]; omega
      · obtain rfl : j = l.length := by omega
        go_wp2
        go_ret
        exact ⟨ret_b (tb_yes HB ⟨h6, fun i hi => HO.out i hi⟩), hbl.out⟩
  · skip
    go_enter Tryd.func69, Tryd.ntmps69
    go_wp2
    go_ret
    exact ⟨ret_b (tb_no HB (fun g => h6 g.len)), Below.refl _ _⟩
set_option maxHeartbeats 1000000 in
theorem AreTickets_b (v : Value) (l : List Tik) (b : Bool) (w : World) (hr : Rs w v l.length (tiks l)) (hn : l.length ≤ 2097152) (hb : b = true ↔ TikV l) (hT : RulP w) :
    Calls Tryd.prog 27 #[v] w fun e w' => e = .returned (.bool b) ∧ Below w.heap.size w w' := by
  have HR := Lib.hid hr
  have HB := Lib.hid hb
  have HTT := Lib.hid hT
  clear hr hb hT
  go_enter Tryd.func27, Tryd.ntmps27
  go_wp2_with fail
  refine (ascTik_b v l b _ HR.out hn HB.out HTT.out).mono ?_
  rintro e w1 ⟨rfl, b1⟩
  go_wp2
  go_ret
  exact ⟨rfl, b1⟩
theorem l11Good_c (v : Value) (l : List Tik) (w : World) (hr : Rs w v l.length (tiks l)) (hn : l.length ≤ 2097152) :
    Calls Tryd.prog 64 #[v] w fun e w' => e = .returned (.bool (tikL l)) ∧ Below w.heap.size w w' := l11Good_b v l _ w hr hn (tikL_iff l)
theorem implAreTickets_d (v : Value) (l : List Tik) (w : World) (hr : Rs w v l.length (tiks l)) (hn : l.length ≤ 2097152) (hT : RulP w) :
    Calls Tryd.prog 27 #[v] w fun e w' => e = .returned (.bool (tikL l)) ∧ Below w.heap.size w w' := AreTickets_b v l _ w hr hn (tikL_iff l) hT
theorem implAreTickets_c (v : Value) (l : List Tik) (w : World) (hr : Rs w v l.length (tiks l)) (hn : l.length ≤ 1048576) (hT : RulP w) :
    Calls Tryd.prog 27 #[v] w fun e w' => e = .returned (.bool (tikL l)) ∧ Below w.heap.size w w' := implAreTickets_d v l w hr (by omega) hT
theorem specAreTickets_c (v : Value) (l : List Tik) (w : World) (hr : Rs w v l.length (tiks l)) (hn : l.length ≤ 1048576) :
    Calls Tryd.prog 46 #[v] w fun e w' => e = .returned (.bool (tikL l)) ∧ Below w.heap.size w w' := by
  have HR := Lib.hid hr
  clear hr
  go_enter Tryd.func46, Tryd.ntmps46
  go_wp2_with fail
  refine (l11Good_c v l _ HR.out (by omega)).mono ?_
  rintro e w1 ⟨rfl, b1⟩
  go_wp2
  go_ret
  exact ⟨rfl, b1⟩
end Go.Proofs.YtpknodbkjjcdjaaDoor
