/- LightestKind: the program's and the specification's answer as one function. Condition: sizes. -/
import Derived.Test.YtiogjocbiagipabKindsW
import Derived.Test.YtiogjocbiagipabWeightC
namespace Go.Proofs.Ytiogjocbiagipab
open Go.RowKit
set_option linter.unusedVariables false
/-- The place of the lightest kind among the first k that carries s, or -1. -/
def bst (l : List RK) (s : Int) : Nat → Int
  | 0 => -1
  | k + 1 => if s ≤ (gth l k).p ∧ (bst l s k < 0 ∨ (gth l k).g < (gth l (bst l s k).toNat).g) then (k : Int) else bst l s k
theorem bst_range (l : List RK) (s : Int) : ∀ k, bst l s k = -1 ∨ (0 ≤ bst l s k ∧ bst l s k < (k : Int))
  | 0 => .inl rfl
  | k + 1 => by
    have ih := bst_range l s k
    rw [bst]
    split
    · right; omega
    · rcases ih with h | h
      · exact .inl h
      · right; omega
theorem bst_nat (l : List RK) (s : Int) (k : Nat) : bst l s k = -1 ∨ ∃ b : Nat, bst l s k = (b : Int) ∧ b < k := by
  rcases bst_range l s k with h | h
  · exact .inl h
  · exact .inr ⟨(bst l s k).toNat, by omega, by omega⟩
noncomputable def liIn (l : List RK) (s : Int) : Bool := kinds l && inR s 1 5000
noncomputable def liOk (l : List RK) (s : Int) : Bool := liIn l s && decide (0 ≤ bst l s l.length)
noncomputable def liV (l : List RK) (s : Int) : Int := if liOk l s then (gth l (bst l s l.length).toNat).i else 0
theorem li_no {l : List RK} {s : Int} (h : liIn l s = false) : liOk l s = false ∧ liV l s = 0 := by
  have : liOk l s = false := by simp [liOk, h]
  exact ⟨this, by simp [liV, this]⟩
theorem li_none {l : List RK} {s : Int} (h : bst l s l.length = -1) : liOk l s = false ∧ liV l s = 0 := by
  have : liOk l s = false := by simp [liOk, h]
  exact ⟨this, by simp [liV, this]⟩
theorem li_yes {l : List RK} {s : Int} {b : Nat} (h : liIn l s = true) (hb : bst l s l.length = (b : Int)) : liOk l s = true ∧ liV l s = (gth l b).i := by
  have : liOk l s = true := by simp [liOk, h, hb]
  exact ⟨this, by simp [liV, this, hb]⟩
/-- One step: taken or not. -/
theorem bst_take {l : List RK} {s : Int} {k : Nat} (h1 : s ≤ (gth l k).p) (h2 : bst l s k = -1 ∨ ∃ b : Nat, bst l s k = (b : Int) ∧ (gth l k).g < (gth l b).g) : bst l s (k + 1) = (k : Int) := by
  rw [bst, if_pos]
  refine ⟨h1, ?_⟩
  rcases h2 with h | ⟨b, h, g⟩
  · left; omega
  · right; rw [h, Int.toNat_natCast]; exact g
theorem bst_keep1 {l : List RK} {s : Int} {k : Nat} (h1 : (gth l k).p < s) : bst l s (k + 1) = bst l s k := by
  rw [bst, if_neg]; omega
theorem bst_keep2 {l : List RK} {s : Int} {k b : Nat} (h : bst l s k = (b : Int)) (g : (gth l b).g ≤ (gth l k).g) : bst l s (k + 1) = bst l s k := by
  rw [bst, if_neg]
  rw [h, Int.toNat_natCast]; omega
set_option maxRecDepth 100000 in
set_option maxHeartbeats 4000000 in
theorem specLightestKind_c (v : Value) (l : List RK) (s : Int) (w : World) (hr : Rs w v l.length (rks l)) (hn : l.length ≤ 1048576) (hw : (Lit.int .i64 s).wf = true) :
    Calls Try.prog 21 #[v, .int .i64 s] w fun e w' => e = .returned (.tuple #[.int .i64 (liV l s), .bool (liOk l s)]) ∧ Below w.heap.size w w' := by
  have E0 := Lib.hid (fun W h => l3Kinds_c v l W h hn)
  have E1 := Lib.hid (fun W => l1In_c s 1 5000 W)
  have hd : liIn l s = (kinds l && inR s 1 5000) := rfl
  have HR := Lib.hid hr
  obtain ⟨ao, a, oa, ca, rfl, hao, hat⟩ := hr.form_RK
  have HA := Lib.hid hao
  have HL := Lib.hid hat
  clear hr hao hat hw
  cases hk : kinds l with
  | false =>
    rw [hk] at E0 hd
    have HD := Lib.hid (li_no (l := l) (s := s) (by rw [hd]; rfl))
    clear hk hd E1
    go_enter Try.func21, Try.ntmps21
    go_wp2_with fail
    refine (E0.out _ HR.out).mono ?_
    rintro e w1 ⟨rfl, b1⟩
    go_wp2
    go_ret2
    exact ⟨ret_p HD.out.2.symm HD.out.1.symm, b1⟩
  | true =>
    cases hm : inR s 1 5000 with
    | false =>
      rw [hk] at E0
      rw [hm] at E1
      rw [hk, hm] at hd
      have HD := Lib.hid (li_no (l := l) (s := s) (by rw [hd]; rfl))
      clear hk hm hd
      go_enter Try.func21, Try.ntmps21
      go_wp2_with fail
      refine (E0.out _ HR.out).mono ?_
      rintro e w1 ⟨rfl, b1⟩
      go_wp2_with fail
      refine (E1.out _).mono ?_
      rintro e w2 ⟨rfl, rfl⟩
      go_wp2
      go_ret2
      exact ⟨ret_p HD.out.2.symm HD.out.1.symm, b1⟩
    | true =>
      rw [hk] at E0
      rw [hm] at E1
      rw [hk, hm] at hd
      have HD : Hid (liIn l s = true) := Lib.hid (by rw [hd]; rfl)
      have h6 := (kinds_yes hk).len
      clear hk hm hd
      go_enter Try.func21, Try.ntmps21
      go_wp2_with fail
      refine (E0.out _ HR.out).mono ?_
      rintro e w1 ⟨rfl, b1⟩
      go_wp2_with fail
      refine (E1.out _).mono ?_
      rintro e w2 ⟨rfl, rfl⟩
      go_wp2
      go_loopw [6, 7] (fun bb i wr => ∃ k : Nat, k ≤ l.length ∧ i = .int .i64 k ∧ bb = .int .i64 (bst l s k) ∧ Hid (Below w.heap.size w wr)) (fun _ i _ => l.length - (intOf i).toNat)
      case atStart => exact ⟨0, Nat.zero_le _, rfl, rfl, Lib.hid b1⟩
      case round =>
        obtain ⟨k, hkl, rfl, rfl, hbl⟩ := hrel
        by_cases hlt : k < l.length
        · obtain ⟨rfl, hla, hlm⟩ := HA.out (by omega)
          obtain ⟨_, _, _, c3, c4⟩ := (HL.out.below hbl.out hla) k hlt
          by_cases h1 : s ≤ (gth l k).p
          · rcases bst_nat l s k with hb | ⟨b, hb, hbk⟩
            · have HS := Lib.hid (bst_take h1 (.inl hb))
              rw [hb]
              have HB := Lib.hid hb
              clear hb
              have t1 : decide (s ≤ (gth l k).p) = true := by simpa using h1
              clear h1
              generalize gth l k = D at *
              go_wp2
              go_quiet (fail)
              go_wp2
              go_roundw
              case rel => exact ⟨k + 1, by omega, by go_num, by rw [HS.out], Lib.hid (below_drewN hbl.out _)⟩
              case measure => simp [intOf]; omega
            · obtain ⟨_, _, _, d3, _⟩ := (HL.out.below hbl.out hla) b (by omega)
              have hbn : b < l.length := by omega
              by_cases h2 : (gth l k).g < (gth l b).g
              · have HS := Lib.hid (bst_take h1 (.inr ⟨b, hb, h2⟩))
                rw [hb]
                clear hb
                have t1 : decide (s ≤ (gth l k).p) = true := by simpa using h1
                have t2 : decide ((gth l k).g < (gth l b).g) = true := by simpa using h2
                have t3 : decide ((b : Int) < 0) = false := by simp
                clear h1 h2
                generalize gth l k = D at *
                generalize gth l b = E at *
                go_wp2
                go_quiet (fail)
                go_wp2
                go_roundw
                case rel => exact ⟨k + 1, by omega, by go_num, by rw [HS.out], Lib.hid (below_drewN hbl.out _)⟩
                case measure => simp [intOf]; omega
              · have HS := Lib.hid ((bst_keep2 hb (by omega)).trans hb)
                rw [hb]
                clear hb
                have t1 : decide (s ≤ (gth l k).p) = true := by simpa using h1
                have t2 : decide ((gth l k).g < (gth l b).g) = false := by simpa using h2
                have t3 : decide ((b : Int) < 0) = false := by simp
                clear h1 h2
                generalize gth l k = D at *
                generalize gth l b = E at *
                go_wp2
                go_quiet (fail)
                go_wp2
                go_roundw
                case rel => exact ⟨k + 1, by omega, by go_num, by rw [HS.out], Lib.hid (below_drewN hbl.out _)⟩
                case measure => simp [intOf]; omega
          · have HS := Lib.hid (bst_keep1 (l := l) (s := s) (k := k) (by omega))
            have t1 : decide (s ≤ (gth l k).p) = false := by simpa using h1
            clear h1 c3
            generalize gth l k = D at *
            generalize bst l s k = X at *
            go_wp2
            go_quiet (fail)
            go_wp2
            go_roundw
            case rel => exact ⟨k + 1, by omega, by go_num, by rw [HS.out], Lib.hid (below_drewN hbl.out _)⟩
            case measure => simp [intOf]; omega
        · obtain rfl : k = l.length := by omega
          rcases bst_nat l s l.length with hb | ⟨b, hb, hbk⟩
          · have HN := Lib.hid (li_none hb)
            rw [hb]
            clear hb
            go_wp2
            go_ret2
            exact ⟨ret_p HN.out.2.symm HN.out.1.symm, hbl.out⟩
          · have HY := Lib.hid (li_yes HD.out hb)
            obtain ⟨rfl, hla, hlm⟩ := HA.out (by omega)
            obtain ⟨d0, _, _, _, _⟩ := (HL.out.below hbl.out hla) b hbk
            rw [hb]
            clear hb
            have t3 : decide ((b : Int) < 0) = false := by simp
            generalize gth l b = E at *
            go_wp2
            go_ret2
            exact ⟨ret_p HY.out.2.symm HY.out.1.symm, hbl.out⟩
theorem box_own_k (w : World) (B : Nat) (hB : B ≤ w.heap.size) (x : RK) (t : TypeId) : (w.alloc (.cells #[.int .i64 x.i, .int .i64 x.s, .int .i64 x.w, .int .i64 x.g, .int .i64 x.p] t)).ownsRow B t 5 (.slice (some ⟨w.heap.size, 0, none⟩) 1 1) 1 (rks [x]) := by
  have := World.ownsRow_lit w #[.int .i64 x.i, .int .i64 x.s, .int .i64 x.w, .int .i64 x.g, .int .i64 x.p] 1 (e := t) (size := 5) hB (by unfold maxLen; omega) rfl
  simpa [flat, RK.enc] using this
/-- What is lightest among the first k: the zero kind if there is none. -/
def cur (l : List RK) (s : Int) (k : Nat) : RK := if bst l s k < 0 then default else gth l (bst l s k).toNat
theorem cur_take {l : List RK} {s : Int} {k : Nat} (h : bst l s (k + 1) = (k : Int)) : cur l s (k + 1) = gth l k := by
  unfold cur
  rw [h, if_neg (by omega), Int.toNat_natCast]
theorem cur_keep {l : List RK} {s : Int} {k : Nat} (h : bst l s (k + 1) = bst l s k) : cur l s (k + 1) = cur l s k := by
  unfold cur
  rw [h]
theorem cur_b {l : List RK} {s : Int} {k b : Nat} (h : bst l s k = (b : Int)) : cur l s k = gth l b := by
  unfold cur
  rw [h, if_neg (by omega), Int.toNat_natCast]
set_option maxRecDepth 100000 in
set_option maxHeartbeats 4000000 in
theorem implLightestKind_c (v : Value) (l : List RK) (s : Int) (w : World) (hr : Rs w v l.length (rks l)) (hn : l.length ≤ 1048576) (hw : (Lit.int .i64 s).wf = true) :
    Calls Try.prog 20 #[v, .int .i64 s] w fun e w' => e = .returned (.tuple #[.int .i64 (liV l s), .bool (liOk l s)]) ∧ Below w.heap.size w w' := by
  have E0 := Lib.hid (fun W h => implAreRopeKinds_c v l W h hn)
  have E1 := Lib.hid (fun W => within_c s 1 5000 W)
  have hd : liIn l s = (kinds l && inR s 1 5000) := rfl
  have HR := Lib.hid hr
  obtain ⟨ao, a, oa, ca, rfl, hao, hat⟩ := hr.form_RK
  have HA := Lib.hid hao
  have HL := Lib.hid hat
  clear hr hao hat hw
  cases hk : kinds l with
  | false =>
    rw [hk] at E0 hd
    have HD := Lib.hid (li_no (l := l) (s := s) (by rw [hd]; rfl))
    clear hk hd E1
    go_enter Try.func20, Try.ntmps20
    go_wp2_with fail
    refine (E0.out _ HR.out).mono ?_
    rintro e w1 ⟨rfl, b1⟩
    go_wp2
    go_ret2
    exact ⟨ret_p HD.out.2.symm HD.out.1.symm, b1⟩
  | true =>
    cases hm : inR s 1 5000 with
    | false =>
      rw [hk] at E0
      rw [hm] at E1
      rw [hk, hm] at hd
      have HD := Lib.hid (li_no (l := l) (s := s) (by rw [hd]; rfl))
      clear hk hm hd
      go_enter Try.func20, Try.ntmps20
      go_wp2_with fail
      refine (E0.out _ HR.out).mono ?_
      rintro e w1 ⟨rfl, b1⟩
      go_wp2_with fail
      refine (E1.out _).mono ?_
      rintro e w2 ⟨rfl, rfl⟩
      go_wp2
      go_ret2
      exact ⟨ret_p HD.out.2.symm HD.out.1.symm, b1⟩
    | true =>
      rw [hk] at E0
      rw [hm] at E1
      rw [hk, hm] at hd
      have HD : Hid (liIn l s = true) := Lib.hid (by rw [hd]; rfl)
      have h6 := (kinds_yes hk).len
      clear hk hm hd
      go_enter Try.func20, Try.ntmps20
      go_wp2_with fail
      refine (E0.out _ HR.out).mono ?_
      rintro e w1 ⟨rfl, b1⟩
      go_wp2_with fail
      refine (E1.out _).mono ?_
      rintro e w2 ⟨rfl, rfl⟩
      go_wp2
      have hsz2 := b1.size
      have hPB : w.heap.size ≤ w2.heap.size := hsz2
      have HO2 : Hid ((w2.alloc (.cells #[.int .i64 0, .int .i64 0, .int .i64 0, .int .i64 0, .int .i64 0] 25)).ownsRow w.heap.size 25 5 (.slice (some ⟨w2.heap.size, 0, none⟩) 1 1) 1 (rks [cur l s 0])) := Lib.hid (box_own_k w2 w.heap.size hsz2 default 25)
      have HB2 : Hid (Below w.heap.size w (w2.alloc (.cells #[.int .i64 0, .int .i64 0, .int .i64 0, .int .i64 0, .int .i64 0] 25))) := Lib.hid (b1.alloc hsz2 _)
      clear b1
      generalize w2.alloc (.cells #[.int .i64 0, .int .i64 0, .int .i64 0, .int .i64 0, .int .i64 0] 25) = w3 at *
      generalize w2.heap.size = P at *
      go_loopw [7, 20] (fun f i wr => ∃ k : Nat, k ≤ l.length ∧ i = .int .i64 k ∧ f = .bool (decide (0 ≤ bst l s k)) ∧ Hid (wr.ownsRow w.heap.size 25 5 (.slice (some ⟨P, 0, none⟩) 1 1) 1 (rks [cur l s k])) ∧ Hid (Below w.heap.size w wr)) (fun _ i _ => l.length - (intOf i).toNat)
      case atStart => exact ⟨0, Nat.zero_le _, rfl, rfl, HO2, HB2⟩
      case round =>
        obtain ⟨k, hkl, rfl, rfl, ho, hbl⟩ := hrel
        have hszr := hbl.out.size
        have hP := hPB
        have hPw := (ho.out.lt P rfl).2
        by_cases hlt : k < l.length
        · obtain ⟨rfl, hla, hlm⟩ := HA.out (by omega)
          obtain ⟨c0, c1, c2, c3, c4⟩ := (HL.out.below hbl.out hla) k hlt
          have hlaw : a < wr.heap.size := by omega
          have k0 : wr.cell? ⟨P, 0, none⟩ = some (.int .i64 (cur l s k).i) := (ho.out.cellAt 0 (by simp)).trans (by simp [flat, RK.enc])
          have k1 : wr.cell? ⟨P, 1, none⟩ = some (.int .i64 (cur l s k).s) := (ho.out.cellAt 1 (by simp)).trans (by simp [flat, RK.enc])
          have k2 : wr.cell? ⟨P, 2, none⟩ = some (.int .i64 (cur l s k).w) := (ho.out.cellAt 2 (by simp)).trans (by simp [flat, RK.enc])
          have k3 : wr.cell? ⟨P, 3, none⟩ = some (.int .i64 (cur l s k).g) := (ho.out.cellAt 3 (by simp)).trans (by simp [flat, RK.enc])
          have k4 : wr.cell? ⟨P, 4, none⟩ = some (.int .i64 (cur l s k).p) := (ho.out.cellAt 4 (by simp)).trans (by simp [flat, RK.enc])
          have f0 := ho.out.frozenAt 0
          have f1 := ho.out.frozenAt 1
          have f2 := ho.out.frozenAt 2
          have f3 := ho.out.frozenAt 3
          have f4 := ho.out.frozenAt 4
          by_cases h1 : s ≤ (gth l k).p
          · rcases bst_nat l s k with hb | ⟨b, hb, hbk⟩
            · have HS := Lib.hid (bst_take h1 (.inl hb))
              have HCu := Lib.hid (cur_take HS.out)
              rw [hb]
              clear hb
              have t1 : decide (s ≤ (gth l k).p) = true := by simpa using h1
              clear h1
              generalize gth l k = D at *
              generalize cur l s k = C at *
              have hst := (((((ho.out.stored 0 (.int .i64 D.i)).1.stored 1 (.int .i64 D.s)).1.stored 2 (.int .i64 D.w)).1.stored 3 (.int .i64 D.g)).1.stored 4 (.int .i64 D.p)).1
              rw [show (((((rks [C]).set 0 (.int .i64 D.i)).set 1 (.int .i64 D.s)).set 2 (.int .i64 D.w)).set 3 (.int .i64 D.g)).set 4 (.int .i64 D.p) = rks [D] by simp [flat, RK.enc]] at hst
              have HST := Lib.hid hst
              clear hst
              go_wp2
              go_roundw
              case rel =>
                refine ⟨k + 1, by omega, by go_num, by rw [HS.out]; simp, Lib.hid ?_, Lib.hid ((((((hbl.out.setCell (p := ⟨P, 0, none⟩) hP _).setCell (p := ⟨P, 1, none⟩) hP _).setCell (p := ⟨P, 2, none⟩) hP _).setCell (p := ⟨P, 3, none⟩) hP _).setCell (p := ⟨P, 4, none⟩) hP _).alloc (by simp; omega) _)⟩
                rw [HCu.out]
                exact HST.out.alloc _
              case measure => simp [intOf]; omega
            · have HCb := cur_b hb
              have hbn : b < l.length := by omega
              by_cases h2 : (gth l k).g < (gth l b).g
              · have HS := Lib.hid (bst_take h1 (.inr ⟨b, hb, h2⟩))
                have HCu := Lib.hid (cur_take HS.out)
                rw [hb]
                clear hb
                rw [HCb] at k3
                have t1 : decide (s ≤ (gth l k).p) = true := by simpa using h1
                have t2 : decide ((gth l k).g < (gth l b).g) = true := by simpa using h2
                have t3 : decide (0 ≤ (b : Int)) = true := by simp
                rw [t3]
                clear h1 h2 t3 HCb
                generalize gth l k = D at *
                generalize gth l b = E at *
                generalize cur l s k = C at *
                have hst := (((((ho.out.stored 0 (.int .i64 D.i)).1.stored 1 (.int .i64 D.s)).1.stored 2 (.int .i64 D.w)).1.stored 3 (.int .i64 D.g)).1.stored 4 (.int .i64 D.p)).1
                rw [show (((((rks [C]).set 0 (.int .i64 D.i)).set 1 (.int .i64 D.s)).set 2 (.int .i64 D.w)).set 3 (.int .i64 D.g)).set 4 (.int .i64 D.p) = rks [D] by simp [flat, RK.enc]] at hst
                have HST := Lib.hid hst
                clear hst
                go_wp2
                go_roundw
                case rel =>
                  refine ⟨k + 1, by omega, by go_num, by rw [HS.out]; simp, Lib.hid ?_, Lib.hid ((((((hbl.out.setCell (p := ⟨P, 0, none⟩) hP _).setCell (p := ⟨P, 1, none⟩) hP _).setCell (p := ⟨P, 2, none⟩) hP _).setCell (p := ⟨P, 3, none⟩) hP _).setCell (p := ⟨P, 4, none⟩) hP _).alloc (by simp; omega) _)⟩
                  rw [HCu.out]
                  exact HST.out.alloc _
                case measure => simp [intOf]; omega
              · have HS := Lib.hid ((bst_keep2 hb (by omega)).trans hb)
                have HCu := Lib.hid (cur_keep ((bst_keep2 hb (by omega))))
                rw [hb]
                clear hb
                rw [HCb] at k3
                have t1 : decide (s ≤ (gth l k).p) = true := by simpa using h1
                have t2 : decide ((gth l k).g < (gth l b).g) = false := by simpa using h2
                have t3 : decide (0 ≤ (b : Int)) = true := by simp
                rw [t3]
                clear h1 h2 t3 HCb
                generalize gth l k = D at *
                generalize gth l b = E at *
                generalize cur l s k = C at *
                go_wp2
                go_roundw
                case rel => exact ⟨k + 1, by omega, by go_num, by rw [HS.out]; simp, Lib.hid (by rw [HCu.out]; exact ho.out.alloc _), Lib.hid (hbl.out.alloc hszr _)⟩
                case measure => simp [intOf]; omega
          · have HS := Lib.hid (bst_keep1 (l := l) (s := s) (k := k) (by omega))
            have HCu := Lib.hid (cur_keep HS.out)
            have t1 : decide (s ≤ (gth l k).p) = false := by simpa using h1
            clear h1
            generalize gth l k = D at *
            generalize cur l s k = C at *
            generalize bst l s k = X at *
            go_wp2
            go_roundw
            case rel => exact ⟨k + 1, by omega, by go_num, by rw [HS.out], Lib.hid (by rw [HCu.out]; exact ho.out.alloc _), Lib.hid (hbl.out.alloc hszr _)⟩
            case measure => simp [intOf]; omega
        · obtain rfl : k = l.length := by omega
          have k0 : wr.cell? ⟨P, 0, none⟩ = some (.int .i64 (cur l s l.length).i) := (ho.out.cellAt 0 (by simp)).trans (by simp [flat, RK.enc])
          rcases bst_nat l s l.length with hb | ⟨b, hb, hbk⟩
          · have HN := Lib.hid (li_none hb)
            have HC : cur l s l.length = default := by simp [cur, hb]
            rw [HC] at k0
            rw [hb]
            clear hb HC
            go_wp2
            go_ret2
            exact ⟨ret_p HN.out.2.symm HN.out.1.symm, hbl.out⟩
          · have HY := Lib.hid (li_yes HD.out hb)
            have HC := cur_b hb
            rw [HC] at k0
            rw [hb]
            have t3 : decide (0 ≤ (b : Int)) = true := by simp
            rw [t3]
            clear hb HC t3
            generalize gth l b = E at *
            go_wp2
            go_ret2
            exact ⟨ret_p HY.out.2.symm HY.out.1.symm, hbl.out⟩
end Go.Proofs.Ytiogjocbiagipab
