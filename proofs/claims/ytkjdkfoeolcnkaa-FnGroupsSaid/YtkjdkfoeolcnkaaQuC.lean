/- Queues with groups: slices.Contains at int, indicesWhere at Group, and the people of a queue. Condition: sizes. -/
import Derived.Test.YtkjdkfoeolcnkaaQuR
import Derived.Test.YtkjdkfoeolcnkaaQuW
import Derived.Test.YtkjdkfoeolcnkaaProfK
namespace Go.Proofs.Ytkjdkfoeolcnkaa
open Go.RowKit
set_option linter.unusedVariables false
/-- Where n stands first, or -1. -/
def fx13 (n : Int) (l : List Int) : Int := if l.contains n then (l.findIdx (· == n) : Int) else -1
theorem fx13_hit {n : Int} {l : List Int} {k : Nat} (hk : k < l.length) (h0 : ∀ j, j < k → l.getD j 0 ≠ n) (h : l.getD k 0 = n) : fx13 n l = k := by
  have hg : ∀ j (hj : j < l.length), l.getD j 0 = l[j] := fun j hj => by simp [List.getD, hj]
  have e : l.findIdx (· == n) = k := by
    refine (List.findIdx_eq hk).2 ⟨by rw [← hg k hk, h]; simp, fun j hj => ?_⟩
    have := h0 j hj
    rw [hg j (by omega)] at this
    simpa using this
  have ha : l.contains n = true := by
    rw [List.contains_iff_mem, ← h, hg k hk]
    exact List.getElem_mem hk
  unfold fx13
  rw [if_pos ha, e]
theorem fx13_none {n : Int} {l : List Int} (h0 : ∀ j, j < l.length → l.getD j 0 ≠ n) : fx13 n l = -1 := by
  have ha : ¬ l.contains n = true := by
    rw [List.contains_iff_mem]
    intro h
    obtain ⟨i, hi, e⟩ := List.getElem_of_mem h
    exact h0 i hi (by simp [List.getD, hi, e])
  unfold fx13
  rw [if_neg ha]
theorem fx13_has (n : Int) (l : List Int) : decide (0 ≤ fx13 n l) = l.contains n := by
  unfold fx13
  cases h : l.contains n with
  | true => simp
  | false => simp
set_option maxRecDepth 100000 in
set_option maxHeartbeats 2000000 in
theorem index13_c (v : Value) (l : List Int) (n : Int) (w : World) (hr : Rd w v (intVs l)) (hn : l.length ≤ 1048576) :
    Calls Try.prog 83 #[v, .int .i64 n] w fun e w' => e = .returned (.int .i64 (fx13 n l)) ∧ w' = w := by
  obtain ⟨ao, a, oa, ca, rfl, hao, hat⟩ := hr.formR
  have HA := Lib.hid hao
  have HL := Lib.hid hat
  clear hr hao hat
  go_enter Try.func83, Try.ntmps83
  go_wp2
  go_loopw [8] (fun i wr => ∃ k : Nat, k ≤ l.length ∧ i = .int .i64 k ∧ wr = w ∧ Hid (∀ j, j < k → l.getD j 0 ≠ n)) (fun i _ => l.length - (intOf i).toNat)
  case atStart => exact ⟨0, by omega, rfl, by first | rfl | trivial, Lib.hid (fun j h => by omega)⟩
  case round =>
    obtain ⟨k, hk, rfl, rfl, hno⟩ := hrel
    by_cases hlt : k < l.length
    · obtain ⟨rfl, hla, hlm⟩ := HA.out (by omega)
      have c0 := HL.out k hlt
      have HIS := Lib.hid (fun h : l.getD k 0 = n => fx13_hit hlt hno.out h)
      have HNO : Hid (l.getD k 0 ≠ n → ∀ j, j < k + 1 → l.getD j 0 ≠ n) := Lib.hid (fun h j hj => by
        by_cases e : j = k
        · subst e; exact h
        · exact hno.out j (by omega))
      generalize l.getD k 0 = D at *
      by_cases hc : D = n
      · have HX := Lib.hid (HIS.out hc).symm
        have t1 : (n == D) = true := by simp [hc]
        clear hc
        go_wp2
        go_ret
        exact ⟨ret_i13 HX.out, rfl⟩
      · have HN2 := Lib.hid (HNO.out hc)
        have t1 : (n == D) = false := by simp; omega
        clear hc
        go_wp2
        go_roundw
        case rel => exact ⟨k + 1, by omega, by go_num, by first | rfl | trivial, HN2⟩
        case measure => simp [intOf]; omega
    · obtain rfl : k = l.length := by omega
      have HX : Hid (-1 = fx13 n l) := Lib.hid (fx13_none hno.out).symm
      go_wp2
      go_ret
      exact ⟨ret_i13 HX.out, rfl⟩
theorem contains13_c (v : Value) (l : List Int) (n : Int) (w : World) (hr : Rd w v (intVs l)) (hn : l.length ≤ 1048576) :
    Calls Try.prog 57 #[v, .int .i64 n] w fun e w' => e = .returned (.bool (l.contains n)) ∧ w' = w := by
  have E0 := Lib.hid (index13_c v l n w hr hn)
  have HX := Lib.hid (fx13_has n l)
  clear hr
  generalize fx13 n l = F at *
  go_enter Try.func57, Try.ntmps57
  go_wp2_with fail
  refine (E0.out).mono ?_
  rintro e w1 ⟨rfl, rfl⟩
  go_wp2
  go_ret
  exact ⟨ret_b HX.out, rfl⟩
set_option maxRecDepth 100000 in
set_option maxHeartbeats 2000000 in
theorem l1Has13_c (v : Value) (l : List Int) (n : Int) (w : World) (hr : Rd w v (intVs l)) (hn : l.length ≤ 1048576) :
    Calls Try.prog 61 #[v, .int .i64 n] w fun e w' => e = .returned (.bool (l.contains n)) ∧ w' = w := by
  obtain ⟨ao, a, oa, ca, rfl, hao, hat⟩ := hr.formR
  have HA := Lib.hid hao
  have HL := Lib.hid hat
  have HCB := Lib.hid (fx13_has n l)
  clear hr hao hat
  generalize l.contains n = b at *
  go_enter Try.func61, Try.ntmps61
  go_wp2
  go_loopw [5] (fun i wr => ∃ k : Nat, k ≤ l.length ∧ i = .int .i64 k ∧ wr = w ∧ Hid (∀ j, j < k → l.getD j 0 ≠ n)) (fun i _ => l.length - (intOf i).toNat)
  case atStart => exact ⟨0, by omega, rfl, by first | rfl | trivial, Lib.hid (fun j h => by omega)⟩
  case round =>
    obtain ⟨k, hk, rfl, rfl, hno⟩ := hrel
    by_cases hlt : k < l.length
    · obtain ⟨rfl, hla, hlm⟩ := HA.out (by omega)
      have c0 := HL.out k hlt
      have HIS : Hid (l.getD k 0 = n → true = b) := Lib.hid (fun h => by
        rw [← HCB.out, fx13_hit hlt hno.out h]; simp)
      have HNO : Hid (l.getD k 0 ≠ n → ∀ j, j < k + 1 → l.getD j 0 ≠ n) := Lib.hid (fun h j hj => by
        by_cases e : j = k
        · subst e; exact h
        · exact hno.out j (by omega))
      generalize l.getD k 0 = D at *
      by_cases hc : D = n
      · have HX := Lib.hid (HIS.out hc)
        have t1 : (D == n) = true := by simp [hc]
        clear hc
        go_wp2
        go_ret
        exact ⟨ret_b HX.out, rfl⟩
      · have HN2 := Lib.hid (HNO.out hc)
        have t1 : (D == n) = false := by simp; omega
        clear hc
        go_wp2
        go_roundw
        case rel => exact ⟨k + 1, by omega, by go_num, by first | rfl | trivial, HN2⟩
        case measure => simp [intOf]; omega
    · obtain rfl : k = l.length := by omega
      have HX : Hid (false = b) := Lib.hid (by rw [← HCB.out, fx13_none hno.out]; rfl)
      go_wp2
      go_ret
      exact ⟨ret_b HX.out, rfl⟩
theorem cloE13_c (x : Gro) (w : World) :
    Calls Try.prog 78 #[.agg #[.int .i64 x.z, .bool x.q]] w fun e w' => e = .returned (.bool true) ∧ Below w.heap.size w w' := by
  go_enter Try.func78, Try.ntmps78
  go_wp2
  go_ret
  exact ⟨rfl, (Below.refl _ _).alloc (Nat.le_refl _) _⟩
theorem nIs_range (k : Nat) : nIs (List.range (k + 1)) = nIs (List.range k) ++ [(k : Int)] := by rw [List.range_succ, nIs_app]; rfl
set_option maxRecDepth 100000 in
set_option maxHeartbeats 2000000 in
theorem iwhereG_c (v : Value) (l : List Gro) (w : World) (hr : Rs w v l.length (gros l)) (hn : l.length ≤ 1048576) :
    Calls Try.prog 77 #[v, .func (.func 78) #[] #[]] w fun e w' => ∃ g, e = .returned g ∧ w'.ownsRow w.heap.size 3 1 g l.length (intVs (nIs (List.range l.length))) ∧ Below w.heap.size w w' := by
  obtain ⟨i0, hi, hz0, hz1, hz2⟩ := info_parts Try.infoIntR
  obtain ⟨ao, a, oa, ca, rfl, hao, hat⟩ := hr.form_Gro
  have HA := Lib.hid hao
  have HL := Lib.hid hat
  clear hr hao hat
  go_enter Try.func77, Try.ntmps77
  go_wp2
  go_loopw [5, 11] (fun o i wr => ∃ k : Nat, k ≤ l.length ∧ i = .int .i64 k ∧ wr.ownsRow w.heap.size 3 1 o k (intVs (nIs (List.range k))) ∧ Hid (Below w.heap.size w wr)) (fun _ i _ => l.length - (intOf i).toNat)
  case atStart => exact ⟨0, by omega, rfl, World.ownsRow_made w #[] 0 (Nat.le_refl _) (by decide) rfl, Lib.hid ((Below.refl _ _).alloc (Nat.le_refl _) _)⟩
  case round =>
    obtain ⟨k, hk, rfl, hown, hbel⟩ := hrel
    by_cases hlt : k < l.length
    · obtain ⟨rfl, hla, hlm⟩ := HA.out (by omega)
      obtain ⟨c0, c1⟩ := (HL.out.below hbel.out hla) k hlt
      have hbs := hbel.out.size
      have HY := Lib.hid (nIs_range k)
      generalize gth l k = X at *
      have HB1 := Lib.hid (hbel.out.alloc hbel.out.size (.cells #[.int .i64 X.z, .bool X.q] 34))
      have HO1 := Lib.hid (hown.alloc (.cells #[.int .i64 X.z, .bool X.q] 34))
      generalize nIs (List.range k) = L0 at *
      go_wp2_with fail
      refine (cloE13_c X _).mono ?_
      rintro e w2 ⟨rfl, b2⟩
      have HB2 := Lib.hid (HB1.out.trans (b2.mono HB1.out.size))
      have hown2 := owns_below HO1.out b2
      have hs2 := HB2.out.size
      clear b2 HO1 HB1 hown c0 c1
      go_wp2_with (at_builtin; refine wpList_append_own _ rfl _ _ 31 rfl w.heap.size 3 i0 (.int .i64 0) 1 8 Try.underlying31 hi hz0 hz1 hz2 rfl (by decide) _ _ _ rfl (hown2.alloc _) ⟨w2.heap.size, 0, none⟩ 1 1 [.int .i64 (k : Int)] rfl rfl (cell_one_new _ _ _) (by simp [Value.oneCell']) (by unfold maxLen; omega) (by omega) (by simp; omega) ?_; intro v' w3 hown' hgrow _)
      go_roundw
      case rel => exact ⟨k + 1, by omega, by go_num, by rw [HY.out]; simpa [intVs] using hown', Lib.hid ((HB2.out.alloc HB2.out.size _).grown hgrow (by simp; omega) (fun j hj => (hown2.lt j hj).1))⟩
      case measure => simp [intOf]; omega
    · obtain rfl : k = l.length := by omega
      go_wp2
      go_ret
      exact ⟨_, rfl, hown, hbel.out⟩
theorem ret_ppb {x y x' y' : Int} {a b : Bool} (h1 : x = x') (h2 : y = y') (h3 : a = b) : Ending.returned (.tuple #[.int .i64 x, .int .i64 y, .bool a]) = .returned (.tuple #[.int .i64 x', .int .i64 y', .bool b]) := by rw [h1, h2, h3]
set_option maxRecDepth 100000 in
set_option maxHeartbeats 2000000 in
theorem implPeopleIn_c (v : Value) (l : List Gro) (w : World) (hr : Rs w v l.length (gros l)) (hn : l.length ≤ 1048576) :
    Calls Try.prog 20 #[v] w fun e w' => e = .returned (.tuple #[.int .i64 (ppV l), .int .i64 (qqV l), .bool (isQ l)]) ∧ Below w.heap.size w w' := by
  have E0 := Lib.hid (implIsQueue_c v l w hr hn)
  have HBD := Lib.hid (fun h : isQ l = true => fun k (hk : k ≤ l.length) => And.intro (peK_bd h hk) (quK_bd h hk))
  have HZ := Lib.hid (fun h : isQ l = true => fun k (hk : k < l.length) => is_bd h k hk)
  have HP : Hid (ppV l = if isQ l then peK l l.length else 0) := Lib.hid rfl
  have HQ : Hid (qqV l = if isQ l then quK l l.length else 0) := Lib.hid rfl
  obtain ⟨ao, a, oa, ca, rfl, hao, hat⟩ := hr.form_Gro
  have HA := Lib.hid hao
  have HL := Lib.hid hat
  clear hr hao hat
  generalize ppV l = RP at *
  generalize qqV l = RQ at *
  generalize isQ l = b at *
  go_enter Try.func20, Try.ntmps20
  go_wp2_with fail
  refine (E0.out).mono ?_
  rintro e w1 ⟨rfl, b1⟩
  cases b with
  | false =>
    go_wp2
    go_ret3
    exact ⟨ret_ppb (by rw [HP.out]; rfl) (by rw [HQ.out]; rfl) rfl, b1⟩
  | true =>
    have HB1 := Lib.hid b1
    clear b1
    go_wp2
    go_loopw [5, 6, 14] (fun pp qq i wr => ∃ k : Nat, k ≤ l.length ∧ i = .int .i64 k ∧ pp = .int .i64 (peK l k) ∧ qq = .int .i64 (quK l k) ∧ Hid (Below w.heap.size w wr)) (fun _ _ i _ => l.length - (intOf i).toNat)
    case atStart => exact ⟨0, by omega, rfl, by first | rfl | trivial, by first | rfl | trivial, HB1⟩
    case round =>
      obtain ⟨k, hk, rfl, rfl, rfl, hbel⟩ := hrel
      by_cases hlt : k < l.length
      · obtain ⟨rfl, hla, hlm⟩ := HA.out (by omega)
        obtain ⟨c0, c1⟩ := (HL.out.below hbel.out hla) k hlt
        have hbs := hbel.out.size
        have hz : 1 ≤ (gth l k).z ∧ (gth l k).z ≤ 8 := HZ.out (by trivial) k hlt
        obtain ⟨⟨p1, p2⟩, q1, q2⟩ := HBD.out (by trivial) k (by omega)
        have HPS : Hid (peK l (k + 1) = peK l k + (gth l k).z) := Lib.hid (peK_succ l k)
        have HQY : Hid ((gth l k).q = true → quK l (k + 1) = quK l k + (gth l k).z) := Lib.hid (fun h => quK_yes h)
        have HQN : Hid ((gth l k).q = false → quK l (k + 1) = quK l k) := Lib.hid (fun h => quK_no h)
        have HB3 := Lib.hid (hbel.out.alloc hbel.out.size (.cells #[.int .i64 (gth l k).z, .bool (gth l k).q] 34))
        generalize peK l k = P0 at *
        generalize quK l k = Q0 at *
        generalize gth l k = D at *
        obtain ⟨z, q⟩ := D
        try dsimp only at HPS
        try dsimp only at HQY
        try dsimp only at HQN
        try dsimp only at hz
        cases q with
        | true =>
          have HQ2 := Lib.hid (HQY.out rfl)
          go_wp2
          go_roundw
          case rel => exact ⟨k + 1, by omega, by go_num, by rw [HPS.out] <;> go_num, by rw [HQ2.out] <;> go_num, HB3⟩
          case measure => simp [intOf]; omega
        | false =>
          have HQ2 := Lib.hid (HQN.out rfl)
          go_wp2
          go_roundw
          case rel => exact ⟨k + 1, by omega, by go_num, by rw [HPS.out] <;> go_num, by rw [HQ2.out] <;> go_num, HB3⟩
          case measure => simp [intOf]; omega
      · obtain rfl : k = l.length := by omega
        go_wp2
        go_ret3
        exact ⟨ret_ppb (by rw [HP.out]; rfl) (by rw [HQ.out]; rfl) rfl, hbel.out⟩
set_option maxRecDepth 100000 in
set_option maxHeartbeats 2000000 in
theorem l13People_c (v : Value) (l : List Gro) (w : World) (hr : Rs w v l.length (gros l)) (hq : isQ l = true) :
    Calls Try.prog 54 #[v] w fun e w' => e = .returned (.int .i64 (peK l l.length)) ∧ w' = w := by
  have HBD := Lib.hid (fun k (hk : k ≤ l.length) => peK_bd hq hk)
  have HZ := Lib.hid (fun k (hk : k < l.length) => is_bd hq k hk)
  have hn : l.length ≤ 12 := is_len hq
  obtain ⟨ao, a, oa, ca, rfl, hao, hat⟩ := hr.form_Gro
  have HA := Lib.hid hao
  have HL := Lib.hid hat
  clear hr hao hat hq
  go_enter Try.func54, Try.ntmps54
  go_wp2
  go_loopw [3, 4] (fun pp i wr => ∃ k : Nat, k ≤ l.length ∧ i = .int .i64 k ∧ pp = .int .i64 (peK l k) ∧ wr = w) (fun _ i _ => l.length - (intOf i).toNat)
  case atStart => exact ⟨0, by omega, rfl, by first | rfl | trivial, by first | rfl | trivial⟩
  case round =>
    obtain ⟨k, hk, rfl, rfl, rfl⟩ := hrel
    by_cases hlt : k < l.length
    · obtain ⟨rfl, hla, hlm⟩ := HA.out (by omega)
      obtain ⟨c0, c1⟩ := HL.out k hlt
      have hz : 1 ≤ (gth l k).z ∧ (gth l k).z ≤ 8 := HZ.out k hlt
      obtain ⟨p1, p2⟩ := HBD.out k (by omega)
      have HPS : Hid (peK l (k + 1) = peK l k + (gth l k).z) := Lib.hid (peK_succ l k)
      generalize peK l k = P0 at *
      generalize gth l k = D at *
      go_wp2
      go_roundw
      case rel => exact ⟨k + 1, by omega, by go_num, by rw [HPS.out] <;> go_num, by first | rfl | trivial⟩
      case measure => simp [intOf]; omega
    · obtain rfl : k = l.length := by omega
      go_wp2
      go_ret
      exact ⟨rfl, rfl⟩
set_option maxRecDepth 100000 in
set_option maxHeartbeats 2000000 in
theorem specPeopleIn_c (v : Value) (l : List Gro) (w : World) (hr : Rs w v l.length (gros l)) (hn : l.length ≤ 1048576) :
    Calls Try.prog 42 #[v] w fun e w' => e = .returned (.tuple #[.int .i64 (ppV l), .int .i64 (qqV l), .bool (isQ l)]) ∧ w' = w := by
  have E0 := Lib.hid (l13Queue_c v l w hr hn)
  have E1 := Lib.hid (fun h => l13People_c v l w hr h)
  have HBD := Lib.hid (fun h : isQ l = true => fun k (hk : k ≤ l.length) => And.intro (peK_bd h hk) (quK_bd h hk))
  have HZ := Lib.hid (fun h : isQ l = true => fun k (hk : k < l.length) => is_bd h k hk)
  have HP : Hid (ppV l = if isQ l then peK l l.length else 0) := Lib.hid rfl
  have HQ : Hid (qqV l = if isQ l then quK l l.length else 0) := Lib.hid rfl
  obtain ⟨ao, a, oa, ca, rfl, hao, hat⟩ := hr.form_Gro
  have HA := Lib.hid hao
  have HL := Lib.hid hat
  clear hr hao hat
  generalize ppV l = RP at *
  generalize qqV l = RQ at *
  generalize isQ l = b at *
  go_enter Try.func42, Try.ntmps42
  go_wp2_with fail
  refine (E0.out).mono ?_
  rintro e w1 ⟨rfl, rfl⟩
  cases b with
  | false =>
    go_wp2
    go_ret3
    exact ⟨ret_ppb (by rw [HP.out]; rfl) (by rw [HQ.out]; rfl) rfl, rfl⟩
  | true =>
    go_wp2
    go_loopw [5, 6] (fun qq i wr => ∃ k : Nat, k ≤ l.length ∧ i = .int .i64 k ∧ qq = .int .i64 (quK l k) ∧ wr = w1) (fun _ i _ => l.length - (intOf i).toNat)
    case atStart => exact ⟨0, by omega, rfl, by first | rfl | trivial, by first | rfl | trivial⟩
    case round =>
      obtain ⟨k, hk, rfl, rfl, rfl⟩ := hrel
      by_cases hlt : k < l.length
      · obtain ⟨rfl, hla, hlm⟩ := HA.out (by omega)
        obtain ⟨c0, c1⟩ := HL.out k hlt
        have hz : 1 ≤ (gth l k).z ∧ (gth l k).z ≤ 8 := HZ.out (by trivial) k hlt
        obtain ⟨⟨p1, p2⟩, q1, q2⟩ := HBD.out (by trivial) k (by omega)
        have HQY : Hid ((gth l k).q = true → quK l (k + 1) = quK l k + (gth l k).z) := Lib.hid (fun h => quK_yes h)
        have HQN : Hid ((gth l k).q = false → quK l (k + 1) = quK l k) := Lib.hid (fun h => quK_no h)
        generalize quK l k = Q0 at *
        generalize gth l k = D at *
        obtain ⟨z, q⟩ := D
        try dsimp only at HPS
        try dsimp only at HQY
        try dsimp only at HQN
        try dsimp only at hz
        cases q with
        | true =>
          have HQ2 := Lib.hid (HQY.out rfl)
          go_wp2
          go_roundw
          case rel => exact ⟨k + 1, by omega, by go_num, by rw [HQ2.out] <;> go_num, by first | rfl | trivial⟩
          case measure => simp [intOf]; omega
        | false =>
          have HQ2 := Lib.hid (HQN.out rfl)
          go_wp2
          go_roundw
          case rel => exact ⟨k + 1, by omega, by go_num, by rw [HQ2.out] <;> go_num, by first | rfl | trivial⟩
          case measure => simp [intOf]; omega
      · obtain rfl : k = l.length := by omega
        go_wp2_with fail
        refine (E1.out (by trivial)).mono ?_
        rintro e w2 ⟨rfl, rfl⟩
        go_wp2
        go_ret3
        exact ⟨ret_ppb (by rw [HP.out]; rfl) (by rw [HQ.out]; rfl) rfl, rfl⟩
end Go.Proofs.Ytkjdkfoeolcnkaa
