/- Queues with groups: spec.l13Fill, FillCabin. Condition: sizes. -/
import Derived.Test.YtkjdkfoeolcnkaaQuH
import Derived.Test.YtkjdkfoeolcnkaaPutQ
namespace Go.Proofs.Ytkjdkfoeolcnkaa
open Go.RowKit
set_option linter.unusedVariables false
/-- Who has been taken, lane c, the first j groups seen. -/
def pk13 (sz : Nat → Int) (qk : Nat → Bool) (m : Nat) (s : Int) : Nat → Nat → Bool
  | 0, _ => false
  | c + 1, k => pk13 sz qk m s c k || tk13 (c == 0) sz qk (stF13 sz qk m s c) k
def pj13 (sz : Nat → Int) (qk : Nat → Bool) (m : Nat) (s : Int) (c j k : Nat) : Bool := pk13 sz qk m s c k || (decide (k < j) && tk13 (c == 0) sz qk (stF13 sz qk m s c) k)
theorem pj13_zero {sz : Nat → Int} {qk : Nat → Bool} {m : Nat} {s : Int} {c : Nat} : ix13 (pj13 sz qk m s c 0) m = ix13 (pk13 sz qk m s c) m := ix13_ext m fun k hk => by simp [pj13]
theorem pj13_all {sz : Nat → Int} {qk : Nat → Bool} {m : Nat} {s : Int} {c : Nat} : ix13 (pj13 sz qk m s c m) m = ix13 (pk13 sz qk m s (c + 1)) m := ix13_ext m fun k hk => by simp [pj13, pk13, hk]
theorem pj13_no {sz : Nat → Int} {qk : Nat → Bool} {m : Nat} {s : Int} {c j : Nat} (h : tk13 (c == 0) sz qk (stF13 sz qk m s c) j = false) : ix13 (pj13 sz qk m s c (j + 1)) m = ix13 (pj13 sz qk m s c j) m := ix13_ext m fun k hk => by
  unfold pj13
  by_cases e : k = j
  · subst e; rw [h]; simp
  · have : decide (k < j + 1) = decide (k < j) := by by_cases h2 : k < j <;> simp [h2] <;> omega
    rw [this]
theorem pk13_lane {sz : Nat → Int} {qk : Nat → Bool} {m : Nat} {s : Int} : ∀ c k, pk13 sz qk m s c k = true → ∃ d, d < c ∧ qk k = (d == 0)
  | 0, k, h => by simp [pk13] at h
  | c + 1, k, h => by
    unfold pk13 at h
    rw [Bool.or_eq_true] at h
    rcases h with h | h
    · obtain ⟨d, h1, h2⟩ := pk13_lane c k h
      exact ⟨d, by omega, h2⟩
    · exact ⟨c, by omega, (tk13_lane h).1⟩
theorem pj13_not {sz : Nat → Int} {qk : Nat → Bool} {m : Nat} {s : Int} {c j : Nat} (hc : c < 2) (h : tk13 (c == 0) sz qk (stF13 sz qk m s c) j = true) : pj13 sz qk m s c j j = false := by
  unfold pj13
  rw [show decide (j < j) = false by simp, Bool.false_and, Bool.or_false]
  cases e : pk13 sz qk m s c j with
  | false => rfl
  | true =>
    obtain ⟨d, h1, h2⟩ := pk13_lane c j e
    obtain rfl : c = 1 := by omega
    obtain rfl : d = 0 := by omega
    rw [(tk13_lane h).1] at h2
    exact absurd h2 (by decide)
theorem pj13_yes {sz : Nat → Int} {qk : Nat → Bool} {m : Nat} {s : Int} {c j : Nat} (h : tk13 (c == 0) sz qk (stF13 sz qk m s c) j = true) : ix13 (pj13 sz qk m s c (j + 1)) m = ix13 (fun k => pj13 sz qk m s c j k || k == j) m := ix13_ext m fun k hk => by
  unfold pj13
  by_cases e : k = j
  · subst e; rw [h]; simp
  · have h1 : decide (k < j + 1) = decide (k < j) := by by_cases h2 : k < j <;> simp [h2] <;> omega
    have h2 : (k == j) = false := by simpa using e
    rw [h1, h2, Bool.or_false]
theorem pk13_two {sz : Nat → Int} {qk : Nat → Bool} {m : Nat} {s : Int} : ix13 (pk13 sz qk m s 2) m = ix13 (in13 sz qk m s) m := ix13_ext m fun k hk => by
  show ((false || tk13 (0 == 0) sz qk s k) || tk13 (1 == 0) sz qk (sa13 (0 == 0) sz qk s m) k) = _
  rw [Bool.false_or]; rfl
theorem pk13_nil {sz : Nat → Int} {qk : Nat → Bool} {m : Nat} {s : Int} : ix13 (pk13 sz qk m s 0) m = [] := by
  unfold ix13
  rw [List.filter_eq_nil_iff.2 fun k _ => by simp [pk13]]
  rfl
set_option maxRecDepth 100000 in
set_option maxHeartbeats 4000000 in
theorem l13Fill_c (v : Value) (l : List Gro) (s : Int) (w : World) (hr : Rs w v l.length (gros l)) (hn : l.length ≤ 12) (hs : 0 ≤ s ∧ s ≤ 10) (hz : ∀ i, i < l.length → 1 ≤ szQ l i ∧ szQ l i ≤ 8) :
    Calls Try.prog 60 #[v, .int .i64 s] w fun e w' => ∃ g, e = .returned g ∧ w'.ownsRow w.heap.size 3 1 g (ix13 (in13 (szQ l) (qkQ l) l.length s) l.length).length (intVs (ix13 (in13 (szQ l) (qkQ l) l.length s) l.length)) ∧ Below w.heap.size w w' := by
  have hsz10 := hs.2
  have HSB := Lib.hid (fun c => stF13_bd (sz := szQ l) (qk := qkQ l) (m := l.length) hs.1 (fun j hj => by have := (hz j hj).1; omega) c)
  have HSA := Lib.hid (fun (b : Bool) (S : Int) (h : 0 ≤ S) (j : Nat) (hj : j ≤ l.length) => sa13_bd (b := b) (sz := szQ l) (qk := qkQ l) h j fun k hk => by have := (hz k (by omega)).1; omega)
  have HZ : Hid (∀ j, j < l.length → 1 ≤ (gth l j).z ∧ (gth l j).z ≤ 8) := Lib.hid (fun j hj => hz j hj)
  have HTWO := Lib.hid (pk13_two (sz := szQ l) (qk := qkQ l) (m := l.length) (s := s))
  rw [← HTWO.out]
  obtain ⟨ao, a, oa, ca, rfl, hao, hat⟩ := hr.form_Gro
  have HA := Lib.hid hao
  have HL := Lib.hid hat
  clear hr hao hat hz HTWO
  go_enter Try.func60, Try.ntmps60
  go_wp2
  go_loopw [1, 5, 6] (fun ss o ci wr => ∃ c : Nat, c ≤ 2 ∧ ci = .int .i64 c ∧ ss = .int .i64 (stF13 (szQ l) (qkQ l) l.length s c) ∧ wr.ownsRow w.heap.size 3 1 o (ix13 (pk13 (szQ l) (qkQ l) l.length s c) l.length).length (intVs (ix13 (pk13 (szQ l) (qkQ l) l.length s c) l.length)) ∧ Hid (o.ownBlock ≠ none) ∧ Hid (Below w.heap.size w wr)) (fun _ _ ci _ => 2 - (intOf ci).toNat)
  case atStart =>
    refine ⟨0, by omega, rfl, by first | rfl | trivial, ?_, Lib.hid (by simp [Value.ownBlock]), Lib.hid ((Below.refl _ _).alloc (Nat.le_refl _) _)⟩
    rw [pk13_nil]
    exact World.ownsRow_made w #[] 0 (Nat.le_refl _) (by decide) rfl
  case round =>
    obtain ⟨c, hc2, rfl, rfl, hown, hnb, hbel⟩ := hrel
    by_cases hcl : c < 2
    · have hdt : decide ((c : Int) < 2) = true := by simp; omega
      have HST : Hid (stF13 (szQ l) (qkQ l) l.length s (c + 1) = sa13 (c == 0) (szQ l) (qkQ l) (stF13 (szQ l) (qkQ l) l.length s c) l.length) := Lib.hid rfl
      have HS0 := HSB.out c
      have HSTT : Hid (∀ j, tk13 (c == 0) (szQ l) (qkQ l) (stF13 (szQ l) (qkQ l) l.length s c) j = ((qkQ l j == (c == 0)) && decide (szQ l j ≤ sa13 (c == 0) (szQ l) (qkQ l) (stF13 (szQ l) (qkQ l) l.length s c) j))) := Lib.hid (fun j => rfl)
      have HPZ := Lib.hid (pj13_zero (sz := szQ l) (qk := qkQ l) (m := l.length) (s := s) (c := c))
      have HPA := Lib.hid (pj13_all (sz := szQ l) (qk := qkQ l) (m := l.length) (s := s) (c := c))
      have HC0 : Hid (((c : Int) == 0) = (c == 0)) := Lib.hid (by rw [Bool.eq_iff_iff, beq_iff_eq, beq_iff_eq]; omega)
      go_wp2
      go_loopw [1, 5, 7] (fun ss o ji wr => ∃ j : Nat, j ≤ l.length ∧ ji = .int .i64 j ∧ ss = .int .i64 (sa13 (c == 0) (szQ l) (qkQ l) (stF13 (szQ l) (qkQ l) l.length s c) j) ∧ wr.ownsRow w.heap.size 3 1 o (ix13 (pj13 (szQ l) (qkQ l) l.length s c j) l.length).length (intVs (ix13 (pj13 (szQ l) (qkQ l) l.length s c j) l.length)) ∧ Hid (o.ownBlock ≠ none) ∧ Hid (Below w.heap.size w wr)) (fun _ _ ji _ => l.length - (intOf ji).toNat)
      case atStart => exact ⟨0, by omega, rfl, by first | rfl | trivial, by rw [HPZ.out]; exact hown, hnb, hbel⟩
      case round =>
        obtain ⟨j, hj, rfl, rfl, hown, hnb, hbel⟩ := hrel
        by_cases hjl : j < l.length
        · obtain ⟨rfl, hla, hlm⟩ := HA.out (by omega)
          obtain ⟨c0, c1⟩ := (HL.out.below hbel.out hla) j hjl
          have hbs := hbel.out.size
          obtain ⟨hS1, hS2⟩ := HSA.out (c == 0) _ HS0.1 j (by omega)
          obtain ⟨hd1, hd2⟩ := HZ.out j hjl
          have HTK := HSTT.out j
          have HYES : Hid (tk13 (c == 0) (szQ l) (qkQ l) (stF13 (szQ l) (qkQ l) l.length s c) j = true → sa13 (c == 0) (szQ l) (qkQ l) (stF13 (szQ l) (qkQ l) l.length s c) (j + 1) = sa13 (c == 0) (szQ l) (qkQ l) (stF13 (szQ l) (qkQ l) l.length s c) j - szQ l j ∧ (∀ w1 e w2, PutR (ix13 (pj13 (szQ l) (qkQ l) l.length s c j) l.length) (j : Int) w1 e w2 → ∃ g, e = .returned g ∧ w2.ownsRow w1.heap.size 3 1 g (ix13 (pj13 (szQ l) (qkQ l) l.length s c (j + 1)) l.length).length (intVs (ix13 (pj13 (szQ l) (qkQ l) l.length s c (j + 1)) l.length)) ∧ g.ownBlock ≠ none ∧ Below w1.heap.size w1 w2) ∧ (j : Int) ∉ ix13 (pj13 (szQ l) (qkQ l) l.length s c j) l.length) := Lib.hid (fun h => by
            have hnot := pj13_not hcl h
            refine ⟨sa13_yes h, ?_, fun hm => ?_⟩
            · rintro w1 e w2 ⟨g, rfl, k, hk, hlo, hhi, ho, hg, hb⟩
              have e2 : (ix13 (pj13 (szQ l) (qkQ l) l.length s c j) l.length).take k ++ [(j : Int)] ++ (ix13 (pj13 (szQ l) (qkQ l) l.length s c j) l.length).drop k = ix13 (pj13 (szQ l) (qkQ l) l.length s c (j + 1)) l.length := by
                rw [pj13_yes h]
                exact ix13_put hjl hnot hk hlo hhi
              have e3 : (ix13 (pj13 (szQ l) (qkQ l) l.length s c j) l.length).length + 1 = (ix13 (pj13 (szQ l) (qkQ l) l.length s c (j + 1)) l.length).length := by
                rw [← e2]; simp; omega
              rw [e2, e3] at ho
              exact ⟨g, rfl, ho, hg, hb⟩
            · rw [ix13_has, hnot] at hm
              exact absurd hm.2 (by decide))
          have HNO : Hid (tk13 (c == 0) (szQ l) (qkQ l) (stF13 (szQ l) (qkQ l) l.length s c) j = false → sa13 (c == 0) (szQ l) (qkQ l) (stF13 (szQ l) (qkQ l) l.length s c) (j + 1) = sa13 (c == 0) (szQ l) (qkQ l) (stF13 (szQ l) (qkQ l) l.length s c) j ∧ ix13 (pj13 (szQ l) (qkQ l) l.length s c (j + 1)) l.length = ix13 (pj13 (szQ l) (qkQ l) l.length s c j) l.length) := Lib.hid (fun h => ⟨sa13_no h, pj13_no h⟩)
          have hxl : (ix13 (pj13 (szQ l) (qkQ l) l.length s c j) l.length).length ≤ 12 := Nat.le_trans (ix13_len _ _) hn
          rw [HTK] at HYES HNO
          clear HTK
          have hzq : szQ l j = (gth l j).z := rfl
          have hqq : qkQ l j = (gth l j).q := rfl
          rw [hzq, hqq] at HYES HNO
          clear hzq hqq
          have hcq := HC0.out
          generalize hSJ : sa13 (c == 0) (szQ l) (qkQ l) (stF13 (szQ l) (qkQ l) l.length s c) j = SJ at *
          generalize hPJ : ix13 (pj13 (szQ l) (qkQ l) l.length s c j) l.length = PJ at *
          generalize gth l j = D at *
          clear hSJ hPJ
          generalize (c == 0) = bq at *
          by_cases hq : D.q = bq
          · have tq : (D.q == bq) = true := by simpa using hq
            by_cases hzs : D.z ≤ SJ
            · obtain ⟨hy1, hy2, hy3⟩ := HYES.out (by rw [tq, decide_eq_true hzs]; rfl)
              have HY1 := Lib.hid hy1
              have HY2 := Lib.hid hy2
              have tz : decide (D.z ≤ SJ) = true := by simpa using hzs
              have HPU := Lib.hid (l1Put_c _ PJ (j : Int) PJ.length wr w.heap.size rfl hown hnb.out hxl hy3)
              clear hy1 hy2 hy3 hq
              go_wp2_with fail
              refine (HPU.out).mono ?_
              intro e w3 hput
              obtain ⟨g, rfl, o3, hg3, b3⟩ := HY2.out _ _ _ hput
              have HB3 := Lib.hid (hbel.out.trans (b3.mono hbs))
              have HO3 := Lib.hid (own_mono o3 hbs)
              have HG3 := Lib.hid hg3
              have c0' : w3.cell? ⟨a, oa + j * 2, none⟩ = some (.int .i64 D.z) := (b3.cell (p := ⟨a, oa + j * 2, none⟩) (by show a < _; omega)).trans c0
              clear hput o3 b3 hg3
              go_wp2
              go_roundw
              case rel => exact ⟨j + 1, by omega, by go_num, by rw [HY1.out], HO3.out, HG3, HB3⟩
              case measure => simp [intOf]; omega
            · obtain ⟨hy1, hy2⟩ := HNO.out (by rw [decide_eq_false hzs, Bool.and_false])
              have HY1 := Lib.hid hy1
              have HY2 := Lib.hid hy2
              have tz : decide (D.z ≤ SJ) = false := by simpa using hzs
              clear hy1 hy2 hq
              go_wp2
              go_roundw
              case rel => exact ⟨j + 1, by omega, by go_num, by rw [HY1.out], by rw [HY2.out]; exact hown, hnb, hbel⟩
              case measure => simp [intOf]; omega
          · have tq : (D.q == bq) = false := by simpa using hq
            obtain ⟨hy1, hy2⟩ := HNO.out (by rw [tq, Bool.false_and])
            have HY1 := Lib.hid hy1
            have HY2 := Lib.hid hy2
            clear hy1 hy2 hq
            go_wp2
            go_roundw
            case rel => exact ⟨j + 1, by omega, by go_num, by rw [HY1.out], by rw [HY2.out]; exact hown, hnb, hbel⟩
            case measure => simp [intOf]; omega
        · obtain rfl : j = l.length := by omega
          go_wp2
          go_roundw
          case rel => exact ⟨c + 1, by omega, by go_num, by rw [HST.out], by rw [← HPA.out]; exact hown, hnb, hbel⟩
          case measure => simp [intOf]; omega
    · obtain rfl : c = 2 := by omega
      go_wp2
      go_ret
      exact ⟨_, rfl, hown, hbel.out⟩
theorem fl_yes {l : List Gro} {s : Int} (h : asQ l s = true) : flV l s = ix13 (in13 (szQ l) (qkQ l) l.length s) l.length := by unfold flV; rw [h]; rfl
theorem fl_no {l : List Gro} {s : Int} (h : asQ l s = false) : flV l s = [] := by unfold flV; rw [h]; rfl
theorem specFill_c (v : Value) (l : List Gro) (s : Int) (w : World) (hr : Rs w v l.length (gros l)) (ha : asQ l s = true) :
    Calls Try.prog 60 #[v, .int .i64 s] w fun e w' => ∃ g, e = .returned g ∧ w'.ownsRow w.heap.size 3 1 g (flV l s).length (intVs (flV l s)) ∧ Below w.heap.size w w' := by
  rw [fl_yes ha]
  have := as_s ha
  exact l13Fill_c v l s w hr (is_len (as_is ha)) ⟨by omega, by omega⟩ (is_bd (as_is ha))
set_option maxRecDepth 100000 in
set_option maxHeartbeats 2000000 in
theorem specFillCabin_c (v : Value) (l : List Gro) (s : Int) (w : World) (hr : Rs w v l.length (gros l)) (hn : l.length ≤ 1048576) :
    Calls Try.prog 39 #[v, .int .i64 s] w fun e w' => ∃ g, e = .returned (.tuple #[g, .bool (asQ l s)]) ∧ w'.ownsRow w.heap.size 3 1 g (flV l s).length (intVs (flV l s)) ∧ Below w.heap.size w w' := by
  have E0 := Lib.hid (l13Asked_c v l s w hr hn)
  have E1 := Lib.hid (fun h => specFill_c v l s w hr h)
  have HNO := Lib.hid (fl_no (l := l) (s := s))
  obtain ⟨va, vc, hva⟩ := hr.shape
  clear hr
  generalize flV l s = R at *
  generalize asQ l s = b at *
  subst hva
  go_enter Try.func39, Try.ntmps39
  go_wp2_with fail
  refine (E0.out).mono ?_
  rintro e w1 ⟨rfl, rfl⟩
  cases b with
  | false =>
    have HR := Lib.hid (HNO.out rfl)
    go_wp2
    go_ret2
    rw [HR.out]
    exact ⟨_, rfl, World.ownsRow_made w1 #[] 0 (Nat.le_refl _) (by decide) rfl, (Below.refl _ _).alloc (Nat.le_refl _) _⟩
  | true =>
    go_wp2_with fail
    refine (E1.out (by trivial)).mono ?_
    rintro e w2 ⟨g, rfl, o2, b2⟩
    have HO := Lib.hid o2
    have HB := Lib.hid b2
    clear o2 b2
    go_wp2
    go_ret2
    exact ⟨_, rfl, HO.out, HB.out⟩
end Go.Proofs.Ytkjdkfoeolcnkaa
