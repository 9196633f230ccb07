/- Queues with groups: impl.FillCabin, AfterCabin, CabinsNeeded, CabinOf, EmptySeats. Condition: sizes. -/
import Derived.Test.YtkjdkfoeolcnkaaQuE
namespace Go.Proofs.Ytkjdkfoeolcnkaa
open Go.RowKit
set_option linter.unusedVariables false
theorem fl_who {l : List Gro} {s : Int} (h : asQ l s = true) : nIs (whQ l s 0) = flV l s := by
  unfold flV
  rw [h, if_pos rfl]
  show nIs (gs13 (List.range l.length) (inL13 (szQ l) (qkQ l) s (List.range l.length)) (List.range l.length).length) = _
  rw [List.length_range, gs13_ext (q := in13 (szQ l) (qkQ l) l.length s) l.length fun k hk => inL13_range hk]
  exact ix13_gs _ _
theorem nd_zero {l : List Gro} {s : Int} (h : ndQ l s = 0) : flV l s = [] := by
  unfold flV
  cases hb : asQ l s with
  | false => rfl
  | true =>
    unfold ndQ at h
    rw [hb, if_pos rfl] at h
    have h1 := (nd13_is (qk := qkQ l) (as_fit hb)).1.1
    rw [h] at h1
    have h2 : l.length = 0 := by
      have := congrArg List.length h1
      simpa [lf13] using this
    rw [if_pos rfl, h2]; rfl
theorem nd_pos {l : List Gro} {s : Int} (h : 0 < ndQ l s) : asQ l s = true := by
  cases hb : asQ l s with
  | true => rfl
  | false => unfold ndQ at h; rw [hb] at h; simp at h
theorem ndQ_le (l : List Gro) (s : Int) : ndQ l s ≤ 12 := by
  have := ndV_bd l s
  unfold ndV at this
  unfold ndQ
  cases hb : asQ l s with
  | false => simp
  | true => rw [hb, if_pos rfl] at this; rw [if_pos rfl]; omega
theorem ndV_Q (l : List Gro) (s : Int) : ((ndQ l s : Nat) : Int) = ndV l s := by
  unfold ndV ndQ
  cases hb : asQ l s <;> simp
set_option maxRecDepth 100000 in
set_option maxHeartbeats 2000000 in
theorem implFillCabin_c (v : Value) (l : List Gro) (s : Int) (w : World) (hr : Rs w v l.length (gros l)) (hn : l.length ≤ 1048576) :
    Calls Try.prog 28 #[v, .int .i64 s] w fun e w' => ∃ g, e = .returned (.tuple #[g, .bool (asQ l s)]) ∧ w'.ownsRow w.heap.size 3 1 g (flV l s).length (intVs (flV l s)) ∧ Below w.heap.size w w' := by
  have E0 := Lib.hid (cabinsFor_c v l s w hr hn)
  have HN0 := Lib.hid (nd_zero (l := l) (s := s))
  have HNP := Lib.hid (nd_pos (l := l) (s := s))
  have HFW := Lib.hid (fl_who (l := l) (s := s))
  have hN12 := ndQ_le l s
  obtain ⟨va, vc, hva⟩ := hr.shape
  clear hr
  generalize flV l s = R at *
  generalize ndQ l s = N at *
  generalize asQ l s = b at *
  subst hva
  go_enter Try.func28, Try.ntmps28
  go_wp2_with fail
  refine (E0.out).mono ?_
  rintro e w1 ⟨g, vs, rfl, hvl, ho, hro, b1⟩
  have HB1 := Lib.hid b1
  have HRO := Lib.hid hro
  have hs1 := b1.size
  clear b1 hro
  by_cases h0 : N = 0
  · subst h0
    have HR0 := Lib.hid (HN0.out rfl)
    obtain ⟨a, cap, hg⟩ := (Rs.of_own ho).zero
    subst hg
    clear ho
    go_wp2
    go_ret2
    rw [HR0.out]
    exact ⟨_, rfl, World.ownsRow_made w1 #[] 0 hs1 (by decide) rfl, HB1.out.alloc hs1 _⟩
  · have hb := HNP.out (by omega)
    subst hb
    have HR0 := Lib.hid (HFW.out rfl)
    have o1 := HRO.out 0 (by omega)
    have HL0 : Hid ((whQ l s 0).length = R.length) := Lib.hid (by rw [← HR0.out, nIs_len])
    rw [HR0.out, HL0.out] at o1
    rcases own_form ho with ⟨e, _⟩ | ⟨gg, cap, hg, _, _, _, _⟩
    · omega
    · have hc : w1.cell? ⟨gg, 0, none⟩ = some (nv13 vs 0) := by
        subst hg
        have h1 := ho.cellAt 0 (by omega)
        rw [h1]
        simp [nv13, List.getD, show 0 < vs.length by omega]
      generalize nv13 vs 0 = fv at *
      obtain ⟨fa, fc, hfv⟩ := (Rs.of_own o1).shape
      subst hg
      subst hfv
      have t1 : ((N : Int) == 0) = false := by simp; omega
      have hN0 : 0 < N := by omega
      have O1 := Lib.hid o1
      clear ho o1 h0
      go_wp2
      go_ret2
      exact ⟨_, rfl, O1.out, HB1.out⟩
set_option maxRecDepth 100000 in
set_option maxHeartbeats 2000000 in
theorem implCabinsNeeded_c (v : Value) (l : List Gro) (s : Int) (w : World) (hr : Rs w v l.length (gros l)) (hn : l.length ≤ 1048576) :
    Calls Try.prog 16 #[v, .int .i64 s] w fun e w' => e = .returned (.tuple #[.int .i64 (ndV l s), .bool (asQ l s)]) ∧ Below w.heap.size w w' := by
  have E0 := Lib.hid (cabinsFor_c v l s w hr hn)
  have HND := Lib.hid (ndV_Q l s)
  obtain ⟨va, vc, hva⟩ := hr.shape
  clear hr
  subst hva
  go_enter Try.func16, Try.ntmps16
  go_wp2_with fail
  refine (E0.out).mono ?_
  rintro e w1 ⟨g, vs, rfl, hvl, ho, hro, b1⟩
  obtain ⟨a, cap, hg⟩ := (Rs.of_own ho).shape
  subst hg
  clear ho hro
  have HB1 := Lib.hid b1
  clear b1
  go_wp2
  go_ret2
  exact ⟨ret_ib9 HND.out rfl, HB1.out⟩
/-- The first of N at which p holds, or -1. -/
def fg13 (p : Nat → Bool) (N : Nat) : Int := match (List.range N).find? p with
  | some k => (k : Int)
  | none => -1
theorem fg13_hit {p : Nat → Bool} {N k : Nat} (hk : k < N) (h0 : ∀ j, j < k → p j = false) (h : p k = true) : fg13 p N = k := by
  have : (List.range N).find? p = some k := by
    rw [List.find?_range_eq_some]
    exact ⟨h, List.mem_range.2 hk, fun j hj => by rw [h0 j hj]; rfl⟩
  unfold fg13
  rw [this]
theorem fg13_none {p : Nat → Bool} {N : Nat} (h0 : ∀ j, j < N → p j = false) : fg13 p N = -1 := by
  have : (List.range N).find? p = none := by
    rw [List.find?_eq_none]
    intro j hj
    rw [h0 j (List.mem_range.1 hj)]
    decide
  unfold fg13
  rw [this]
theorem cloF13_c (P : Nat) (u : Value) (xs : List Int) (x : Int) (w : World) (hP : w.cell? ⟨P, 0, none⟩ = some (.int .i64 x)) (hu : Rd w u (intVs xs)) (hn : xs.length ≤ 1048576) :
    Calls Try.prog 56 #[u, .pointer (some ⟨P, 0, none⟩)] w fun e w' => e = .returned (.bool (xs.contains x)) ∧ w' = w := by
  have E0 := Lib.hid (contains13_c u xs x w hu hn)
  obtain ⟨ao, a, oa, c, rfl, _, _⟩ := hu.formR
  clear hu
  generalize xs.contains x = bb at *
  go_enter Try.func56, Try.ntmps56
  go_wp2_with fail
  refine (E0.out).mono ?_
  rintro e w1 ⟨rfl, rfl⟩
  go_wp2
  go_ret
  exact ⟨rfl, rfl⟩
set_option maxRecDepth 100000 in
set_option maxHeartbeats 2000000 in
theorem idxC13_c (v : Value) (vs : List Value) (ls : Nat → List Int) (x : Int) (P B B' : Nat) (w : World) (ho : w.ownsRow B 31 1 v vs.length vs) (hro : ∀ k, k < vs.length → w.ownsRow B' 3 1 (nv13 vs k) (ls k).length (intVs (ls k))) (hls : ∀ k, (ls k).length ≤ 12) (hn : vs.length ≤ 12) (hP : w.cell? ⟨P, 0, none⟩ = some (.int .i64 x)) :
    Calls Try.prog 55 #[v, .func (.func 56) #[] #[.pointer (some ⟨P, 0, none⟩)]] w fun e w' => e = .returned (.int .i64 (fg13 (fun k => (ls k).contains x) vs.length)) ∧ w' = w := by
  have HRO := Lib.hid hro
  have HO := Lib.hid ho
  have HC := Lib.hid (fun k (hk : k < vs.length) => cloF13_c P (nv13 vs k) (ls k) x w hP (Rd.of_own (hro k hk)) (by have := hls k; omega))
  have hHIT : Hid (∀ k, k < vs.length → (∀ j, j < k → (ls j).contains x = false) → (ls k).contains x = true → (k : Int) = fg13 (fun k => (ls k).contains x) vs.length) := Lib.hid (fun k hk h0 h => (fg13_hit (p := fun k => (ls k).contains x) hk h0 h).symm)
  have hNON : Hid ((∀ j, j < vs.length → (ls j).contains x = false) → -1 = fg13 (fun k => (ls k).contains x) vs.length) := Lib.hid (fun h0 => (fg13_none (p := fun k => (ls k).contains x) h0).symm)
  generalize fg13 (fun k => (ls k).contains x) vs.length = R at *
  obtain ⟨pc, hpc⟩ : ∃ pc : Nat → Bool, pc = fun k => (ls k).contains x := ⟨_, rfl⟩
  have hpk : ∀ k, (ls k).contains x = pc k := fun k => by rw [hpc]
  simp only [hpk] at HC hHIT hNON
  clear hpk hpc hro hls
  have HSH : Hid (∀ k, k < vs.length → ∃ a c, nv13 vs k = .slice a (ls k).length c) := Lib.hid (fun k hk => (Rs.of_own (HRO.out k hk)).shape)
  rcases own_form ho with ⟨h0, rfl⟩ | ⟨gg, cap, rfl, _, hgw, hnc, hcm⟩
  · clear ho
    go_enter Try.func55, Try.ntmps55
    go_wp2
    refine wp_loop_rounds 1 ?_
    rw [rounds_succ]
    go_wp2
    go_ret
    exact ⟨ret_i13 (hNON.out (fun j hj => by omega)), rfl⟩
  · have HCE : Hid (∀ k, k < vs.length → w.cell? ⟨gg, k, none⟩ = some (nv13 vs k)) := Lib.hid (fun k hk => by
      have h1 := ho.cellAt k (by omega)
      rw [h1]
      simp [nv13, List.getD, hk])
    clear ho
    go_enter Try.func55, Try.ntmps55
    go_wp2
    go_loopw [8] (fun i wr => ∃ k : Nat, k ≤ vs.length ∧ i = .int .i64 k ∧ wr = w ∧ Hid (∀ j, j < k → pc j = false)) (fun i _ => vs.length - (intOf i).toNat)
    case atStart => exact ⟨0, by omega, rfl, by first | rfl | trivial, Lib.hid (fun j h => by omega)⟩
    case round =>
      obtain ⟨k, hk, rfl, rfl, hno⟩ := hrel
      by_cases hlt : k < vs.length
      · have c0 := HCE.out k hlt
        obtain ⟨ka, kc, hkv⟩ := HSH.out k hlt
        have HCK := Lib.hid (HC.out k hlt)
        rw [hkv] at c0 HCK
        have HIS := Lib.hid (hHIT.out k hlt hno.out)
        have HNO : Hid (pc k = false → ∀ j, j < k + 1 → pc j = false) := Lib.hid (fun h j hj => by
          by_cases e : j = k
          · subst e; exact h
          · exact hno.out j (by omega))
        clear hkv
        generalize pc k = b at *
        go_wp2_with fail
        refine (HCK.out).mono ?_
        rintro e w1 ⟨rfl, rfl⟩
        clear c0
        cases b with
        | true =>
          have HX := Lib.hid (HIS.out rfl)
          go_wp2
          go_ret
          exact ⟨ret_i13 HX.out, rfl⟩
        | false =>
          have HN2 := Lib.hid (HNO.out rfl)
          go_wp2
          go_roundw
          case rel => exact ⟨k + 1, by omega, by go_num, by first | rfl | trivial, HN2⟩
          case measure => simp [intOf]; omega
      · obtain rfl : k = vs.length := by omega
        have HX := Lib.hid (hNON.out hno.out)
        go_wp2
        go_ret
        exact ⟨ret_i13 HX.out, rfl⟩
theorem cb_idx {l : List Gro} {s g : Int} (h : cbOk l s g = true) : fg13 (fun k => (nIs (whQ l s k)).contains g) (ndQ l s) = cbV l s g ∧ 0 ≤ cbV l s g ∧ cbV l s g ≤ 12 := by
  have h' := h
  unfold cbOk at h'
  rw [Bool.and_eq_true, inR_iff] at h'
  obtain ⟨ha, hg1, hg2⟩ := h'
  obtain ⟨i, rfl⟩ : ∃ i : Nat, g = (i : Int) := ⟨g.toNat, by omega⟩
  have hi : i < l.length := by omega
  have hN : ndQ l s = nd13 (szQ l) (qkQ l) l.length s := by unfold ndQ; rw [ha, if_pos rfl]
  have hb := ndQ_le l s
  have hcl := (cb13_is (qk := qkQ l) (as_fit ha) hi).2
  have hp : ∀ k, (nIs (whQ l s k)).contains (i : Int) = decide (cb13 (szQ l) (qkQ l) l.length s i = k) := fun k => by
    rw [Bool.eq_iff_iff, List.contains_iff_mem, nIs_mem, decide_eq_true_eq]
    exact (who13_iff (qk := qkQ l) (as_fit ha)).trans ⟨fun h => h.2, fun h => ⟨hi, h⟩⟩
  have e : cbV l s (i : Int) = (cb13 (szQ l) (qkQ l) l.length s i : Int) := by unfold cbV; rw [h, if_pos rfl]; simp
  rw [e]
  refine ⟨?_, by omega, by omega⟩
  refine fg13_hit (by omega) (fun j hj => ?_) ?_
  · rw [hp j]; simp; omega
  · rw [hp]; simp
theorem cb_non {l : List Gro} {s g : Int} (h : cbOk l s g = false) : fg13 (fun k => (nIs (whQ l s k)).contains g) (ndQ l s) = -1 ∧ cbV l s g = 0 := by
  refine ⟨fg13_none fun k hk => ?_, by unfold cbV; rw [h]; rfl⟩
  have ha := nd_pos (l := l) (s := s) (by omega)
  cases hc : (nIs (whQ l s k)).contains g with
  | false => rfl
  | true =>
    rw [List.contains_iff_mem] at hc
    unfold nIs at hc
    obtain ⟨i, hi, rfl⟩ := List.mem_map.1 hc
    have := (who13_iff (qk := qkQ l) (as_fit ha)).1 hi
    unfold cbOk at h
    rw [ha, (inR_iff _ _ _).2 ⟨by omega, by omega⟩] at h
    cases h
set_option maxRecDepth 100000 in
set_option maxHeartbeats 2000000 in
theorem implCabinOf_c (v : Value) (l : List Gro) (s x : Int) (w : World) (hr : Rs w v l.length (gros l)) (hn : l.length ≤ 1048576) :
    Calls Try.prog 21 #[v, .int .i64 s, .int .i64 x] w fun e w' => e = .returned (.tuple #[.int .i64 (cbV l s x), .bool (cbOk l s x)]) ∧ Below w.heap.size w w' := by
  have HB0 := Lib.hid ((Below.refl w.heap.size w).alloc (Nat.le_refl _) (.cells #[.int .i64 x] 3))
  have E0 := Lib.hid (cabinsFor_c v l s (w.alloc (.cells #[.int .i64 x] 3)) (hr.below HB0.out rfl) hn)
  have HC0 : Hid ((w.alloc (.cells #[.int .i64 x] 3)).cell? ⟨w.heap.size, 0, none⟩ = some (.int .i64 x)) := Lib.hid (by rw [World.cell?_alloc_at _ _ _ _ rfl]; rfl)
  have HYES := Lib.hid (cb_idx (l := l) (s := s) (g := x))
  have HNO := Lib.hid (cb_non (l := l) (s := s) (g := x))
  have HN12 := Lib.hid (ndQ_le l s)
  have HW12 : Hid (∀ k, (nIs (whQ l s k)).length ≤ 12 ∨ ndQ l s = 0) := Lib.hid (fun k => by
    by_cases h : ndQ l s = 0
    · exact .inr h
    · have h1 := lfQ_len l s k
      have h2 := gs13_le (lfQ l s k) (inL13 (szQ l) (qkQ l) s (lfQ l s k)) (lfQ l s k).length
      have h3 := is_len (as_is (nd_pos (l := l) (s := s) (by omega)))
      rw [nIs_len]
      exact .inl (by unfold whQ whoL13; omega))
  obtain ⟨F, hF⟩ : ∃ F, F = fg13 (fun k => (nIs (whQ l s k)).contains x) (ndQ l s) := ⟨_, rfl⟩
  rw [← hF] at HYES HNO
  have HF := Lib.hid hF
  clear hF
  obtain ⟨va, vc, hva⟩ := hr.shape
  clear hr
  generalize cbV l s x = R at *
  generalize cbOk l s x = b at *
  subst hva
  go_enter Try.func21, Try.ntmps21
  go_wp2_with fail
  refine (E0.out).mono ?_
  rintro e w1 ⟨g, vs, rfl, hvl, ho, hro, b1⟩
  have HB1 := Lib.hid (HB0.out.trans (b1.mono (by simp)))
  have c1 := (b1.cell (p := ⟨w.heap.size, 0, none⟩) (by simp)).trans HC0.out
  have HE1 : Hid (Calls Try.prog 55 #[g, .func (.func 56) #[] #[.pointer (some ⟨w.heap.size, 0, none⟩)]] w1 fun e w' => e = .returned (.int .i64 F) ∧ w' = w1) := Lib.hid (by
    rw [HF.out]
    have hn12 := HN12.out
    rw [← hvl] at ho hro ⊢
    by_cases hz : vs.length = 0
    · have hz' : ∀ ls : Nat → List Int, fg13 (fun k => (nIs (whQ l s k)).contains x) vs.length = fg13 (fun k => (ls k).contains x) vs.length := fun ls => by rw [hz]; rfl
      rw [hz' fun _ => []]
      exact idxC13_c g vs (fun _ => []) x w.heap.size _ 0 w1 ho (fun k hk => by omega) (fun k => by simp) (by omega) c1
    · exact idxC13_c g vs (fun k => nIs (whQ l s k)) x w.heap.size _ _ w1 ho (fun k hk => by simpa only [nIs_len] using hro k hk) (fun k => (HW12.out k).resolve_right (by omega)) (by omega) c1)
  obtain ⟨a, cap, hg⟩ := (Rs.of_own ho).shape
  subst hg
  clear ho hro b1 c1
  cases b with
  | true =>
    obtain ⟨y1, y2, y3⟩ := HYES.out rfl
    subst y1
    have t1 : decide (F < 0) = false := by simp; omega
    go_wp2_with fail
    refine (HE1.out).mono ?_
    rintro e w2 ⟨rfl, rfl⟩
    go_wp2
    go_ret2
    exact ⟨rfl, HB1.out⟩
  | false =>
    obtain ⟨y1, y2⟩ := HNO.out rfl
    subst y1
    have HY2 := Lib.hid y2
    clear y2
    go_wp2_with fail
    refine (HE1.out).mono ?_
    rintro e w2 ⟨rfl, rfl⟩
    go_wp2
    go_ret2
    exact ⟨ret_ib9 HY2.out.symm rfl, HB1.out⟩
theorem em_val {l : List Gro} {s : Int} (h : asQ l s = true) : ndV l s * s - ppV l = emV l s ∧ 0 ≤ ndV l s * s ∧ ndV l s * s ≤ 120 ∧ 0 ≤ ppV l ∧ ppV l ≤ 96 := by
  have h1 := ndV_bd l s
  have h2 := as_s h
  have h3 := peK_bd (as_is h) (Nat.le_refl _)
  have h4 : 0 ≤ ndV l s * s := Int.mul_nonneg h1.1 (by omega)
  have h5 : ndV l s * s ≤ 12 * 10 := Int.mul_le_mul h1.2 h2.2 (by omega) (by omega)
  refine ⟨?_, h4, by omega, ?_⟩
  · unfold emV ndV ppV
    rw [h, as_is h]; rfl
  · unfold ppV; rw [as_is h, if_pos rfl]; exact h3
theorem em_no {l : List Gro} {s : Int} (h : asQ l s = false) : emV l s = 0 := by unfold emV; rw [h]; rfl
set_option maxRecDepth 100000 in
set_option maxHeartbeats 2000000 in
theorem implEmptySeats_c (v : Value) (l : List Gro) (s : Int) (w : World) (hr : Rs w v l.length (gros l)) (hn : l.length ≤ 1048576) (hw : (Lit.int .i64 s).wf = true) :
    Calls Try.prog 18 #[v, .int .i64 s] w fun e w' => e = .returned (.tuple #[.int .i64 (emV l s), .bool (asQ l s)]) ∧ Below w.heap.size w w' := by
  have E0 := Lib.hid (implCabinsNeeded_c v l s w hr hn)
  have E1 : Hid (∀ W, Below w.heap.size w W → _) := Lib.hid (fun W (h : Below w.heap.size w W) => implPeopleIn_c v l W (hr.below h rfl) hn)
  have HEM := Lib.hid (em_val (l := l) (s := s))
  have HEN := Lib.hid (em_no (l := l) (s := s))
  have HSS := Lib.hid (as_s (l := l) (s := s))
  have HND := Lib.hid (ndV_bd l s)
  obtain ⟨va, vc, hva⟩ := hr.shape
  clear hr
  generalize emV l s = R at *
  generalize ndV l s = N at *
  generalize asQ l s = b at *
  generalize ppV l = PP at *
  subst hva
  go_enter Try.func18, Try.ntmps18
  go_wp2_with fail
  refine (E0.out).mono ?_
  rintro e w1 ⟨rfl, b1⟩
  have HB1 := Lib.hid b1
  clear b1
  cases b with
  | false =>
    have HR := Lib.hid (HEN.out rfl).symm
    go_wp2
    go_ret2
    exact ⟨ret_ib9 HR.out rfl, HB1.out⟩
  | true =>
    obtain ⟨m1, m2, m3, m4, m5⟩ := HEM.out rfl
    obtain ⟨n1, n2⟩ := HSS.out rfl
    obtain ⟨n3, n4⟩ := HND.out
    have HM1 := Lib.hid m1
    clear m1
    have tw : IntKind.i64.wrap (N * s) = N * s := IntWalk.i64_in _ (by omega)
    go_wp2_with fail
    refine (E1.out _ HB1.out).mono ?_
    rintro e w2 ⟨rfl, b2⟩
    have HB2 := Lib.hid (HB1.out.trans (b2.mono HB1.out.size))
    clear b2
    go_wp2
    go_ret2
    exact ⟨ret_ib9 (by rw [← HM1.out]) rfl, HB2.out⟩
end Go.Proofs.Ytkjdkfoeolcnkaa
