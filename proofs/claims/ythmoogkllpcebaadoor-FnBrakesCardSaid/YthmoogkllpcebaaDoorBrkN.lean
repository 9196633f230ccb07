/- The worst loss and the worst pull, as they are exported. Condition: sizes; the library's table is as laid. -/
import Derived.Test.YthmoogkllpcebaaDoorBrkL
namespace Go.Proofs.YthmoogkllpcebaaDoor
open Go.RowKit
set_option linter.unusedVariables false
def wlOk (L S : Int) (l : List Brk) (x : Int) : Bool := lwOk (lsO L S l x) l.length
def wlI (L S : Int) (l : List Brk) (x : Int) : Int := lwI 0 (lsW L S l x) (lsO L S l x) l.length
def wlM (L S : Int) (l : List Brk) (x : Int) : Int := lwM (lsW L S l x) (lsO L S l x) l.length
/-- What stands in the two boxes. -/
theorem box_two (w : World) (a b c d : Value) (s t : TypeId) :
    ((w.alloc (.cells #[a, b, c] s)).alloc (.cells #[d] t)).heap[w.heap.size]? = some (.cells #[a, b, c] s (0, 0)) ∧ ((w.alloc (.cells #[a, b, c] s)).alloc (.cells #[d] t)).cell? ⟨w.heap.size + 1, 0, none⟩ = some d := by
  refine ⟨blk_stay (blk_new3 w a b c s), ?_⟩
  rw [World.cell?_alloc_at _ _ _ _ (by simp)]
  rfl
set_option maxRecDepth 100000 in
set_option maxHeartbeats 4000000 in
theorem implWorstLoss_c (L S : Int) (v : Value) (l : List Brk) (x : Int) (w : World) (hr : Rs w v l.length (brks l)) (hn : l.length ≤ 1048576) (hT : BruP w) :
    Calls Tryd.prog 35 #[.agg #[.int .i64 L, .int .i64 S, v], .int .i64 x] w fun e w' => e = .returned (.tuple #[.int .i64 (wlI L S l x), .int .i64 (wlM L S l x), .bool (wlOk L S l x)]) ∧ Below w.heap.size w w' := by
  have HR := Lib.hid hr
  obtain ⟨a, ca, rfl⟩ := hr.shape
  clear hr
  have HB := Lib.hid (((Below.refl w.heap.size w).alloc (Nat.le_refl _) (.cells #[.int .i64 L, .int .i64 S, .slice a l.length ca] 26)).alloc (by simp) (.cells #[.int .i64 x] 3))
  obtain ⟨HB0, HQ0⟩ := box_two w (.int .i64 L) (.int .i64 S) (.slice a l.length ca) (.int .i64 x) 26 3
  obtain ⟨d0, d1, d2⟩ := blk_cell3 HB0
  have HTB := Lib.hid (hT.below HB.out)
  have q1 : IntKind.i64.wrap ((l.length : Int) - 1) = (l.length : Int) - 1 := IntWalk.i64_in _ (by omega)
  have EL := Lib.hid (longLoss_c L S (.slice a l.length ca) l x ((l.length : Int) - 1) l.length w.heap.size (w.heap.size + 1) _ (HR.out.below HB.out rfl) hn (by omega) (by omega) hn d0 d1 d2 HQ0 (by simp; omega) (by simp) HTB.out)
  clear d0 d1 d2 HB0 HQ0 hT
  go_enter Tryd.func35, Tryd.ntmps35
  go_wp2_with fail
  refine EL.out.mono ?_
  rintro e w1 ⟨rfl, b1⟩
  have HT := Lib.hid (HB.out.trans (b1.mono HB.out.size))
  clear b1
  go_wp2
  go_ret3
  exact ⟨rfl, HT.out⟩
theorem lsB_eq (L S : Int) (l : List Brk) (x : Int) (k : Nat) : lsW L S l x k = wwV L S l x (k : Int) ∧ lsO L S l x k = wwOk L S l x (k : Int) := ⟨rfl, rfl⟩
set_option maxRecDepth 100000 in
set_option maxHeartbeats 4000000 in
theorem specWorstLoss_c (L S : Int) (v : Value) (l : List Brk) (x : Int) (w : World) (hr : Rs w v l.length (brks l)) (hn : l.length ≤ 1048576) :
    Calls Tryd.prog 36 #[.agg #[.int .i64 L, .int .i64 S, v], .int .i64 x] w fun e w' => e = .returned (.tuple #[.int .i64 (wlI L S l x), .int .i64 (wlM L S l x), .bool (wlOk L S l x)]) ∧ Below w.heap.size w w' := by
  have HR := Lib.hid hr
  obtain ⟨a, ca, rfl⟩ := hr.shape
  clear hr
  have HB := Lib.hid ((Below.refl w.heap.size w).alloc (Nat.le_refl _) (.cells #[.int .i64 L, .int .i64 S, .slice a l.length ca] 26))
  have HB0 := Lib.hid (blk_new3 w (.int .i64 L) (.int .i64 S) (.slice a l.length ca) 26)
  have EW := Lib.hid (fun (k : Nat) W h => specWayWithout_c L S (.slice a l.length ca) l x (k : Int) W h hn)
  go_enter Tryd.func36, Tryd.ntmps36
  go_wp2
  generalize hW0 : w.alloc (.cells #[.int .i64 L, .int .i64 S, .slice a l.length ca] 26) = W0 at *
  have hs0 : W0.heap.size = w.heap.size + 1 := by rw [← hW0]; simp
  clear hW0
  go_loopw [7, 8, 9] (fun b m i wr => ∃ k : Nat, k ≤ l.length ∧ i = .int .i64 (k : Int) ∧ b = .int .i64 (topB 0 (lsW L S l x) k) ∧ m = .int .i64 (topM (lsW L S l x) k) ∧ Hid (Below W0.heap.size W0 wr) ∧ Hid (∀ j, j < k → lsO L S l x j = true)) (fun _ _ i _ => l.length - (intOf i).toNat)
  case atStart => exact ⟨0, by omega, rfl, rfl, rfl, Lib.hid (Below.refl _ _), Lib.hid (fun j h => by omega)⟩
  case round =>
    obtain ⟨k, hk, rfl, rfl, rfl, hbel, hno⟩ := hrel
    have hbs := hbel.out.size
    obtain ⟨d0, d1, d2⟩ := blk_cell3 (blk_keep HB0.out hbel.out (by omega))
    by_cases hlt : k < l.length
    · have EC := Lib.hid (EW.out k wr (HR.out.below (HB.out.trans (hbel.out.mono HB.out.size)) rfl))
      have hg0 : 0 ≤ lsW L S l x k := wwV_nonneg ..
      rw [← (lsB_eq L S l x k).1, ← (lsB_eq L S l x k).2] at EC
      have q1 : IntKind.i64.wrap ((k : Int) + 1) = (k : Int) + 1 := IntWalk.i64_in _ (by omega)
      have HBAD := Lib.hid (fun h : lsO L S l x k = false => lw_bad (lo := 0) (g := lsW L S l x) hlt h)
      have HNX : Hid (lsO L S l x k = true → ∀ j, j < k + 1 → lsO L S l x j = true) := Lib.hid (fun h j hj => by
        by_cases e : j = k
        · subst e; exact h
        · exact hno.out j (by omega))
      have HYES := Lib.hid (fun h => top_yes 0 (g := lsW L S l x) (k := k) h)
      have HNO := Lib.hid (fun h => top_no 0 (g := lsW L S l x) (k := k) hg0 h)
      generalize hGK : lsW L S l x k = GK at *
      generalize hFK : lsO L S l x k = FK at *
      clear hGK hFK
      generalize hTM : topM (lsW L S l x) k = TM at *
      generalize hTB : topB 0 (lsW L S l x) k = TB at *
      clear hTM hTB
      cases FK with
      | false =>
        have HX := Lib.hid (HBAD.out rfl)
        clear HYES HNO HNX HBAD
        go_wp2_with fail
        refine EC.out.mono ?_
        rintro e w1 ⟨rfl, b1⟩
        have HT := Lib.hid (HB.out.trans ((hbel.out.trans (b1.mono hbs)).mono HB.out.size))
        clear b1
        go_wp2
        go_ret3
        exact ⟨ret_iib10 HX.out.1.symm HX.out.2.1.symm HX.out.2.2.symm, HT.out⟩
      | true =>
        have HN2 := Lib.hid (HNX.out rfl)
        by_cases ht : TM < GK
        · have HX := Lib.hid (HYES.out ht)
          have t1 : decide (TM < GK) = true := by simpa using ht
          clear ht HYES HNO HNX HBAD
          go_wp2_with fail
          refine EC.out.mono ?_
          rintro e w1 ⟨rfl, b1⟩
          have HB2 := Lib.hid (hbel.out.trans (b1.mono hbs))
          clear b1
          go_wp2
          go_roundw
          case rel => exact ⟨k + 1, by omega, by go_num, by rw [HX.out.1]; simp, by rw [HX.out.2], HB2, HN2⟩
          case measure => simp [intOf]; omega
        · have HX := Lib.hid (HNO.out ht)
          have t1 : decide (TM < GK) = false := by simpa using ht
          clear ht HYES HNO HNX HBAD
          go_wp2_with fail
          refine EC.out.mono ?_
          rintro e w1 ⟨rfl, b1⟩
          have HB2 := Lib.hid (hbel.out.trans (b1.mono hbs))
          clear b1
          go_wp2
          go_roundw
          case rel => exact ⟨k + 1, by omega, by go_num, by rw [HX.out.1], by rw [HX.out.2], HB2, HN2⟩
          case measure => simp [intOf]; omega
    · have hkl : k = l.length := by omega
      have HKL := Lib.hid hkl
      have HT := Lib.hid (HB.out.trans (hbel.out.mono HB.out.size))
      have t0 : decide ((k : Int) < (l.length : Int)) = false := by simp; omega
      by_cases h0 : k = 0
      · have HX : Hid (wlI L S l x = 0 ∧ wlM L S l x = 0 ∧ wlOk L S l x = false) := Lib.hid (by
          unfold wlI wlM wlOk
          rw [← hkl, h0]
          exact lw_zero 0 _ _)
        have t1 : decide (topM (lsW L S l x) k < 0) = true := by rw [h0]; simp [topM]
        generalize topM (lsW L S l x) k = TM at *
        generalize topB 0 (lsW L S l x) k = TB at *
        clear h0 hkl
        go_wp2
        go_ret3
        exact ⟨ret_iib10 HX.out.1.symm HX.out.2.1.symm HX.out.2.2.symm, HT.out⟩
      · have HX : Hid (wlI L S l x = topB 0 (lsW L S l x) k ∧ wlM L S l x = topM (lsW L S l x) k ∧ wlOk L S l x = true) := Lib.hid (by
          unfold wlI wlM wlOk
          rw [← hkl]
          exact lw_all (by omega) hno.out)
        have t1 : decide (topM (lsW L S l x) k < 0) = false := by
          have := topM_pos (g := lsW L S l x) (n := k) (by omega) (fun j _ => wwV_nonneg ..)
          simp; omega
        generalize topM (lsW L S l x) k = TM at *
        generalize topB 0 (lsW L S l x) k = TB at *
        clear h0 hkl
        go_wp2
        go_ret3
        exact ⟨ret_iib10 HX.out.1.symm HX.out.2.1.symm HX.out.2.2.symm, HT.out⟩
/-- How many pulls there are. -/
def cnt10 (lo hi : Int) : Nat := (hi - lo + 1).toNat
def rng10 (lo hi : Int) : Bool := inR lo (-100000) 100000 && inR hi lo (min (lo + 100) 100000)
def wpOk (L S : Int) (l : List Brk) (x lo hi : Int) : Bool := drvOk L S l && rng10 lo hi && lwOk (puO L l x lo) (cnt10 lo hi)
def wpI (L S : Int) (l : List Brk) (x lo hi : Int) : Int := if wpOk L S l x lo hi then topB lo (puW L l x lo) (cnt10 lo hi) else 0
def wpM (L S : Int) (l : List Brk) (x lo hi : Int) : Int := if wpOk L S l x lo hi then topM (puW L l x lo) (cnt10 lo hi) else 0
theorem wp_no {L S : Int} {l : List Brk} {x lo hi : Int} (h : wpOk L S l x lo hi = false) : wpI L S l x lo hi = 0 ∧ wpM L S l x lo hi = 0 ∧ wpOk L S l x lo hi = false := by simp [wpI, wpM, h]
theorem wp_in {L S : Int} {l : List Brk} {x lo hi : Int} (h : drvOk L S l = true) (g : rng10 lo hi = true) : wpI L S l x lo hi = lwI lo (puW L l x lo) (puO L l x lo) (cnt10 lo hi) ∧ wpM L S l x lo hi = lwM (puW L l x lo) (puO L l x lo) (cnt10 lo hi) ∧ wpOk L S l x lo hi = lwOk (puO L l x lo) (cnt10 lo hi) := by
  have e : wpOk L S l x lo hi = lwOk (puO L l x lo) (cnt10 lo hi) := by simp [wpOk, h, g]
  refine ⟨?_, ?_, e⟩
  · unfold wpI lwI; rw [e]
  · unfold wpM lwM; rw [e]
theorem rng_iff (lo hi : Int) : rng10 lo hi = true ↔ (-100000 ≤ lo ∧ lo ≤ 100000) ∧ lo ≤ hi ∧ hi ≤ 100000 ∧ hi - lo ≤ 100 := by
  unfold rng10
  rw [Bool.and_eq_true, inR_iff, inR_iff]
  constructor
  · rintro ⟨a, b, c⟩; refine ⟨a, b, ?_, ?_⟩ <;> omega
  · rintro ⟨a, b, c, d⟩; refine ⟨a, b, ?_⟩; omega
theorem cnt_hi {lo hi : Int} (h : lo ≤ hi) : hi = lo + (cnt10 lo hi : Int) - 1 := by unfold cnt10; omega
theorem wp_off {L S : Int} {l : List Brk} {x lo hi : Int} (h : drvOk L S l = false ∨ rng10 lo hi = false) : wpOk L S l x lo hi = false := by
  rcases h with h | h <;> simp [wpOk, h]
theorem wp_unasked {L S : Int} {l : List Brk} {x lo hi : Int} (h : ask10 L S l x = false) : wpOk L S l x lo hi = false := by
  cases hd : drvOk L S l with
  | false => exact wp_off (.inl hd)
  | true =>
    have hx : inR x 0 100 = false := by unfold ask10 at h; rw [hd] at h; simpa using h
    have hf : ∀ k, puO L l x lo k = false := fun k => by simp [puO, sw10, ask10, hx]
    have : lwOk (puO L l x lo) (cnt10 lo hi) = false := by
      by_cases h0 : 0 < cnt10 lo hi
      · exact (lw_bad (lo := 0) (g := puW L l x lo) h0 (hf 0)).2.2
      · rw [show cnt10 lo hi = 0 by omega]; exact (lw_zero 0 (puW L l x lo) _).2.2
    simp [wpOk, this]
set_option maxRecDepth 100000 in
set_option maxHeartbeats 4000000 in
theorem implWorstPull_c (L S : Int) (v : Value) (l : List Brk) (x lo hi : Int) (w : World) (hr : Rs w v l.length (brks l)) (hn : l.length ≤ 1048576) (hT : BruP w) :
    Calls Tryd.prog 32 #[.agg #[.int .i64 L, .int .i64 S, v], .int .i64 x, .int .i64 lo, .int .i64 hi] w fun e w' => e = .returned (.tuple #[.int .i64 (wpI L S l x lo hi), .int .i64 (wpM L S l x lo hi), .bool (wpOk L S l x lo hi)]) ∧ Below w.heap.size w w' := by
  have HR := Lib.hid hr
  obtain ⟨a, ca, rfl⟩ := hr.shape
  clear hr
  have HB := Lib.hid (((Below.refl w.heap.size w).alloc (Nat.le_refl _) (.cells #[.int .i64 L, .int .i64 S, .slice a l.length ca] 26)).alloc (by simp) (.cells #[.int .i64 x] 3))
  obtain ⟨HB0, HQ0⟩ := box_two w (.int .i64 L) (.int .i64 S) (.slice a l.length ca) (.int .i64 x) 26 3
  have HBB := Lib.hid (And.intro HB0 HQ0)
  have HTB := Lib.hid (hT.below HB.out)
  have E0 := Lib.hid (fun W h => implIsDrive_c L S (.slice a l.length ca) l W h hn)
  have E1 := Lib.hid (fun W => within_c lo (-100000) 100000 W)
  have E2 := Lib.hid (fun W => within_c hi lo (min (lo + 100) 100000) W)
  have hd : rng10 lo hi = (inR lo (-100000) 100000 && inR hi lo (min (lo + 100) 100000)) := rfl
  clear HB0 HQ0 hT
  cases hk : drvOk L S l with
  | false =>
    rw [hk] at E0
    have HX := Lib.hid (wp_no (wp_off (x := x) (lo := lo) (hi := hi) (.inl hk)))
    clear hk hd
    go_enter Tryd.func32, Tryd.ntmps32
    go_wp2_with fail
    refine (E0.out _ (HR.out.below HB.out rfl)).mono ?_
    rintro e w1 ⟨rfl, b1⟩
    have HT := Lib.hid (HB.out.trans (b1.mono HB.out.size))
    clear b1
    go_wp2
    go_ret3
    exact ⟨ret_iib10 HX.out.1.symm HX.out.2.1.symm HX.out.2.2.symm, HT.out⟩
  | true =>
    cases hm : inR lo (-100000) 100000 with
    | false =>
      rw [hk] at E0
      rw [hm] at E1 hd
      have HX := Lib.hid (wp_no (wp_off (L := L) (S := S) (l := l) (x := x) (lo := lo) (hi := hi) (.inr hd)))
      clear hk hd hm
      go_enter Tryd.func32, Tryd.ntmps32
      go_wp2_with fail
      refine (E0.out _ (HR.out.below HB.out rfl)).mono ?_
      rintro e w1 ⟨rfl, b1⟩
      have HT := Lib.hid (HB.out.trans (b1.mono HB.out.size))
      clear b1
      go_wp2_with fail
      refine (E1.out _).mono ?_
      rintro e w2 ⟨rfl, rfl⟩
      go_wp2
      go_ret3
      exact ⟨ret_iib10 HX.out.1.symm HX.out.2.1.symm HX.out.2.2.symm, HT.out⟩
    | true =>
      have hlo := (inR_iff _ _ _).1 hm
      have q1 : IntKind.i64.wrap (lo + 100) = lo + 100 := IntWalk.i64_in _ (by omega)
      by_cases hc : lo + 100 ≤ 100000
      · have hmn : min (lo + 100) 100000 = (lo + 100) := by omega
        rw [hmn] at E2 hd
        clear hmn
        cases ho : inR hi lo (lo + 100) with
        | false =>
          rw [hk] at E0
          rw [ho] at E2 hd
          rw [hm] at E1 hd
          have HX := Lib.hid (wp_no (wp_off (L := L) (S := S) (l := l) (x := x) (lo := lo) (hi := hi) (.inr hd)))
          clear hk hd hm ho
          go_enter Tryd.func32, Tryd.ntmps32
          go_wp2_with fail
          refine (E0.out _ (HR.out.below HB.out rfl)).mono ?_
          rintro e w1 ⟨rfl, b1⟩
          have HT := Lib.hid (HB.out.trans (b1.mono HB.out.size))
          clear b1
          go_wp2_with fail
          refine (E1.out _).mono ?_
          rintro e w2 ⟨rfl, rfl⟩
          go_wp2_with fail
          refine (E2.out _).mono ?_
          rintro e w3 ⟨rfl, rfl⟩
          go_wp2
          go_ret3
          exact ⟨ret_iib10 HX.out.1.symm HX.out.2.1.symm HX.out.2.2.symm, HT.out⟩
        | true =>
          have hr10 : rng10 lo hi = true := by rw [hd, hm, ho]; rfl
          obtain ⟨_, r1, r2, r3⟩ := (rng_iff _ _).1 hr10
          have HCN := Lib.hid (cnt_hi r1)
          have HCB : Hid (cnt10 lo hi ≤ 1048576) := Lib.hid (by unfold cnt10; omega)
          have HX := Lib.hid (wp_in (x := x) hk hr10)
          rw [hk] at E0
          rw [ho] at E2
          rw [hm] at E1
          clear hk hd hm ho hr10 r1 r2 r3
          go_enter Tryd.func32, Tryd.ntmps32
          go_wp2_with fail
          refine (E0.out _ (HR.out.below HB.out rfl)).mono ?_
          rintro e w1 ⟨rfl, b1⟩
          have HT := Lib.hid (HB.out.trans (b1.mono HB.out.size))
          have hs1 := b1.size
          simp at hs1
          obtain ⟨d0, d1, d2⟩ := blk_cell3 (blk_keep HBB.out.1 b1 (by simp; omega))
          have EL := Lib.hid (longPull_c L S (.slice a l.length ca) l x hi lo (cnt10 lo hi) w.heap.size (w.heap.size + 1) w1 (HR.out.below HT.out rfl) hn HCN.out hlo HCB.out d0 d1 d2 ((b1.cell (p := ⟨w.heap.size + 1, 0, none⟩) (by simp)).trans HBB.out.2) (by omega) (by omega) (HTB.out.below b1))
          clear b1 d0 d1 d2
          go_wp2_with fail
          refine (E1.out _).mono ?_
          rintro e w2 ⟨rfl, rfl⟩
          go_wp2_with fail
          refine (E2.out _).mono ?_
          rintro e w3 ⟨rfl, rfl⟩
          go_wp2_with fail
          refine EL.out.mono ?_
          rintro e w4 ⟨rfl, b4⟩
          have HT4 := Lib.hid (HT.out.trans (b4.mono HT.out.size))
          clear b4
          go_wp2
          go_ret3
          exact ⟨ret_iib10 HX.out.1.symm HX.out.2.1.symm HX.out.2.2.symm, HT4.out⟩
      · have hmn : min (lo + 100) 100000 = 100000 := by omega
        rw [hmn] at E2 hd
        clear hmn
        cases ho : inR hi lo 100000 with
        | false =>
          rw [hk] at E0
          rw [ho] at E2 hd
          rw [hm] at E1 hd
          have HX := Lib.hid (wp_no (wp_off (L := L) (S := S) (l := l) (x := x) (lo := lo) (hi := hi) (.inr hd)))
          clear hk hd hm ho
          go_enter Tryd.func32, Tryd.ntmps32
          go_wp2_with fail
          refine (E0.out _ (HR.out.below HB.out rfl)).mono ?_
          rintro e w1 ⟨rfl, b1⟩
          have HT := Lib.hid (HB.out.trans (b1.mono HB.out.size))
          clear b1
          go_wp2_with fail
          refine (E1.out _).mono ?_
          rintro e w2 ⟨rfl, rfl⟩
          go_wp2_with fail
          refine (E2.out _).mono ?_
          rintro e w3 ⟨rfl, rfl⟩
          go_wp2
          go_ret3
          exact ⟨ret_iib10 HX.out.1.symm HX.out.2.1.symm HX.out.2.2.symm, HT.out⟩
        | true =>
          have hr10 : rng10 lo hi = true := by rw [hd, hm, ho]; rfl
          obtain ⟨_, r1, r2, r3⟩ := (rng_iff _ _).1 hr10
          have HCN := Lib.hid (cnt_hi r1)
          have HCB : Hid (cnt10 lo hi ≤ 1048576) := Lib.hid (by unfold cnt10; omega)
          have HX := Lib.hid (wp_in (x := x) hk hr10)
          rw [hk] at E0
          rw [ho] at E2
          rw [hm] at E1
          clear hk hd hm ho hr10 r1 r2 r3
          go_enter Tryd.func32, Tryd.ntmps32
          go_wp2_with fail
          refine (E0.out _ (HR.out.below HB.out rfl)).mono ?_
          rintro e w1 ⟨rfl, b1⟩
          have HT := Lib.hid (HB.out.trans (b1.mono HB.out.size))
          have hs1 := b1.size
          simp at hs1
          obtain ⟨d0, d1, d2⟩ := blk_cell3 (blk_keep HBB.out.1 b1 (by simp; omega))
          have EL := Lib.hid (longPull_c L S (.slice a l.length ca) l x hi lo (cnt10 lo hi) w.heap.size (w.heap.size + 1) w1 (HR.out.below HT.out rfl) hn HCN.out hlo HCB.out d0 d1 d2 ((b1.cell (p := ⟨w.heap.size + 1, 0, none⟩) (by simp)).trans HBB.out.2) (by omega) (by omega) (HTB.out.below b1))
          clear b1 d0 d1 d2
          go_wp2_with fail
          refine (E1.out _).mono ?_
          rintro e w2 ⟨rfl, rfl⟩
          go_wp2_with fail
          refine (E2.out _).mono ?_
          rintro e w3 ⟨rfl, rfl⟩
          go_wp2_with fail
          refine EL.out.mono ?_
          rintro e w4 ⟨rfl, b4⟩
          have HT4 := Lib.hid (HT.out.trans (b4.mono HT.out.size))
          clear b4
          go_wp2
          go_ret3
          exact ⟨ret_iib10 HX.out.1.symm HX.out.2.1.symm HX.out.2.2.symm, HT4.out⟩
theorem ask_pull {L S : Int} {l : List Brk} {x n : Int} (h : ask10 L S l x = true) (hn : -100000 ≤ n ∧ n ≤ 100000) : ask10 L n l x = true := by
  obtain ⟨h1, h2⟩ := (ask10_iff _ _ _ _).1 h
  obtain ⟨a, _, c⟩ := (drvOk_iff _ _ _).1 h1
  exact (ask10_iff _ _ _ _).2 ⟨(drvOk_iff _ _ _).2 ⟨a, hn, c⟩, h2⟩
theorem pu_yes {L : Int} {l : List Brk} {x lo : Int} {k : Nat} (h : ask10 L (lo + k) l x = true) (g : stp10 L (lo + k) l x (full10 l.length) = true) : puO L l x lo k = true ∧ puW L l x lo k = wyS L (lo + k) l x (full10 l.length) := by
  obtain ⟨a, _, c⟩ := sw10_yes h g
  exact ⟨a, by unfold puW; rw [c]; simp [wyS, g]⟩
theorem pu_not {L : Int} {l : List Brk} {x lo : Int} {k : Nat} (g : stp10 L (lo + k) l x (full10 l.length) = false) : puO L l x lo k = false := (sw10_stay g).1
set_option maxRecDepth 100000 in
set_option maxHeartbeats 4000000 in
theorem specWorstPull_c (L S : Int) (v : Value) (l : List Brk) (x lo hi : Int) (w : World) (hr : Rs w v l.length (brks l)) (hn : l.length ≤ 1048576) :
    Calls Tryd.prog 33 #[.agg #[.int .i64 L, .int .i64 S, v], .int .i64 x, .int .i64 lo, .int .i64 hi] w fun e w' => e = .returned (.tuple #[.int .i64 (wpI L S l x lo hi), .int .i64 (wpM L S l x lo hi), .bool (wpOk L S l x lo hi)]) ∧ Below w.heap.size w w' := by
  have HR := Lib.hid hr
  obtain ⟨a, ca, rfl⟩ := hr.shape
  clear hr
  have HB := Lib.hid ((Below.refl w.heap.size w).alloc (Nat.le_refl _) (.cells #[.int .i64 L, .int .i64 S, .slice a l.length ca] 26))
  have HB0 := Lib.hid (blk_new3 w (.int .i64 L) (.int .i64 S) (.slice a l.length ca) 26)
  have E0 := Lib.hid (fun W h => l10Asked_c L S (.slice a l.length ca) l x W h hn)
  have E1 := Lib.hid (fun W => l1In_c lo (-100000) 100000 W)
  have E2 := Lib.hid (fun W => l1In_c hi lo 100000 W)
  cases hk : ask10 L S l x with
  | false =>
    rw [hk] at E0
    have HX := Lib.hid (wp_no (wp_unasked (lo := lo) (hi := hi) hk))
    clear hk
    go_enter Tryd.func33, Tryd.ntmps33
    go_wp2_with fail
    refine (E0.out _ (HR.out.below HB.out rfl)).mono ?_
    rintro e w1 ⟨rfl, b1⟩
    have HT := Lib.hid (HB.out.trans (b1.mono HB.out.size))
    clear b1
    go_wp2
    go_ret3
    exact ⟨ret_iib10 HX.out.1.symm HX.out.2.1.symm HX.out.2.2.symm, HT.out⟩
  | true =>
    cases hm : inR lo (-100000) 100000 with
    | false =>
      rw [hk] at E0
      rw [hm] at E1
      have HX := Lib.hid (wp_no (wp_off (L := L) (S := S) (l := l) (x := x) (lo := lo) (hi := hi) (.inr (by simp [rng10, hm]))))
      clear hk hm
      go_enter Tryd.func33, Tryd.ntmps33
      go_wp2_with fail
      refine (E0.out _ (HR.out.below HB.out rfl)).mono ?_
      rintro e w1 ⟨rfl, b1⟩
      have HT := Lib.hid (HB.out.trans (b1.mono HB.out.size))
      clear b1
      go_wp2_with fail
      refine (E1.out _).mono ?_
      rintro e w2 ⟨rfl, rfl⟩
      go_wp2
      go_ret3
      exact ⟨ret_iib10 HX.out.1.symm HX.out.2.1.symm HX.out.2.2.symm, HT.out⟩
    | true =>
      have hlo := (inR_iff _ _ _).1 hm
      cases ho : inR hi lo 100000 with
      | false =>
        rw [hk] at E0
        rw [ho] at E2
        rw [hm] at E1
        have HX := Lib.hid (wp_no (wp_off (L := L) (S := S) (l := l) (x := x) (lo := lo) (hi := hi) (.inr (by
          rw [Bool.eq_false_iff]
          intro hh
          have := (rng_iff _ _).1 hh
          have := (inR_no _ _ _).1 ho
          omega))))
        clear hk hm ho
        go_enter Tryd.func33, Tryd.ntmps33
        go_wp2_with fail
        refine (E0.out _ (HR.out.below HB.out rfl)).mono ?_
        rintro e w1 ⟨rfl, b1⟩
        have HT := Lib.hid (HB.out.trans (b1.mono HB.out.size))
        clear b1
        go_wp2_with fail
        refine (E1.out _).mono ?_
        rintro e w2 ⟨rfl, rfl⟩
        go_wp2_with fail
        refine (E2.out _).mono ?_
        rintro e w3 ⟨rfl, rfl⟩
        go_wp2
        go_ret3
        exact ⟨ret_iib10 HX.out.1.symm HX.out.2.1.symm HX.out.2.2.symm, HT.out⟩
      | true =>
        have hhi := (inR_iff _ _ _).1 ho
        have q1 : IntKind.i64.wrap (hi - lo) = hi - lo := IntWalk.i64_in _ (by omega)
        by_cases hw : 100 < hi - lo
        · rw [hk] at E0
          rw [ho] at E2
          rw [hm] at E1
          have t1 : decide (100 < hi - lo) = true := by simpa using hw
          have HX := Lib.hid (wp_no (wp_off (L := L) (S := S) (l := l) (x := x) (lo := lo) (hi := hi) (.inr (by
            rw [Bool.eq_false_iff]
            intro hh
            have := (rng_iff _ _).1 hh
            omega))))
          clear hk hm ho hw
          go_enter Tryd.func33, Tryd.ntmps33
          go_wp2_with fail
          refine (E0.out _ (HR.out.below HB.out rfl)).mono ?_
          rintro e w1 ⟨rfl, b1⟩
          have HT := Lib.hid (HB.out.trans (b1.mono HB.out.size))
          clear b1
          go_wp2_with fail
          refine (E1.out _).mono ?_
          rintro e w2 ⟨rfl, rfl⟩
          go_wp2_with fail
          refine (E2.out _).mono ?_
          rintro e w3 ⟨rfl, rfl⟩
          go_wp2
          go_ret3
          exact ⟨ret_iib10 HX.out.1.symm HX.out.2.1.symm HX.out.2.2.symm, HT.out⟩
        · have t1 : decide (100 < hi - lo) = false := by simpa using hw
          have hr10 : rng10 lo hi = true := (rng_iff _ _).2 ⟨hlo, by omega⟩
          have HX := Lib.hid (wp_in (x := x) ((ask10_iff _ _ _ _).1 hk).1 hr10)
          have hl4 := ask_len hk
          have HCN := Lib.hid (cnt_hi hhi.1)
          have HCP : Hid (0 < cnt10 lo hi ∧ cnt10 lo hi ≤ 101) := Lib.hid (by unfold cnt10; omega)
          have HAP := Lib.hid (fun (n : Int) (h : -100000 ≤ n ∧ n ≤ 100000) => ask_pull hk h)
          rw [hk] at E0
          rw [ho] at E2
          rw [hm] at E1
          generalize hcn : cnt10 lo hi = n at *
          clear hk hm ho hw hr10 hcn
          go_enter Tryd.func33, Tryd.ntmps33
          go_wp2_with fail
          refine (E0.out _ (HR.out.below HB.out rfl)).mono ?_
          rintro e w1 ⟨rfl, b1⟩
          have HT := Lib.hid (HB.out.trans (b1.mono HB.out.size))
          have HK1 := Lib.hid (blk_keep HB0.out b1 (by simp))
          have hw1 : w.heap.size < w1.heap.size := by have := b1.size; simp at this; omega
          clear b1
          go_wp2_with fail
          refine (E1.out _).mono ?_
          rintro e w2 ⟨rfl, rfl⟩
          go_wp2_with fail
          refine (E2.out _).mono ?_
          rintro e w3 ⟨rfl, rfl⟩
          go_wp2
          go_loopw [11, 12, 13] (fun b m i wr => ∃ k : Nat, k ≤ n ∧ i = .int .i64 (lo + (k : Int)) ∧ b = .int .i64 (topB lo (puW L l x lo) k) ∧ m = .int .i64 (topM (puW L l x lo) k) ∧ Hid (Below w3.heap.size w3 wr) ∧ Hid (∀ j, j < k → puO L l x lo j = true)) (fun _ _ i _ => (lo + (n : Int) - intOf i).toNat)
          case atStart => exact ⟨0, by omega, by simp, rfl, rfl, Lib.hid (Below.refl _ _), Lib.hid (fun j h => by omega)⟩
          case round =>
            obtain ⟨k, hk, rfl, rfl, rfl, hbel, hno⟩ := hrel
            have hbs := hbel.out.size
            have HTR := Lib.hid (HT.out.trans (hbel.out.mono HT.out.size))
            by_cases hlt : k < n
            · have hcb := HCP.out
              have t0 : decide (lo + (k : Int) ≤ hi) = true := by have := HCN.out; simp; omega
              have hpu : -100000 ≤ lo + (k : Int) ∧ lo + (k : Int) ≤ 100000 := by have := HCN.out; omega
              have hak := HAP.out _ hpu
              have q2 : IntKind.i64.wrap (lo + (k : Int) + 1) = lo + (k : Int) + 1 := IntWalk.i64_in _ (by omega)
              have HAL := Lib.hid (fun (z : Aft wr) => l10All_c L S (.slice a l.length ca) l z.w (HR.out.below (HTR.out.trans (z.below.mono HTR.out.size)) rfl) hl4)
              have HWY := Lib.hid (fun (z : Aft wr) => l10Way_c L (lo + (k : Int)) (.slice a l.length ca) l x (full10 l.length) z.w (HR.out.below (HTR.out.trans (z.below.mono HTR.out.size)) rfl) hak (full_lt _))
              have HLT := Lib.hid (wyS_lt (s := full10 l.length) hak)
              have HPY := Lib.hid (fun g => pu_yes (k := k) hak g)
              have HPN := Lib.hid (fun g => pu_not (L := L) (l := l) (x := x) (lo := lo) (k := k) g)
              have HBAD := Lib.hid (fun h : puO L l x lo k = false => lw_bad (lo := lo) (g := puW L l x lo) hlt h)
              have HNX : Hid (puO L l x lo k = true → ∀ j, j < k + 1 → puO L l x lo j = true) := Lib.hid (fun h j hj => by
                by_cases e : j = k
                · subst e; exact h
                · exact hno.out j (by omega))
              have HYES := Lib.hid (fun h => top_yes lo (g := puW L l x lo) (k := k) h)
              have HNO := Lib.hid (fun (h0 : 0 ≤ puW L l x lo k) h => top_no lo (g := puW L l x lo) (k := k) h0 h)
              obtain ⟨d0, d1, d2⟩ := blk_cell3 (blk_keep HK1.out hbel.out hw1)
              have D0 : ∀ z : Aft wr, z.w.cell? ⟨w.heap.size, 0, none⟩ = some (.int .i64 L) := fun z => z.cell d0
              have D1 : ∀ z : Aft wr, z.w.cell? ⟨w.heap.size, 1, none⟩ = some (.int .i64 S) := fun z => z.cell d1
              have D2 : ∀ z : Aft wr, z.w.cell? ⟨w.heap.size, 2, none⟩ = some (.slice a l.length ca) := fun z => z.cell d2
              clear d0 d1 d2
              generalize hf1 : full10 l.length = fl at *
              clear hf1 hak
              generalize hTM : topM (puW L l x lo) k = TM at *
              generalize hTB : topB lo (puW L l x lo) k = TB at *
              clear hTM hTB
              go_wp2_with fail
              refine wp_region_aft (w0 := wr) (by kernel_rfl) (by kernel_rfl) (Below.refl _ _) ?_
              repeat (go_big_quiet_step (first | (go_at_call 55; exact aft_of (HAL.out _)) | (go_at_call 56; exact aft_of (HWY.out _)) | fail))
              refine wpQuiet_nil ?_
              rintro Y3 ⟨⟨_, b3⟩, rfl⟩
              try simp only []
              clear D0 D1 D2
              have HB3 := Lib.hid (hbel.out.trans (b3.mono hbs))
              have HT3 := Lib.hid (HT.out.trans (HB3.out.mono HT.out.size))
              clear b3 HAL HWY
              cases hst : stp10 L (lo + (k : Int)) l x fl with
              | false =>
                have HX2 := Lib.hid (HBAD.out (HPN.out hst))
                have t3 := HLT.out
                rw [hst] at t3
                simp only [Bool.not_false] at t3
                clear hst HYES HNO HNX HBAD HPY HPN
                generalize wyS L (lo + (k : Int)) l x fl = wy at *
                go_wp2
                go_ret3
                exact ⟨ret_iib10 (by rw [HX.out.1, HX2.out.1]) (by rw [HX.out.2.1, HX2.out.2.1]) (by rw [HX.out.2.2, HX2.out.2.2]), HT3.out⟩
              | true =>
                obtain ⟨g1, g2⟩ := HPY.out hst
                have HN2 := Lib.hid (HNX.out g1)
                have t3 := HLT.out
                rw [hst] at t3
                simp only [Bool.not_true] at t3
                rw [g2] at HYES HNO
                clear hst g1 g2 HNX HBAD HPY HPN
                generalize wyS L (lo + (k : Int)) l x fl = wy at *
                have hwy : 0 ≤ wy := by simp at t3; exact t3
                by_cases ht : TM < wy
                · have HX2 := Lib.hid (HYES.out ht)
                  have t4 : decide (TM < wy) = true := by simpa using ht
                  clear ht HYES HNO
                  go_wp2
                  go_roundw
                  case rel => exact ⟨k + 1, by omega, by go_num, by rw [HX2.out.1], by rw [HX2.out.2], HB3, HN2⟩
                  case measure => simp [intOf]; omega
                · have HX2 := Lib.hid (HNO.out hwy (by omega))
                  have t4 : decide (TM < wy) = false := by simpa using ht
                  clear ht HYES HNO
                  go_wp2
                  go_roundw
                  case rel => exact ⟨k + 1, by omega, by go_num, by rw [HX2.out.1], by rw [HX2.out.2], HB3, HN2⟩
                  case measure => simp [intOf]; omega
            · have hkn : k = n := by omega
              have HX2 : Hid (lwI lo (puW L l x lo) (puO L l x lo) n = topB lo (puW L l x lo) k ∧ lwM (puW L l x lo) (puO L l x lo) n = topM (puW L l x lo) k ∧ lwOk (puO L l x lo) n = true) := Lib.hid (by
                rw [← hkn]
                exact lw_all (by have := HCP.out; omega) hno.out)
              have t0 : decide (lo + (k : Int) ≤ hi) = false := by have := HCN.out; simp; omega
              generalize topM (puW L l x lo) k = TM at *
              generalize topB lo (puW L l x lo) k = TB at *
              clear hkn hlt
              go_wp2
              go_ret3
              exact ⟨ret_iib10 (by rw [HX.out.1, HX2.out.1]) (by rw [HX.out.2.1, HX2.out.2.1]) (by rw [HX.out.2.2, HX2.out.2.2]), HTR.out⟩
end Go.Proofs.YthmoogkllpcebaaDoor
