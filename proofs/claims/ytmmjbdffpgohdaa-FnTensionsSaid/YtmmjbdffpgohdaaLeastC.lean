/- LeastCounter: the program's and the specification's answer as one function. Condition: sizes. -/
import Derived.Test.YtmmjbdffpgohdaaDriveC
import Derived.Test.YtmmjbdffpgohdaaShelfM
namespace Go.Proofs.Ytmmjbdffpgohdaa
open Go.RowKit
set_option linter.unusedVariables false
def ileast (a b : Int) : Int := if a < b then a else b
def lowF (b : Int) (t : Nat → Int) : Nat → Int
  | 0 => b
  | k + 1 => ileast (lowF b t k) (t k)
theorem lowF_succ (b : Int) (t : Nat → Int) (k : Nat) : lowF b t (k + 1) = ileast (lowF b t k) (t k) := rfl
theorem lowF_lowC (t : Nat → Int) : ∀ k, lowF 0 t k = lowC t k
  | 0 => rfl
  | k + 1 => by
    rw [lowF, lowF_lowC t k, lowC, ileast]
    by_cases h : t k < lowC t k
    · rw [if_pos h, if_neg (by omega)]
    · rw [if_neg h]; split <;> omega
theorem lowF_keep {t u : Nat → Int} {n : Nat} (h : ∀ j, j < n → lowC t n ≤ u j) : ∀ k, k ≤ n → lowF (lowC t n) u k = lowC t n
  | 0, _ => rfl
  | k + 1, hk => by
    rw [lowF, lowF_keep h k (by omega), ileast]
    have := h k (by omega)
    split <;> omega
theorem lowC_bd {t : Nat → Int} {n : Nat} (h : ∀ j, j < n → -16000000 ≤ t j) : ∀ k, k ≤ n → -16000000 ≤ lowC t k ∧ lowC t k ≤ 0
  | 0, _ => by simp [lowC]
  | k + 1, hk => by
    have h1 := lowC_bd h k (by omega)
    have h2 := h k (by omega)
    rw [lowC]
    split <;> omega
theorem minOf_chg (l : List Sup) (g f : Int) (n : Nat) : ∀ k, k + 1 ≤ n → Lib.minOf (((List.range n).map (chg l g f)).take (k + 1)) = lowC (chg l g f) (k + 1)
  | 0, h => by
    rw [Lib.minOf_one]
    have e : ((List.range n).map (chg l g f)).getD 0 0 = 0 := by simp [List.getD, show 0 < n by omega, chg]
    rw [e]
    simp [lowC, chg]
  | k + 1, h => by
    rw [Lib.minOf_step _ (k + 1) (by omega) (by simp; omega), minOf_chg l g f n k (by omega)]
    have e : ((List.range n).map (chg l g f)).getD (k + 1) 0 = chg l g f (k + 1) := by simp [List.getD, show k + 1 < n by omega]
    rw [e, Int.min_def]
    conv => rhs; rw [lowC]
    split <;> split <;> omega
noncomputable def lcM (l : List Sup) (x : LC) : Int := lowC (chg l x.w (-x.r)) l.length
noncomputable def lcRaw (l : List Sup) (x : LC) : Int := if 1 < -lcM l x then -lcM l x else 1
noncomputable def lcOk (l : List Sup) (x : LC) : Bool := askOk l x && decide (lcRaw l x ≤ 1000000)
noncomputable def lcV (l : List Sup) (x : LC) : Int := if lcOk l x then lcRaw l x else 0
theorem l1Least_c (a b : Int) (w : World) :
    Calls Try.prog 79 #[.int .i64 a, .int .i64 b] w fun e w' => e = .returned (.int .i64 (ileast a b)) ∧ w = w' := by
  by_cases h : a < b
  · rw [ileast, if_pos h]
    go_enter Try.func79, Try.ntmps79
    go_wp2
    go_ret
    exact ⟨rfl, rfl⟩
  · rw [ileast, if_neg h]
    go_enter Try.func79, Try.ntmps79
    go_wp2
    go_ret
    exact ⟨rfl, rfl⟩
set_option maxRecDepth 100000 in
set_option maxHeartbeats 2000000 in
theorem implLeastCounter_c (v : Value) (l : List Sup) (x : LC) (w : World) (hr : Rs w v l.length (sups l)) (hn : l.length ≤ 1048576) :
    Calls Try.prog 29 #[v, .agg #[.int .i64 x.w, .int .i64 x.c, .int .i64 x.r]] w fun e w' => e = .returned (.tuple #[.int .i64 (lcV l x), .bool (lcOk l x)]) ∧ Below w.heap.size w w' := by
  have HX := Lib.hid (fun W h => lcBox w x W h)
  have HR := Lib.hid (hr.below ((Below.refl _ _).alloc (Nat.le_refl _) (.cells #[.int .i64 x.w, .int .i64 x.c, .int .i64 x.r] 44)) rfl)
  have HB0 : Hid (Below w.heap.size w (w.alloc (.cells #[.int .i64 x.w, .int .i64 x.c, .int .i64 x.r] 44))) := Lib.hid ((Below.refl _ _).alloc (Nat.le_refl _) _)
  have hs0 : (w.alloc (.cells #[.int .i64 x.w, .int .i64 x.c, .int .i64 x.r] 44)).heap.size = w.heap.size + 1 := by simp
  have hD : askOk l x = (isL l && isLC x) := rfl
  have hO : lcOk l x = (askOk l x && decide (lcRaw l x ≤ 1000000)) := rfl
  have hV : lcV l x = if lcOk l x then lcRaw l x else 0 := rfl
  have E0 := Lib.hid (fun W hW => implIsLine_c v l W hW hn)
  have E1 := Lib.hid (fun W => implIsLoadCase_c x W)
  cases hb : isL l with
  | false =>
    rw [hD, hb, Bool.false_and, Bool.false_and] at hO
    rw [hV, hO]
    rw [hb] at E0
    clear hr hb HX E1 hD hO hV
    go_enter Try.func29, Try.ntmps29
    go_wp2_with fail
    refine (E0.out _ HR.out).mono ?_
    rintro e w1 ⟨rfl, b1⟩
    have B1 := HB0.out.trans (b1.mono HB0.out.size)
    clear b1
    go_wp2
    go_ret2
    exact ⟨by simp, B1⟩
  | true =>
  cases hx : isLC x with
  | false =>
    rw [hD, hx, Bool.and_false, Bool.false_and] at hO
    rw [hV, hO]
    rw [hb] at E0
    rw [hx] at E1
    clear hr hb hx hD hO hV
    go_enter Try.func29, Try.ntmps29
    go_wp2_with fail
    refine (E0.out _ HR.out).mono ?_
    rintro e w1 ⟨rfl, b1⟩
    obtain ⟨k0, k1, k2⟩ := HX.out w1 (by simpa using b1)
    have B1 := HB0.out.trans (b1.mono HB0.out.size)
    clear b1
    go_wp2_with fail
    refine (E1.out _).mono ?_
    rintro e w2 ⟨rfl, b2⟩
    have B2 := B1.trans (b2.mono B1.size)
    clear b2 B1 k0 k1 k2
    go_wp2
    go_ret2
    exact ⟨by simp, B2⟩
  | true =>
    have hok : askOk l x = true := by rw [hD, hb, hx]; rfl
    obtain ⟨hl, hxx⟩ := askOk_yes hok
    have h2 := hl.two
    have h8 := hl.eight
    have hcb := lowC_bd (t := chg l x.w (-x.r)) (n := l.length) (fun j hj => (chg_in hl hxx.1 (by omega) hj).1) l.length (Nat.le_refl _)
    rw [hok, Bool.true_and] at hO
    have hR : lcRaw l x = if 1 < -lcM l x then -lcM l x else 1 := rfl
    have hM : lcM l x = lowC (chg l x.w (-x.r)) l.length := rfl
    rw [hb] at E0
    rw [hx] at E1
    have HT := Lib.hid (fun W hW => tensionChanges_c v l x.w (-x.r) W hW hl hxx.1 (by omega))
    obtain ⟨a, oa, ca, rfl, hla, hm, hs⟩ := hr.sup (by omega)
    clear hs
    have HMin := Lib.hid (minOf_chg l x.w (-x.r) l.length (l.length - 1) (by omega))
    rw [show l.length - 1 + 1 = l.length by omega] at HMin
    have HIn := Lib.hid (fun k (hk : k < l.length) => chg_in (f := -x.r) hl hxx.1 (by omega) hk)
    have s1 : IntKind.i64.wrap (-x.r) = -x.r := IntWalk.i64_in _ (by omega)
    obtain ⟨zs, hzs⟩ : ∃ zs, zs = (List.range l.length).map (chg l x.w (-x.r)) := ⟨_, rfl⟩
    have hzl : zs.length = l.length := by rw [hzs]; simp
    have hzg : ∀ j, j < l.length → zs.getD j 0 = chg l x.w (-x.r) j := fun j hj => by rw [hzs]; simp [List.getD, hj]
    rw [← hzs, ← hM] at HMin
    rw [← hM] at hcb
    have HZL := Lib.hid hzl
    have HZG := Lib.hid hzg
    obtain ⟨A, hA⟩ : ∃ A, A = chArr l x.w (-x.r) (l.length - 1) := ⟨_, rfl⟩
    have h8A : A.size = 8 := by rw [hA]; rfl
    have h1A : A.all (·.oneCell') = true := by rw [hA]; simp [chArr, Value.oneCell']
    have HAt : Hid (∀ k, k < l.length → A[k]? = some (.int .i64 (chg l x.w (-x.r) k))) := Lib.hid (fun k hk => by rw [hA, chArr_at l x.w (-x.r) (l.length - 1) k (by omega), chA_le (by omega)])
    have HI8 : Hid ((Try.prog.info? 93).map (·.size) = some A.size) := Lib.hid (by rw [h8A]; kernel_rfl)
    have H8 : Hid (A.size = 8) := Lib.hid h8A
    rw [← hA] at HT
    clear hA h8A hr hb hx hl hzs hzl hzg hok hD hM
    generalize chg l x.w (-x.r) = t at *
    generalize lcM l x = M at *
    have s2 : IntKind.i64.wrap (-M) = -M := IntWalk.i64_in _ (by omega)
    have HO := Lib.hid hO
    have HV := Lib.hid hV
    have HR' := Lib.hid hR
    clear hO hV hR
    have h8i : (l.length : Int) ≤ 8 := by omega
    have key : ∀ r : Int, r = (if 1 < -M then -M else 1) → lcRaw l x = r := fun r hr => by rw [HR'.out, hr]
    by_cases hM1 : 1 < -M
    · have hk := key (-M) (by rw [if_pos hM1])
      rw [hk] at HO
      by_cases hB : -M ≤ 1000000
      · have ho : lcOk l x = true := by rw [HO.out]; simpa using hB
        have hv : lcV l x = -M := by rw [HV.out, ho, hk]; rfl
        rw [ho, hv]
        clear ho hv hk key HO HV HR'
        have m1 : max 1 (-M) = -M := by rw [Int.max_def]; split <;> omega
        go_enter Try.func29, Try.ntmps29
        go_wp2_with fail
        refine (E0.out _ HR.out).mono ?_
        rintro e w1 ⟨rfl, b1⟩
        obtain ⟨k0, k1, k2⟩ := HX.out w1 (by simpa using b1)
        have BX1 := Lib.hid b1
        have B1 := Lib.hid (HB0.out.trans (b1.mono HB0.out.size))
        clear b1
        go_wp2_with fail
        refine (E1.out _).mono ?_
        rintro e w2 ⟨rfl, b2⟩
        have BX2 := Lib.hid (BX1.out.trans (b2.mono BX1.out.size))
        have B2 := Lib.hid (B1.out.trans (b2.mono B1.out.size))
        have HR2 := Lib.hid (HR.out.below BX2.out rfl)
        clear b2 B1 BX1 k0 k1 k2
        obtain ⟨k0, k1, k2⟩ := HX.out w2 (by simpa using BX2.out)
        go_wp2_with fail
        refine (HT.out _ HR2.out).mono ?_
        rintro e w3 ⟨rfl, b3⟩
        have B3 := Lib.hid (B2.out.trans (b3.mono B2.out.size))
        clear b3 B2 BX2 k0 k1 k2
        have HN := Lib.hid (heap_alloc_new w3 (.cells zArr 93))
        have N4 := Lib.hid (setRow_heap _ w3.heap.size zArr A _ _ HN.out)
        have B4 := Lib.hid (below_setRowC (B3.out.alloc B3.out.size (.cells zArr 93)) A (B3.out.size))
        go_upto_region 4 with (refine wpList_store_row rfl 93 _ _ rfl w3.heap.size A rfl rfl 93 zArr HN.out HI8.out (by rw [H8.out]; rfl) h1A ?_)
        generalize hw4 : (w3.alloc (.cells zArr 93)).setRow w3.heap.size A = w4 at *
        clear hw4 HN B3 HT E0 E1 HR HR2 h1A H8 HI8
        have HCe : Hid (∀ j, j < zs.length → w4.cell? ⟨w3.heap.size, 0 + j, none⟩ = some (.int .i64 (zs.getD j 0))) := Lib.hid (fun j hj => by
          rw [HZL.out] at hj
          rw [Nat.zero_add, HZG.out j hj, cell_of_row _ _ _ _ _ _ N4.out]; exact HAt.out j hj)
        have EM := Lib.hid (Try.slices_Min_int w3.heap.size 0 l.length 8 zs w4 (by omega) (by rw [HZL.out]; exact Nat.le_refl _) (by omega) HCe.out)
        rw [HMin.out] at EM
        go_wp2_with fail
        refine EM.out.mono ?_
        rintro e w5 ⟨rfl, rfl⟩
        go_wp2
        go_ret2
        exact ⟨rfl, B4.out⟩
      · have ho : lcOk l x = false := by rw [HO.out]; simpa using hB
        have hv : lcV l x = 0 := by rw [HV.out, ho]; rfl
        rw [ho, hv]
        clear ho hv hk key HO HV HR'
        have m1 : max 1 (-M) = -M := by rw [Int.max_def]; split <;> omega
        go_enter Try.func29, Try.ntmps29
        go_wp2_with fail
        refine (E0.out _ HR.out).mono ?_
        rintro e w1 ⟨rfl, b1⟩
        obtain ⟨k0, k1, k2⟩ := HX.out w1 (by simpa using b1)
        have BX1 := Lib.hid b1
        have B1 := Lib.hid (HB0.out.trans (b1.mono HB0.out.size))
        clear b1
        go_wp2_with fail
        refine (E1.out _).mono ?_
        rintro e w2 ⟨rfl, b2⟩
        have BX2 := Lib.hid (BX1.out.trans (b2.mono BX1.out.size))
        have B2 := Lib.hid (B1.out.trans (b2.mono B1.out.size))
        have HR2 := Lib.hid (HR.out.below BX2.out rfl)
        clear b2 B1 BX1 k0 k1 k2
        obtain ⟨k0, k1, k2⟩ := HX.out w2 (by simpa using BX2.out)
        go_wp2_with fail
        refine (HT.out _ HR2.out).mono ?_
        rintro e w3 ⟨rfl, b3⟩
        have B3 := Lib.hid (B2.out.trans (b3.mono B2.out.size))
        clear b3 B2 BX2 k0 k1 k2
        have HN := Lib.hid (heap_alloc_new w3 (.cells zArr 93))
        have N4 := Lib.hid (setRow_heap _ w3.heap.size zArr A _ _ HN.out)
        have B4 := Lib.hid (below_setRowC (B3.out.alloc B3.out.size (.cells zArr 93)) A (B3.out.size))
        go_upto_region 4 with (refine wpList_store_row rfl 93 _ _ rfl w3.heap.size A rfl rfl 93 zArr HN.out HI8.out (by rw [H8.out]; rfl) h1A ?_)
        generalize hw4 : (w3.alloc (.cells zArr 93)).setRow w3.heap.size A = w4 at *
        clear hw4 HN B3 HT E0 E1 HR HR2 h1A H8 HI8
        have HCe : Hid (∀ j, j < zs.length → w4.cell? ⟨w3.heap.size, 0 + j, none⟩ = some (.int .i64 (zs.getD j 0))) := Lib.hid (fun j hj => by
          rw [HZL.out] at hj
          rw [Nat.zero_add, HZG.out j hj, cell_of_row _ _ _ _ _ _ N4.out]; exact HAt.out j hj)
        have EM := Lib.hid (Try.slices_Min_int w3.heap.size 0 l.length 8 zs w4 (by omega) (by rw [HZL.out]; exact Nat.le_refl _) (by omega) HCe.out)
        rw [HMin.out] at EM
        go_wp2_with fail
        refine EM.out.mono ?_
        rintro e w5 ⟨rfl, rfl⟩
        go_wp2
        go_ret2
        exact ⟨rfl, B4.out⟩
    · have hk := key 1 (by rw [if_neg hM1])
      rw [hk] at HO
      have ho : lcOk l x = true := by rw [HO.out]; rfl
      have hv : lcV l x = 1 := by rw [HV.out, ho, hk]; rfl
      rw [ho, hv]
      clear ho hv hk key HO HV HR'
      have m1 : max 1 (-M) = 1 := by rw [Int.max_def]; split <;> omega
      go_enter Try.func29, Try.ntmps29
      go_wp2_with fail
      refine (E0.out _ HR.out).mono ?_
      rintro e w1 ⟨rfl, b1⟩
      obtain ⟨k0, k1, k2⟩ := HX.out w1 (by simpa using b1)
      have BX1 := Lib.hid b1
      have B1 := Lib.hid (HB0.out.trans (b1.mono HB0.out.size))
      clear b1
      go_wp2_with fail
      refine (E1.out _).mono ?_
      rintro e w2 ⟨rfl, b2⟩
      have BX2 := Lib.hid (BX1.out.trans (b2.mono BX1.out.size))
      have B2 := Lib.hid (B1.out.trans (b2.mono B1.out.size))
      have HR2 := Lib.hid (HR.out.below BX2.out rfl)
      clear b2 B1 BX1 k0 k1 k2
      obtain ⟨k0, k1, k2⟩ := HX.out w2 (by simpa using BX2.out)
      go_wp2_with fail
      refine (HT.out _ HR2.out).mono ?_
      rintro e w3 ⟨rfl, b3⟩
      have B3 := Lib.hid (B2.out.trans (b3.mono B2.out.size))
      clear b3 B2 BX2 k0 k1 k2
      have HN := Lib.hid (heap_alloc_new w3 (.cells zArr 93))
      have N4 := Lib.hid (setRow_heap _ w3.heap.size zArr A _ _ HN.out)
      have B4 := Lib.hid (below_setRowC (B3.out.alloc B3.out.size (.cells zArr 93)) A (B3.out.size))
      go_upto_region 4 with (refine wpList_store_row rfl 93 _ _ rfl w3.heap.size A rfl rfl 93 zArr HN.out HI8.out (by rw [H8.out]; rfl) h1A ?_)
      generalize hw4 : (w3.alloc (.cells zArr 93)).setRow w3.heap.size A = w4 at *
      clear hw4 HN B3 HT E0 E1 HR HR2 h1A H8 HI8
      have HCe : Hid (∀ j, j < zs.length → w4.cell? ⟨w3.heap.size, 0 + j, none⟩ = some (.int .i64 (zs.getD j 0))) := Lib.hid (fun j hj => by
        rw [HZL.out] at hj
        rw [Nat.zero_add, HZG.out j hj, cell_of_row _ _ _ _ _ _ N4.out]; exact HAt.out j hj)
      have EM := Lib.hid (Try.slices_Min_int w3.heap.size 0 l.length 8 zs w4 (by omega) (by rw [HZL.out]; exact Nat.le_refl _) (by omega) HCe.out)
      rw [HMin.out] at EM
      go_wp2_with fail
      refine EM.out.mono ?_
      rintro e w5 ⟨rfl, rfl⟩
      go_wp2
      go_ret2
      exact ⟨rfl, B4.out⟩
set_option maxRecDepth 100000 in
set_option maxHeartbeats 2000000 in
theorem specLeastCounter_c (v : Value) (l : List Sup) (x : LC) (w : World) (hr : Rs w v l.length (sups l)) (hn : l.length ≤ 1048576) :
    Calls Try.prog 31 #[v, .agg #[.int .i64 x.w, .int .i64 x.c, .int .i64 x.r]] w fun e w' => e = .returned (.tuple #[.int .i64 (lcV l x), .bool (lcOk l x)]) ∧ Below w.heap.size w w' := by
  have HX := Lib.hid (fun W h => lcBox w x W h)
  have HR := Lib.hid (hr.below ((Below.refl _ _).alloc (Nat.le_refl _) (.cells #[.int .i64 x.w, .int .i64 x.c, .int .i64 x.r] 44)) rfl)
  have HB0 : Hid (Below w.heap.size w (w.alloc (.cells #[.int .i64 x.w, .int .i64 x.c, .int .i64 x.r] 44))) := Lib.hid ((Below.refl _ _).alloc (Nat.le_refl _) _)
  have hs0 : (w.alloc (.cells #[.int .i64 x.w, .int .i64 x.c, .int .i64 x.r] 44)).heap.size = w.heap.size + 1 := by simp
  have hD : askOk l x = (isL l && isLC x) := rfl
  have hO : lcOk l x = (askOk l x && decide (lcRaw l x ≤ 1000000)) := rfl
  have hV : lcV l x = if lcOk l x then lcRaw l x else 0 := rfl
  have EA := Lib.hid (fun W hW => l6Asked_c v l x W hW hn)
  clear hr hD
  cases ha : askOk l x with
  | false =>
    rw [ha, Bool.false_and] at hO
    rw [hV, hO]
    rw [ha] at EA
    clear ha hV hO
    go_enter Try.func31, Try.ntmps31
    go_wp2_with fail
    refine (EA.out _ HR.out).mono ?_
    rintro e w1 ⟨rfl, b1⟩
    have B1 := HB0.out.trans (b1.mono HB0.out.size)
    clear b1
    go_wp2
    go_ret2
    exact ⟨by simp, B1⟩
  | true =>
    have hok : askOk l x = true := ha
    obtain ⟨hl, hxx⟩ := askOk_yes hok
    have h2 := hl.two
    have h8 := hl.eight
    have hcb := lowC_bd (t := chg l x.w (-x.r)) (n := l.length) (fun j hj => (chg_in hl hxx.1 (by omega) hj).1) l.length (Nat.le_refl _)
    rw [hok, Bool.true_and] at hO
    have hR : lcRaw l x = if 1 < -lcM l x then -lcM l x else 1 := rfl
    have hM : lcM l x = lowC (chg l x.w (-x.r)) l.length := rfl
    rw [ha] at EA
    have HT1 := Lib.hid (fun W hW => l6Tensions_c v l x (-1) (-x.r) W hW hl hxx (by omega) (by omega))
    have HT2 := Lib.hid (fun W hW => l6Tensions_c v l x 1 x.r W hW hl hxx (by omega) (by omega))
    have HTV1 : Hid (∀ k, k < l.length → (intVs (tenK l x (-x.r) l.length))[k]? = some (.int .i64 (x.c + chg l x.w (-x.r) k))) := Lib.hid (fun k hk => tenV_at hk)
    have HTV2 : Hid (∀ k, k < l.length → (intVs (tenK l x x.r l.length))[k]? = some (.int .i64 (x.c + chg l x.w x.r k))) := Lib.hid (fun k hk => tenV_at hk)
    have HBd1 : Hid (∀ k, k < l.length → -16000000 ≤ chg l x.w (-x.r) k ∧ chg l x.w (-x.r) k ≤ 16000000) := Lib.hid (fun k hk => chg_in hl hxx.1 (by omega) hk)
    have HBd2 : Hid (∀ k, k < l.length → -16000000 ≤ chg l x.w x.r k ∧ chg l x.w x.r k ≤ 16000000) := Lib.hid (fun k hk => chg_in hl hxx.1 (by omega) hk)
    have HL1 : Hid (lowF 0 (chg l x.w (-x.r)) l.length = lcM l x) := Lib.hid (lowF_lowC _ _)
    have HL2 : Hid (lowF (lcM l x) (chg l x.w x.r) l.length = lcM l x) := Lib.hid (lowF_keep (t := chg l x.w (-x.r)) (fun j hj => by
      have h1 := (lowC_le (chg l x.w (-x.r)) l.length).2 j hj
      have h3 := chg_rub (l := l) (g := x.w) (r := x.r) (by omega) j
      omega) l.length (Nat.le_refl _))
    rw [← hM] at hcb
    have hcc := hxx.2.1
    clear ha hl hok hM
    generalize intVs (tenK l x (-x.r) l.length) = V1 at *
    generalize intVs (tenK l x x.r l.length) = V2 at *
    generalize tenG l x (-x.r) l.length = G1 at *
    generalize tenG l x x.r l.length = G2 at *
    generalize chg l x.w (-x.r) = t1 at *
    generalize chg l x.w x.r = t2 at *
    generalize lcM l x = M at *
    have m1 : imax 1 (-M) = lcRaw l x := by rw [hR, imax]; split <;> split <;> omega
    have hrb : 1 ≤ lcRaw l x ∧ lcRaw l x ≤ 16000000 := by rw [hR]; split <;> omega
    have s2 : IntKind.i64.wrap (-M) = -M := IntWalk.i64_in _ (by omega)
    clear hR
    generalize lcRaw l x = R at *
    have HO := Lib.hid hO
    have HV := Lib.hid hV
    have HM1 := Lib.hid m1
    clear hO hV m1
    go_enter Try.func31, Try.ntmps31
    go_wp2_with fail
    refine (EA.out _ HR.out).mono ?_
    rintro e w1 ⟨rfl, b1⟩
    have BX1 := Lib.hid b1
    clear b1
    go_wp2
    go_loopw [6, 7] (fun a s wr => Below (w.alloc (.cells #[.int .i64 x.w, .int .i64 x.c, .int .i64 x.r] 44)).heap.size (w.alloc (.cells #[.int .i64 x.w, .int .i64 x.c, .int .i64 x.r] 44)) wr ∧ ((s = .int .i64 (-1) ∧ a = .int .i64 0) ∨ (s = .int .i64 1 ∧ a = .int .i64 M) ∨ (s = .int .i64 3 ∧ a = .int .i64 M))) (fun _ s _ => (5 - intOf s).toNat)
    case atStart => exact ⟨BX1.out, .inl ⟨rfl, rfl⟩⟩
    case round =>
      obtain ⟨hbo, ⟨rfl, rfl⟩ | ⟨rfl, rfl⟩ | ⟨rfl, rfl⟩⟩ := hrel
      · obtain ⟨k0, k1, k2⟩ := HX.out wr (by rw [← hs0]; exact hbo)
        go_wp2_with fail
        refine (HT1.out _ (HR.out.below hbo rfl)).mono ?_
        rintro e w2 ⟨g, rfl, o2, b2⟩
        have BO2 := Lib.hid (hbo.trans (b2.mono hbo.size))
        have O2 := Lib.hid o2
        obtain ⟨ga, cpa, rfl, hga, hca, hma⟩ := own_shapeT o2 (by omega)
        clear o2 b2 k0 k1 k2 hbo
        go_wp2
        go_loopw [6, 10] (fun a i wr => ∃ k : Nat, k ≤ l.length ∧ i = .int .i64 (k : Int) ∧ a = .int .i64 (lowF 0 t1 k) ∧ Drew w2 wr) (fun _ i _ => l.length - (intOf i).toNat)
        case atStart => exact ⟨0, by omega, rfl, rfl, Drew.refl _⟩
        case round =>
          obtain ⟨k, hk, rfl, rfl, hdr⟩ := hrel
          by_cases hlt : k < l.length
          · have c0 := (hdr.cell ⟨ga, k, none⟩).trans ((O2.out.cellAt k (by omega)).trans (HTV1.out k hlt))
            obtain ⟨k0, k1, k2⟩ := HX.out wr (by rw [← hs0]; exact Drew.below_trans BO2.out hdr)
            have hbt := HBd1.out k hlt
            have HLs := Lib.hid (lowF_succ 0 t1 k)
            generalize t1 k = C at *
            obtain ⟨T, hT⟩ : ∃ T, T = x.c + C := ⟨_, rfl⟩
            rw [← hT] at c0
            have q1 : IntKind.i64.wrap (T - x.c) = C := by rw [hT, show x.c + C - x.c = C by omega]; exact IntWalk.i64_in _ (by omega)
            clear hT
            generalize lowF 0 t1 k = F at *
            have HSz := hdr.size
            go_wp2_with fail
            go_quiet ((go_at_call 79; exact (l1Least_c _ _ _).mono fun _ _ h => ⟨h.1, _, h.2.symm⟩))
            have HD := Lib.hid (Drew.trans hdr (c := wr.drewN nq) ⟨nq, rfl⟩)
            clear c0 k0 k1 k2 hdr
            generalize wr.drewN nq = wq at *
            go_wp2
            go_roundw
            case rel => exact ⟨k + 1, by omega, by go_num, by rw [HLs.out], HD.out⟩
            case measure => simp [intOf]; omega
          · obtain rfl : k = l.length := by omega
            have HE := Lib.hid (Drew.below_trans BO2.out hdr)
            clear hdr
            go_wp2
            go_roundw
            case rel => exact ⟨HE.out, .inr (.inl ⟨rfl, by rw [HL1.out]⟩)⟩
            case measure => simp [intOf]
      · obtain ⟨k0, k1, k2⟩ := HX.out wr (by rw [← hs0]; exact hbo)
        go_wp2_with fail
        refine (HT2.out _ (HR.out.below hbo rfl)).mono ?_
        rintro e w2 ⟨g, rfl, o2, b2⟩
        have BO2 := Lib.hid (hbo.trans (b2.mono hbo.size))
        have O2 := Lib.hid o2
        obtain ⟨ga, cpa, rfl, hga, hca, hma⟩ := own_shapeT o2 (by omega)
        clear o2 b2 k0 k1 k2 hbo
        go_wp2
        go_loopw [6, 10] (fun a i wr => ∃ k : Nat, k ≤ l.length ∧ i = .int .i64 (k : Int) ∧ a = .int .i64 (lowF M t2 k) ∧ Drew w2 wr) (fun _ i _ => l.length - (intOf i).toNat)
        case atStart => exact ⟨0, by omega, rfl, rfl, Drew.refl _⟩
        case round =>
          obtain ⟨k, hk, rfl, rfl, hdr⟩ := hrel
          by_cases hlt : k < l.length
          · have c0 := (hdr.cell ⟨ga, k, none⟩).trans ((O2.out.cellAt k (by omega)).trans (HTV2.out k hlt))
            obtain ⟨k0, k1, k2⟩ := HX.out wr (by rw [← hs0]; exact Drew.below_trans BO2.out hdr)
            have hbt := HBd2.out k hlt
            have HLs := Lib.hid (lowF_succ M t2 k)
            generalize t2 k = C at *
            obtain ⟨T, hT⟩ : ∃ T, T = x.c + C := ⟨_, rfl⟩
            rw [← hT] at c0
            have q1 : IntKind.i64.wrap (T - x.c) = C := by rw [hT, show x.c + C - x.c = C by omega]; exact IntWalk.i64_in _ (by omega)
            clear hT
            generalize lowF M t2 k = F at *
            have HSz := hdr.size
            go_wp2_with fail
            go_quiet ((go_at_call 79; exact (l1Least_c _ _ _).mono fun _ _ h => ⟨h.1, _, h.2.symm⟩))
            have HD := Lib.hid (Drew.trans hdr (c := wr.drewN nq) ⟨nq, rfl⟩)
            clear c0 k0 k1 k2 hdr
            generalize wr.drewN nq = wq at *
            go_wp2
            go_roundw
            case rel => exact ⟨k + 1, by omega, by go_num, by rw [HLs.out], HD.out⟩
            case measure => simp [intOf]; omega
          · obtain rfl : k = l.length := by omega
            have HE := Lib.hid (Drew.below_trans BO2.out hdr)
            clear hdr
            go_wp2
            go_roundw
            case rel => exact ⟨HE.out, .inr (.inr ⟨rfl, by rw [HL2.out]⟩)⟩
            case measure => simp [intOf]
      · have HBE := Lib.hid (HB0.out.trans (hbo.mono HB0.out.size))
        clear hbo
        go_wp2_with fail
        refine (l1Most_c 1 (-M) _).mono ?_
        rw [HM1.out]
        rintro e w3 ⟨rfl, rfl⟩
        by_cases hB : R ≤ 1000000
        · have ho : lcOk l x = true := by rw [HO.out]; simpa using hB
          have hv : lcV l x = R := by rw [HV.out, ho]; rfl
          have HF := Lib.hid (And.intro ho hv)
          clear ho hv
          go_wp2
          go_ret2
          exact ⟨by rw [HF.out.1, HF.out.2]; rfl, HBE.out⟩
        · have ho : lcOk l x = false := by rw [HO.out]; simpa using hB
          have hv : lcV l x = 0 := by rw [HV.out, ho]; rfl
          have HF := Lib.hid (And.intro ho hv)
          clear ho hv
          go_wp2
          go_ret2
          exact ⟨by rw [HF.out.1, HF.out.2]; rfl, HBE.out⟩
end Go.Proofs.Ytmmjbdffpgohdaa
