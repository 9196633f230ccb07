/- The program's tensions at all supports. Condition: sizes. -/
import Derived.Test.YtmmjbdffpgohdaaChgC
namespace Go.Proofs.Ytmmjbdffpgohdaa
open Go.RowKit
set_option linter.unusedVariables false
theorem Try.infoIntT : (Try.prog.info? 3).map (fun i => (i.zero, i.size, i.bytes)) = some (some (.int .i64 0), 1, 8) := by kernel_rfl
theorem ask_no1 {l : List Sup} {x : LC} {f : Int} (h : isL l = false) : tenOk l x f = false := by simp [tenOk, askOk, h]
theorem ask_no2 {l : List Sup} {x : LC} {f : Int} (h : isLC x = false) : tenOk l x f = false := by simp [tenOk, askOk, h]
theorem ask_ten {l : List Sup} {x : LC} {f : Int} (h : isL l = true) (h2 : isLC x = true) : tenOk l x f = tenG l x f l.length := by simp [tenOk, askOk, h, h2]
set_option maxRecDepth 100000 in
set_option maxHeartbeats 1500000 in
theorem tensionsWith_c (v : Value) (l : List Sup) (x : LC) (f : Int) (w : World) (hr : Rs w v l.length (sups l)) (hn : l.length ≤ 1048576) (hf : isLC x = true → -1000 ≤ f ∧ f ≤ 1000) :
    Calls Try.prog 72 #[v, .agg #[.int .i64 x.w, .int .i64 x.c, .int .i64 x.r], .int .i64 f] w fun e w' => ∃ g, e = .returned (.tuple #[g, .bool (tenOk l x f)]) ∧ w'.ownsRow w.heap.size 3 1 g (tenL l x f).length (intVs (tenL l x f)) ∧ Below w.heap.size w w' := by
  obtain ⟨i0, hi, hz0, hz1, hz2⟩ := info_parts Try.infoIntT
  have HX := Lib.hid (fun W h => box_LC w x 44 _ rfl W h)
  have HR := Lib.hid (hr.below ((Below.refl _ _).alloc (Nat.le_refl _) (.cells #[.int .i64 x.w, .int .i64 x.c, .int .i64 x.r] 44)) rfl)
  have HB0 : Hid (Below w.heap.size w (w.alloc (.cells #[.int .i64 x.w, .int .i64 x.c, .int .i64 x.r] 44))) := Lib.hid ((Below.refl _ _).alloc (Nat.le_refl _) _)
  have E0 := Lib.hid (fun W hW => implIsLine_c v l W hW hn)
  have E1 := Lib.hid (fun W => implIsLoadCase_c x W)
  cases hb : isL l with
  | false =>
    have HK := Lib.hid (ask_no1 (x := x) (f := f) hb)
    rw [tenL_no HK.out, HK.out]
    rw [hb] at E0
    clear hr hb HX E1 HK
    go_enter Try.func72, Try.ntmps72
    go_wp2_with fail
    refine (E0.out _ HR.out).mono ?_
    rintro e w1 ⟨rfl, b1⟩
    have B1 := HB0.out.trans (b1.mono HB0.out.size)
    clear b1
    go_wp2
    go_ret2
    exact ⟨_, rfl, World.ownsRow_made w1 #[] 0 B1.size (by decide) rfl, B1.alloc B1.size _⟩
  | true =>
  cases hx : isLC x with
  | false =>
    have HK := Lib.hid (ask_no2 (l := l) (f := f) hx)
    rw [tenL_no HK.out, HK.out]
    rw [hb] at E0
    rw [hx] at E1
    clear hr hb hx HK
    go_enter Try.func72, Try.ntmps72
    go_wp2_with fail
    refine (E0.out _ HR.out).mono ?_
    rintro e w1 ⟨rfl, b1⟩
    obtain ⟨k0, k1, k2⟩ := HX.out w1 (by simpa using b1)
    have B1 := HB0.out.trans (b1.mono HB0.out.size)
    clear b1
    go_wp2_with fail
    refine (E1.out _).mono ?_
    rintro e w2 ⟨rfl, b2⟩
    have B2 := B1.trans (b2.mono B1.size)
    clear b2 B1 k0 k1 k2
    go_wp2
    go_ret2
    exact ⟨_, rfl, World.ownsRow_made w2 #[] 0 B2.size (by decide) rfl, B2.alloc B2.size _⟩
  | true =>
    have hl := isL_yes hb
    have hxx := (isLC_iff x).1 hx
    have hff := hf hx
    have HL := Lib.hid hl
    have h2 := hl.two
    have h8 := hl.eight
    have HT := Lib.hid (fun W hW => tensionChanges_c v l x.w f W hW hl hxx.1 hff)
    obtain ⟨a, oa, ca, rfl, hla, hm, hs⟩ := hr.sup (by omega)
    clear hs
    rw [hb] at E0
    rw [hx] at E1
    have HO : Hid (tenOk l x f = tenG l x f l.length) := Lib.hid (ask_ten hb hx)
    have HI := Lib.hid (fun k (hk : k < l.length) => chg_in (f := f) hl hxx.1 hff hk)
    clear hr hb hx hl hf
    go_enter Try.func72, Try.ntmps72
    go_wp2_with fail
    refine (E0.out _ HR.out).mono ?_
    rintro e w1 ⟨rfl, b1⟩
    obtain ⟨k0, k1, k2⟩ := HX.out w1 (by simpa using b1)
    have BX1 := Lib.hid b1
    have B1 := Lib.hid (HB0.out.trans (b1.mono HB0.out.size))
    clear b1
    go_wp2_with fail
    refine (E1.out _).mono ?_
    rintro e w2 ⟨rfl, b2⟩
    have BX2 := Lib.hid (BX1.out.trans (b2.mono BX1.out.size))
    have B2 := Lib.hid (B1.out.trans (b2.mono B1.out.size))
    have HR2 := Lib.hid (HR.out.below BX2.out rfl)
    clear b2 B1 BX1 k0 k1 k2
    obtain ⟨k0, k1, k2⟩ := HX.out w2 (by simpa using BX2.out)
    go_wp2_with fail
    refine (HT.out _ HR2.out).mono ?_
    rintro e w3 ⟨rfl, b3⟩
    have BX3 := Lib.hid (BX2.out.trans (b3.mono BX2.out.size))
    have B3 := Lib.hid (B2.out.trans (b3.mono B2.out.size))
    clear b3 B2 BX2 k0 k1 k2
    obtain ⟨A, hA⟩ : ∃ A, A = chArr l x.w f (l.length - 1) := ⟨_, rfl⟩
    have h8A : A.size = 8 := by rw [hA]; rfl
    have h1A : A.all (·.oneCell') = true := by rw [hA]; simp [chArr, Value.oneCell']
    have HAt : Hid (∀ k, k < l.length → A[k]? = some (.int .i64 (chg l x.w f k))) := Lib.hid (fun k hk => by rw [hA, chArr_at l x.w f (l.length - 1) k (by omega), chA_le (by omega)])
    have HI8 : Hid ((Try.prog.info? 93).map (·.size) = some A.size) := Lib.hid (by rw [h8A]; kernel_rfl)
    have H8 : Hid (A.size = 8) := Lib.hid h8A
    rw [← hA]
    clear hA h8A
    have HN := Lib.hid (heap_alloc_new w3 (.cells zArr 93))
    have N4 := Lib.hid (setRow_heap _ w3.heap.size zArr A _ _ HN.out)
    have BX4 := Lib.hid (below_setRowC (BX3.out.alloc BX3.out.size (.cells zArr 93)) A (BX3.out.size))
    have B4 := Lib.hid (below_setRowC (B3.out.alloc B3.out.size (.cells zArr 93)) A (B3.out.size))
    have hs4 : ((w3.alloc (.cells zArr 93)).setRow w3.heap.size A).heap.size = w3.heap.size + 1 := by simp
    go_upto_region 4 with (refine wpList_store_row rfl 93 _ _ rfl w3.heap.size A rfl rfl 93 zArr HN.out HI8.out (by rw [H8.out]; rfl) h1A ?_)
    generalize hw4 : (w3.alloc (.cells zArr 93)).setRow w3.heap.size A = w4 at *
    clear hw4 HN BX3 B3 HT E0 E1 HR HR2 h1A H8 HI8
    have hG : w3.heap.size < w4.heap.size := by omega
    have h8i : (l.length : Int) ≤ 8 := by omega
    go_wp2
    go_loopw [9, 32] (fun o i wr => ∃ k : Nat, k ≤ l.length ∧ i = .int .i64 k ∧ wr.ownsRow w4.heap.size 3 1 o (tenK l x f k).length (intVs (tenK l x f k)) ∧ Below w4.heap.size w4 wr ∧ Hid (tenG l x f k = true)) (fun _ i _ => l.length - (intOf i).toNat)
    case atStart => exact ⟨0, by omega, rfl, (by rw [← hs4]; exact World.ownsRow_made w4 #[] 0 (Nat.le_refl _) (by decide) rfl), (Below.refl _ _).alloc (Nat.le_refl _) _, Lib.hid rfl⟩
    case round =>
      obtain ⟨k, hk, rfl, hown, hbel, HG⟩ := hrel
      have hkl : (tenK l x f k).length = k := tenK_len l x f k
      by_cases hlt : k < l.length
      · have c0 : wr.cell? ⟨w3.heap.size, k, none⟩ = some (.int .i64 (chg l x.w f k)) := by
          rw [hbel.cell (p := ⟨w3.heap.size, k, none⟩) hG, cell_of_row _ _ _ _ _ _ N4.out]; exact HAt.out k hlt
        obtain ⟨k0, k1, k2⟩ := HX.out wr (by have := BX4.out.trans (hbel.mono BX4.out.size); simpa using this)
        have HS := Lib.hid (tenK_succ l x f k)
        have HY := Lib.hid (tenG_yes (l := l) (x := x) (f := f) (k := k))
        have HZ := Lib.hid (tenG_no (l := l) (x := x) (f := f) (k := k))
        have HD := Lib.hid (show ten l x f k = x.c + chg l x.w f k from rfl)
        have hci := HI.out k hlt
        generalize chg l x.w f k = C at *
        have s1 : IntKind.i64.wrap (x.c + C) = ten l x f k := by rw [HD.out]; exact IntWalk.i64_in _ (by omega)
        have htb : -16000000 ≤ ten l x f k ∧ ten l x f k ≤ 17000000 := by rw [HD.out]; omega
        generalize ten l x f k = T at *
        have hbs := hbel.size
        by_cases hT : T < 0
        · have HK := Lib.hid (HO.out.trans (tenG_down (m := l.length) (by omega : k + 1 ≤ l.length) (HZ.out hT)))
          go_wp2
          go_ret2
          rw [tenL_no HK.out, HK.out]
          have hbe := B4.out.trans (hbel.mono B4.out.size)
          exact ⟨_, rfl, World.ownsRow_made wr #[] 0 hbe.size (by decide) rfl, hbe.alloc hbe.size _⟩
        · have HG2 := Lib.hid ((HY.out (by omega)).trans HG.out)
          go_wp2_with (at_builtin; refine wpList_append_own _ rfl _ _ 49 rfl w4.heap.size 3 i0 (.int .i64 0) 1 8 Try.underlying49 hi hz0 hz1 hz2 rfl (by decide) _ _ _ rfl (hown.alloc _) ⟨wr.heap.size, 0, none⟩ 1 1 [.int .i64 T] rfl rfl (cell_one_new _ _ _) (by simp [Value.oneCell']) (by rw [hkl]; unfold maxLen; omega) (by rw [hkl]; omega) (by simp; omega) ?_; intro v' w5 hown' hgrow _)
          go_roundw
          case rel => exact ⟨k + 1, by omega, by go_num, by rw [HS.out]; simpa [intVs] using hown', (hbel.alloc hbel.size _).grown hgrow (by simp; omega) (fun j hj => (hown.lt j hj).1), HG2⟩
          case measure => simp [intOf]; omega
      · obtain rfl : k = l.length := by omega
        have HK := Lib.hid (HO.out.trans HG.out)
        have hbe := B4.out.trans (hbel.mono B4.out.size)
        go_wp2
        go_ret2
        rw [tenL_yes HK.out, HK.out]
        exact ⟨_, rfl, own_mono hown B4.out.size, hbe⟩
theorem lc_no {l : List Sup} {x : LC} (f : Int) (h : isLC x = false) : tenOk l x f = false ∧ tenL l x f = [] := ⟨ask_no2 h, tenL_no (ask_no2 h)⟩
set_option maxRecDepth 100000 in
set_option maxHeartbeats 1000000 in
theorem implUpTensions_c (v : Value) (l : List Sup) (x : LC) (w : World) (hr : Rs w v l.length (sups l)) (hn : l.length ≤ 1048576) :
    Calls Try.prog 26 #[v, .agg #[.int .i64 x.w, .int .i64 x.c, .int .i64 x.r]] w fun e w' => ∃ g, e = .returned (.tuple #[g, .bool (tenOk l x x.r)]) ∧ w'.ownsRow w.heap.size 3 1 g (tenL l x x.r).length (intVs (tenL l x x.r)) ∧ Below w.heap.size w w' := by
  have HX := Lib.hid (fun W h => box_LC w x 44 _ rfl W h)
  have HR := Lib.hid (hr.below ((Below.refl _ _).alloc (Nat.le_refl _) (.cells #[.int .i64 x.w, .int .i64 x.c, .int .i64 x.r] 44)) rfl)
  have HB0 : Hid (Below w.heap.size w (w.alloc (.cells #[.int .i64 x.w, .int .i64 x.c, .int .i64 x.r] 44))) := Lib.hid ((Below.refl _ _).alloc (Nat.le_refl _) _)
  clear hr
  cases hx : isLC x with
  | false =>
    have HN := Lib.hid (fun f => lc_no (l := l) f hx)
    have HT := Lib.hid (fun W f hW => tensionsWith_c v l x f W hW hn (fun h => by rw [hx] at h; cases h))
    rw [(HN.out _).1, (HN.out _).2]
    clear hx
    go_enter Try.func26, Try.ntmps26
    go_wp2_with fail
    refine (HT.out _ _ HR.out).mono ?_
    rw [(HN.out _).1, (HN.out _).2]
    rintro e w1 ⟨g, rfl, o1, b1⟩
    have HO := Lib.hid o1
    have HB := Lib.hid (HB0.out.trans (b1.mono HB0.out.size))
    clear o1 b1
    go_wp2
    go_ret2
    exact ⟨_, rfl, own_mono HO.out HB0.out.size, HB.out⟩
  | true =>
    have hxx := (isLC_iff x).1 hx
    have HT := Lib.hid (fun W hW => tensionsWith_c v l x x.r W hW hn (fun _ => by omega))
    have s1 : IntKind.i64.wrap (-x.r) = -x.r := IntWalk.i64_in _ (by omega)
    clear hx
    go_enter Try.func26, Try.ntmps26
    go_wp2_with fail
    refine (HT.out _ HR.out).mono ?_
    rintro e w1 ⟨g, rfl, o1, b1⟩
    have HO := Lib.hid o1
    have HB := Lib.hid (HB0.out.trans (b1.mono HB0.out.size))
    clear o1 b1
    go_wp2
    go_ret2
    exact ⟨_, rfl, own_mono HO.out HB0.out.size, HB.out⟩
set_option maxRecDepth 100000 in
set_option maxHeartbeats 1000000 in
theorem implDownTensions_c (v : Value) (l : List Sup) (x : LC) (w : World) (hr : Rs w v l.length (sups l)) (hn : l.length ≤ 1048576) :
    Calls Try.prog 27 #[v, .agg #[.int .i64 x.w, .int .i64 x.c, .int .i64 x.r]] w fun e w' => ∃ g, e = .returned (.tuple #[g, .bool (tenOk l x (-x.r))]) ∧ w'.ownsRow w.heap.size 3 1 g (tenL l x (-x.r)).length (intVs (tenL l x (-x.r))) ∧ Below w.heap.size w w' := by
  have HX := Lib.hid (fun W h => box_LC w x 44 _ rfl W h)
  have HR := Lib.hid (hr.below ((Below.refl _ _).alloc (Nat.le_refl _) (.cells #[.int .i64 x.w, .int .i64 x.c, .int .i64 x.r] 44)) rfl)
  have HB0 : Hid (Below w.heap.size w (w.alloc (.cells #[.int .i64 x.w, .int .i64 x.c, .int .i64 x.r] 44))) := Lib.hid ((Below.refl _ _).alloc (Nat.le_refl _) _)
  clear hr
  cases hx : isLC x with
  | false =>
    have HN := Lib.hid (fun f => lc_no (l := l) f hx)
    have HT := Lib.hid (fun W f hW => tensionsWith_c v l x f W hW hn (fun h => by rw [hx] at h; cases h))
    rw [(HN.out _).1, (HN.out _).2]
    clear hx
    go_enter Try.func27, Try.ntmps27
    go_wp2_with fail
    refine (HT.out _ _ HR.out).mono ?_
    rw [(HN.out _).1, (HN.out _).2]
    rintro e w1 ⟨g, rfl, o1, b1⟩
    have HO := Lib.hid o1
    have HB := Lib.hid (HB0.out.trans (b1.mono HB0.out.size))
    clear o1 b1
    go_wp2
    go_ret2
    exact ⟨_, rfl, own_mono HO.out HB0.out.size, HB.out⟩
  | true =>
    have hxx := (isLC_iff x).1 hx
    have HT := Lib.hid (fun W hW => tensionsWith_c v l x (-x.r) W hW hn (fun _ => by omega))
    have s1 : IntKind.i64.wrap (-x.r) = -x.r := IntWalk.i64_in _ (by omega)
    clear hx
    go_enter Try.func27, Try.ntmps27
    go_wp2_with fail
    refine (HT.out _ HR.out).mono ?_
    rintro e w1 ⟨g, rfl, o1, b1⟩
    have HO := Lib.hid o1
    have HB := Lib.hid (HB0.out.trans (b1.mono HB0.out.size))
    clear o1 b1
    go_wp2
    go_ret2
    exact ⟨_, rfl, own_mono HO.out HB0.out.size, HB.out⟩
end Go.Proofs.Ytmmjbdffpgohdaa
