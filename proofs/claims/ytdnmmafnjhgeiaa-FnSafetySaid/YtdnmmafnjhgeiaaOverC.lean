/- OverTension: the program's and the specification's answer as one function. Condition: sizes. -/
import Derived.Test.YtdnmmafnjhgeiaaDriveC
import Derived.Deep.AppendLies
namespace Go.Proofs.Ytdnmmafnjhgeiaa
open Go.RowKit
set_option linter.unusedVariables false
def ovK (t : Nat → Int) (q : Int) (k : Nat) : List Int := ((List.range k).filter (fun i => decide (q < t i))).map (fun i : Nat => (i : Int))
theorem ovK_yes {t : Nat → Int} {q : Int} {k : Nat} (h : q < t k) : ovK t q (k + 1) = ovK t q k ++ [(k : Int)] := by simp [ovK, List.range_succ, h]
theorem ovK_no {t : Nat → Int} {q : Int} {k : Nat} (h : t k ≤ q) : ovK t q (k + 1) = ovK t q k := by
  have : ¬ q < t k := by omega
  simp [ovK, List.range_succ, this]
theorem ovK_len (t : Nat → Int) (q : Int) (k : Nat) : (ovK t q k).length ≤ k := by
  have := List.length_filter_le (fun i => decide (q < t i)) (List.range k)
  simpa [ovK] using this
noncomputable def otOk (l : List Sup) (x : LC) (q : Int) : Bool := tenOk l x x.r && inR q 0 1000000
noncomputable def otL (l : List Sup) (x : LC) (q : Int) : List Int := if otOk l x q then ovK (ten l x x.r) q l.length else []
theorem ot_no {l : List Sup} {x : LC} {q : Int} (h : otOk l x q = false) : otL l x q = [] ∧ otOk l x q = false := by simp [otL, h]
theorem ot_yes {l : List Sup} {x : LC} {q : Int} (h : otOk l x q = true) : otL l x q = ovK (ten l x x.r) q l.length ∧ otOk l x q = true := by simp [otL, h]
theorem otL_len (l : List Sup) (x : LC) (q : Int) : (otL l x q).length ≤ 8 := by
  cases h : otOk l x q with
  | false => rw [(ot_no h).1]; simp
  | true =>
    rw [(ot_yes h).1]
    have h1 := ovK_len (ten l x x.r) q l.length
    have h2 : tenOk l x x.r = true := by
      unfold otOk at h
      rw [Bool.and_eq_true] at h
      exact h.1
    have := (tenOk_yes h2).1.eight
    omega
theorem cloO_c (T q : Int) (P : Nat) (w : World) (hP : w.cell? ⟨P, 0, none⟩ = some (.int .i64 q)) :
    Calls Try.prog 70 #[.int .i64 T, .pointer (some ⟨P, 0, none⟩)] w fun e w' => e = .returned (.bool (decide (q < T))) ∧ w' = w := by
  go_enter Try.func70, Try.ntmps70
  go_wp2
  go_ret
  exact ⟨rfl, rfl⟩
set_option maxRecDepth 100000 in
set_option maxHeartbeats 2000000 in
theorem iwhere_c (ga n cpa P : Nat) (q : Int) (t : Nat → Int) (w : World) (hn : n ≤ 8) (hP : w.cell? ⟨P, 0, none⟩ = some (.int .i64 q)) (hlP : P < w.heap.size) (hga : ga < w.heap.size) (hc : ∀ j, j < n → w.cell? ⟨ga, j, none⟩ = some (.int .i64 (t j))) :
    Calls Try.prog 69 #[.slice (some ⟨ga, 0, none⟩) n cpa, .func (.func 70) #[] #[.pointer (some ⟨P, 0, none⟩)]] w fun e w' => ∃ g, e = .returned g ∧ w'.ownsRow w.heap.size 3 1 g (ovK t q n).length (intVs (ovK t q n)) ∧ Below w.heap.size w w' := by
  obtain ⟨i0, hi, hz0, hz1, hz2⟩ := info_parts Try.infoIntT
  have HP := Lib.hid hP
  have HC := Lib.hid hc
  clear hP hc
  go_enter Try.func69, Try.ntmps69
  go_wp2
  go_loopw [5, 11] (fun o i wr => ∃ k : Nat, k ≤ n ∧ i = .int .i64 k ∧ wr.ownsRow w.heap.size 3 1 o (ovK t q k).length (intVs (ovK t q k)) ∧ Below w.heap.size w wr) (fun _ i _ => n - (intOf i).toNat)
  case atStart => exact ⟨0, by omega, rfl, World.ownsRow_made w #[] 0 (Nat.le_refl _) (by decide) rfl, (Below.refl _ _).alloc (Nat.le_refl _) _⟩
  case round =>
    obtain ⟨k, hk, rfl, hown, hbel⟩ := hrel
    have hkl := ovK_len t q k
    by_cases hlt : k < n
    · have c0 := (hbel.cell (p := ⟨ga, k, none⟩) hga).trans (HC.out k hlt)
      have HPW := Lib.hid ((hbel.cell (p := ⟨P, 0, none⟩) hlP).trans HP.out)
      have HY := Lib.hid (ovK_yes (t := t) (q := q) (k := k))
      have HN := Lib.hid (ovK_no (t := t) (q := q) (k := k))
      have hbs := hbel.size
      generalize t k = T at *
      go_wp2_with fail
      refine (cloO_c T q P wr HPW.out).mono ?_
      rintro e w2 ⟨rfl, rfl⟩
      by_cases hT : q < T
      · have HS := Lib.hid (HY.out hT)
        have hd : decide (q < T) = true := by simpa using hT
        clear c0 hT
        go_wp2_with (at_builtin; refine wpList_append_own _ rfl _ _ 29 rfl w.heap.size 3 i0 (.int .i64 0) 1 8 Try.underlying29 hi hz0 hz1 hz2 rfl (by decide) _ _ _ rfl (hown.alloc _) ⟨w2.heap.size, 0, none⟩ 1 1 [.int .i64 (k : Int)] rfl rfl (cell_one_new _ _ _) (by simp [Value.oneCell']) (by unfold maxLen; omega) (by omega) (by simp; omega) ?_; intro v' w5 hown' hgrow _)
        go_roundw
        case rel => exact ⟨k + 1, by omega, by go_num, by rw [HS.out]; simpa [intVs] using hown', (hbel.alloc hbel.size _).grown hgrow (by simp; omega) (fun j hj => (hown.lt j hj).1)⟩
        case measure => simp [intOf]; omega
      · have HS := Lib.hid (HN.out (by omega))
        have hd : decide (q < T) = false := by simpa using hT
        clear c0 hT
        go_wp2
        go_roundw
        case rel => exact ⟨k + 1, by omega, by go_num, by rw [HS.out]; exact hown, hbel⟩
        case measure => simp [intOf]; omega
    · obtain rfl : k = n := by omega
      go_wp2
      go_ret
      exact ⟨_, rfl, hown, hbel⟩
set_option maxRecDepth 100000 in
set_option maxHeartbeats 2000000 in
theorem implOverTension_c (v : Value) (l : List Sup) (x : LC) (q : Int) (w : World) (hr : Rs w v l.length (sups l)) (hn : l.length ≤ 1048576) (hq : (Lit.int .i64 q).wf = true) :
    Calls Try.prog 17 #[v, .agg #[.int .i64 x.w, .int .i64 x.c, .int .i64 x.r], .int .i64 q] w fun e w' => ∃ g, e = .returned (.tuple #[g, .bool (otOk l x q)]) ∧ w'.ownsRow w.heap.size 3 1 g (otL l x q).length (intVs (otL l x q)) ∧ Below w.heap.size w w' := by
  clear hq
  have hmf : ∀ (fn : Fn) (first cap : Array Value) (w : World), (Instr.makeFunc fn first cap).run Try.prog w = .ok (.func fn first cap) w := fun _ _ _ _ => rfl
  have HX := Lib.hid (fun W h => lcBox w x W h)
  have hB0 : Below w.heap.size w ((w.alloc (.cells #[.int .i64 x.w, .int .i64 x.c, .int .i64 x.r] 26)).alloc (.cells #[.int .i64 q] 3)) := ((Below.refl _ _).alloc (Nat.le_refl _) _).alloc (by simp) _
  have hBX : Below (w.heap.size + 1) (w.alloc (.cells #[.int .i64 x.w, .int .i64 x.c, .int .i64 x.r] 26)) ((w.alloc (.cells #[.int .i64 x.w, .int .i64 x.c, .int .i64 x.r] 26)).alloc (.cells #[.int .i64 q] 3)) := (Below.refl _ _).alloc (by simp) _
  have hQ : ((w.alloc (.cells #[.int .i64 x.w, .int .i64 x.c, .int .i64 x.r] 26)).alloc (.cells #[.int .i64 q] 3)).cell? ⟨w.heap.size + 1, 0, none⟩ = some (.int .i64 q) := by
    rw [World.cell?_alloc_at _ _ _ _ (by simp)]; rfl
  have hs0 : ((w.alloc (.cells #[.int .i64 x.w, .int .i64 x.c, .int .i64 x.r] 26)).alloc (.cells #[.int .i64 q] 3)).heap.size = w.heap.size + 2 := by simp
  have HR := Lib.hid (hr.below hB0 rfl)
  have EU := Lib.hid (fun W hW => implUpTensions_c v l x W hW hn)
  have E1 := Lib.hid (fun W => within_c q 0 1000000 W)
  have HO : Hid (otOk l x q = (tenOk l x x.r && inR q 0 1000000)) := Lib.hid rfl
  clear hr
  go_enter Try.func17, Try.ntmps17
  go_upto_region 1 with fail
  generalize hw0 : (w.alloc (.cells #[.int .i64 x.w, .int .i64 x.c, .int .i64 x.r] 26)).alloc (.cells #[.int .i64 q] 3) = w0 at *
  clear hw0
  obtain ⟨k0, k1, k2⟩ := HX.out w0 hBX
  have HQ := Lib.hid hQ
  have HB0 := Lib.hid hB0
  clear hQ hB0 hBX
  go_wp2_with fail
  refine (EU.out _ HR.out).mono ?_
  rintro e w1 ⟨g, rfl, o1, b1⟩
  have O1 := Lib.hid o1
  have HQ1 := Lib.hid ((b1.cell (p := ⟨w.heap.size + 1, 0, none⟩) (by show w.heap.size + 1 < _; omega)).trans HQ.out)
  have hsz := b1.size
  have HB1 := Lib.hid (HB0.out.trans (b1.mono HB0.out.size))
  clear k0 k1 k2 o1 b1 HQ
  cases hu : tenOk l x x.r with
  | false =>
    have HF := Lib.hid (ot_no (HO.out.trans (by rw [hu]; rfl)))
    clear hu
    go_wp2
    go_ret2
    rw [HF.out.1, HF.out.2]
    exact ⟨_, rfl, World.ownsRow_made w1 #[] 0 HB1.out.size (by decide) rfl, HB1.out.alloc HB1.out.size _⟩
  | true =>
  have hqc := HQ1.out
  cases h1 : inR q 0 1000000 with
  | false =>
    have HF := Lib.hid (ot_no (HO.out.trans (by rw [hu, h1]; rfl)))
    rw [h1] at E1
    clear hu h1
    go_wp2_with fail
    refine (E1.out _).mono ?_
    rintro e w2 ⟨rfl, rfl⟩
    go_wp2
    go_ret2
    rw [HF.out.1, HF.out.2]
    exact ⟨_, rfl, World.ownsRow_made w2 #[] 0 HB1.out.size (by decide) rfl, HB1.out.alloc HB1.out.size _⟩
  | true =>
    have HF := Lib.hid (ot_yes (HO.out.trans (by rw [hu, h1]; rfl)))
    obtain ⟨hl, hxx, _⟩ := tenOk_yes hu
    have h2 := hl.two
    have h8 := hl.eight
    have O2 := O1.out
    rw [tenL_yes hu, tenK_len] at O2
    rw [h1] at E1
    have HTV : Hid (∀ j, j < l.length → (intVs (tenK l x x.r l.length))[j]? = some (.int .i64 (ten l x x.r j))) := Lib.hid (fun j hj => tenV_at hj)
    clear hu h1 hl hxx O1
    obtain ⟨ga, cpa, rfl, hga, hca, hma⟩ := own_shapeT O2 (by omega)
    have HC : Hid (∀ j, j < l.length → w1.cell? ⟨ga, j, none⟩ = some (.int .i64 (ten l x x.r j))) := Lib.hid (fun j hj => (O2.cellAt j (by omega)).trans (HTV.out j hj))
    clear O2
    go_wp2_with fail
    refine (E1.out _).mono ?_
    rintro e w2 ⟨rfl, rfl⟩
    clear hqc
    go_wp2_with fail
    refine (iwhere_c ga l.length cpa (w.heap.size + 1) q (ten l x x.r) w2 (by omega) HQ1.out (by omega) hga HC.out).mono ?_
    rintro e w3 ⟨g, rfl, o3, b3⟩
    have HO3 := Lib.hid (own_mono o3 HB1.out.size)
    have HB3 := Lib.hid (HB1.out.trans (b3.mono HB1.out.size))
    clear o3 b3
    go_wp2
    go_ret2
    rw [HF.out.1, HF.out.2]
    exact ⟨_, rfl, HO3.out, HB3.out⟩
set_option maxRecDepth 100000 in
set_option maxHeartbeats 2000000 in
theorem specOverTension_c (v : Value) (l : List Sup) (x : LC) (q : Int) (w : World) (hr : Rs w v l.length (sups l)) (hn : l.length ≤ 1048576) (hq : (Lit.int .i64 q).wf = true) :
    Calls Try.prog 18 #[v, .agg #[.int .i64 x.w, .int .i64 x.c, .int .i64 x.r], .int .i64 q] w fun e w' => ∃ g, e = .returned (.tuple #[g, .bool (otOk l x q)]) ∧ w'.ownsRow w.heap.size 3 1 g (otL l x q).length (intVs (otL l x q)) ∧ Below w.heap.size w w' := by
  clear hq
  obtain ⟨i0, hi, hz0, hz1, hz2⟩ := info_parts Try.infoIntT
  have HX := Lib.hid (fun W h => lcBox w x W h)
  have hB0 : Below w.heap.size w (w.alloc (.cells #[.int .i64 x.w, .int .i64 x.c, .int .i64 x.r] 26)) := (Below.refl _ _).alloc (Nat.le_refl _) _
  have hs0 : (w.alloc (.cells #[.int .i64 x.w, .int .i64 x.c, .int .i64 x.r] 26)).heap.size = w.heap.size + 1 := by simp
  have EU := Lib.hid (fun W hW => specUpTensions_c v l x W hW hn)
  have E1 := Lib.hid (fun W => l1In_c q 0 1000000 W)
  have HO : Hid (otOk l x q = (tenOk l x x.r && inR q 0 1000000)) := Lib.hid rfl
  have HRw := Lib.hid hr
  clear hr
  go_enter Try.func18, Try.ntmps18
  go_upto_region 1 with fail
  have k := HX.out _ (Below.refl _ _)
  generalize hw0 : w.alloc (.cells #[.int .i64 x.w, .int .i64 x.c, .int .i64 x.r] 26) = w0 at *
  clear hw0 k
  have HR := Lib.hid (HRw.out.below (hB0.trans ((Below.refl w.heap.size w0).alloc (by omega) (.cells #[] 3))) rfl)
  have hO0 : (w0.alloc (.cells #[] 3)).ownsRow w0.heap.size 3 1 (.slice (some ⟨w0.heap.size, 0, none⟩) 0 0) 0 [] := World.ownsRow_made w0 #[] 0 (Nat.le_refl _) (by decide) rfl
  have hBa : Below w0.heap.size w0 (w0.alloc (.cells #[] 3)) := (Below.refl _ _).alloc (Nat.le_refl _) _
  have HB0 := Lib.hid hB0
  have hsa : (w0.alloc (.cells #[] 3)).heap.size = w0.heap.size + 1 := by simp
  rw [hs0] at hO0
  go_upto_region 2 with fail
  generalize hwa : w0.alloc (.cells #[] 3) = wa at *
  clear hwa hB0
  obtain ⟨k0, k1, k2⟩ := HX.out wa (by rw [← hs0]; exact hBa)
  have HBa := Lib.hid hBa
  have HO0 := Lib.hid hO0
  clear hBa hO0
  go_wp2_with fail
  refine (EU.out _ HR.out).mono ?_
  rintro e w1 ⟨g, rfl, o1, b1⟩
  have O1 := Lib.hid o1
  have HO1 := Lib.hid (owns_below HO0.out b1)
  have hsz := b1.size
  have HB1 := Lib.hid (HB0.out.trans ((HBa.out.trans (b1.mono HBa.out.size)).mono HB0.out.size))
  clear k0 k1 k2 o1 b1
  cases hu : tenOk l x x.r with
  | false =>
    have HF := Lib.hid (ot_no (HO.out.trans (by rw [hu]; rfl)))
    clear hu
    go_wp2
    go_ret2
    rw [HF.out.1, HF.out.2]
    exact ⟨_, rfl, own_mono HO1.out (by omega), HB1.out⟩
  | true =>
  cases h1 : inR q 0 1000000 with
  | false =>
    have HF := Lib.hid (ot_no (HO.out.trans (by rw [hu, h1]; rfl)))
    rw [h1] at E1
    clear hu h1
    go_wp2_with fail
    refine (E1.out _).mono ?_
    rintro e w2 ⟨rfl, rfl⟩
    go_wp2
    go_ret2
    rw [HF.out.1, HF.out.2]
    exact ⟨_, rfl, own_mono HO1.out (by omega), HB1.out⟩
  | true =>
    have HF := Lib.hid (ot_yes (HO.out.trans (by rw [hu, h1]; rfl)))
    obtain ⟨hl, hxx, _⟩ := tenOk_yes hu
    have h2 := hl.two
    have h8 := hl.eight
    have O2 := O1.out
    rw [tenL_yes hu, tenK_len] at O2
    rw [h1] at E1
    have HTV : Hid (∀ j, j < l.length → (intVs (tenK l x x.r l.length))[j]? = some (.int .i64 (ten l x x.r j))) := Lib.hid (fun j hj => tenV_at hj)
    clear hu h1 hl hxx O1
    obtain ⟨ga, cpa, rfl, hga, hca, hma⟩ := own_shapeT O2 (by omega)
    have hgb := (O2.lt ga rfl).1
    have HC : Hid (∀ j, j < l.length → w1.cell? ⟨ga, j, none⟩ = some (.int .i64 (ten l x x.r j))) := Lib.hid (fun j hj => (O2.cellAt j (by omega)).trans (HTV.out j hj))
    clear O2
    go_wp2_with fail
    refine (E1.out _).mono ?_
    rintro e w2 ⟨rfl, rfl⟩
    have h0g : (Value.slice (some ⟨w.heap.size + 1, 0, none⟩) 0 0).ownBlock ≠ some ga := fun e => by
      have e2 : w.heap.size + 1 = ga := Option.some.inj e
      omega
    have HB2 := Lib.hid (HB1.out.mono (Nat.le_refl _))
    go_wp2
    go_loopw [8, 11] (fun o i wr => ∃ k : Nat, k ≤ l.length ∧ i = .int .i64 k ∧ wr.ownsRow (w.heap.size + 1) 3 1 o (ovK (ten l x x.r) q k).length (intVs (ovK (ten l x x.r) q k)) ∧ Below w.heap.size w wr ∧ Hid (∀ j, j < l.length → wr.cell? ⟨ga, j, none⟩ = some (.int .i64 (ten l x x.r j))) ∧ Hid (o.ownBlock ≠ some ga) ∧ w2.heap.size ≤ wr.heap.size) (fun _ i _ => l.length - (intOf i).toNat)
    case atStart => exact ⟨0, by omega, rfl, HO1.out, HB1.out, HC, Lib.hid h0g, Nat.le_refl _⟩
    case round =>
      obtain ⟨k, hk, rfl, hown, hbel, HCr, HNb, hsr⟩ := hrel
      have hkl := ovK_len (ten l x x.r) q k
      by_cases hlt : k < l.length
      · have c0 := HCr.out k hlt
        have HY := Lib.hid (ovK_yes (t := ten l x x.r) (q := q) (k := k))
        have HN := Lib.hid (ovK_no (t := ten l x x.r) (q := q) (k := k))
        have hbs := hbel.size
        generalize ten l x x.r k = T at *
        by_cases hT : q < T
        · have HS := Lib.hid (HY.out hT)
          have hd : decide (q < T) = true := by simpa using hT
          clear hT
          go_wp2_with (at_builtin; refine wpList_append_lies _ rfl _ _ 29 rfl (w.heap.size + 1) 3 i0 (.int .i64 0) 1 8 Try.underlying29 hi hz0 hz1 hz2 rfl (by decide) _ _ _ rfl (hown.alloc _) ⟨wr.heap.size, 0, none⟩ 1 1 [.int .i64 (k : Int)] rfl rfl (cell_one_new _ _ _) (by simp [Value.oneCell']) (by decide) (by unfold maxLen; omega) (by omega) (by simp; omega) (wr.heap.size + 1) (by simp) ?_; intro gg cap w5 hown' hgrow hat hlt5)
          go_roundw
          case rel =>
            have hgr : (wr.alloc (.cells #[.int .i64 (k : Int)] 3)).grownBy w5 u8.ownBlock := hgrow
            have hat2 : u8.ownBlock = some gg ∨ gg = wr.heap.size + 1 := hat
            have hgs := hgr.size
            simp at hgs
            refine ⟨k + 1, by omega, by go_num, by rw [HS.out]; simpa [intVs] using hown', (hbel.alloc hbel.size _).grown hgrow (by simp; omega) (fun j hj => by have := (hown.lt j hj).1; omega), Lib.hid (fun j hj => ?_), Lib.hid (fun e => ?_), by omega⟩
            · rw [hgr.cell_far ⟨ga, j, none⟩ (by simp; omega) (fun e => HNb.out e.symm)]
              exact (((Below.refl wr.heap.size wr).alloc (Nat.le_refl _) _).cell (p := ⟨ga, j, none⟩) (by show ga < wr.heap.size; omega)).trans (HCr.out j hj)
            · have e2 : gg = ga := Option.some.inj e
              rcases hat2 with h | h
              · exact HNb.out (by rw [h, e2])
              · omega
          case measure => simp [intOf]; omega
        · have HS := Lib.hid (HN.out (by omega))
          have hd : decide (q < T) = false := by simpa using hT
          clear hT
          go_wp2
          go_roundw
          case rel => exact ⟨k + 1, by omega, by go_num, by rw [HS.out]; exact hown, hbel, HCr, HNb, hsr⟩
          case measure => simp [intOf]; omega
      · obtain rfl : k = l.length := by omega
        go_wp2
        go_ret2
        rw [HF.out.1, HF.out.2]
        exact ⟨_, rfl, own_mono hown (by omega), hbel⟩
end Go.Proofs.Ytdnmmafnjhgeiaa
