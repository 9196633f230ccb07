/- The draw of AllHold. Condition: sizes. -/
import Derived.Test.YtiogjocbiagipaaDrawG2
import Derived.Test.YtiogjocbiagipaaIntS
import Derived.Deep.AppendLies
namespace Go.Proofs.Ytiogjocbiagipaa
open Go.RowKit
set_option linter.unusedVariables false
theorem Try.infoIntH : (Try.prog.info? 3).map (fun i => (i.zero, i.size, i.bytes)) = some (some (.int .i64 0), 1, 8) := by kernel_rfl
def DahPost (w : World) (e : Ending) (w' : World) : Prop := ∃ (v : Value) (l : List Grp) (u : Value) (r : List Int) (s : Int), e = .returned (.tuple #[v, u, .int .i64 s]) ∧ Rs w' v l.length (grps l) ∧ Rd w' u (intVs r) ∧ l.length ≤ 13 ∧ r.length ≤ 14 ∧ (-1 ≤ s ∧ s ≤ 101) ∧ Below w.heap.size w w'
theorem slice_own1 {w : World} {B e size n : Nat} {v : Value} {xs : List Value} (h : w.ownsRow B e size v n xs) : ∃ a ca, v = .slice a n ca := by
  rcases h.2 with ⟨rfl, rfl⟩ | ⟨g, cap, cur, rfl, _⟩
  · exact ⟨_, _, rfl⟩
  · exact ⟨_, _, rfl⟩
theorem own_ne {w : World} {B e size n S : Nat} {v : Value} {xs : List Value} (h : w.ownsRow B e size v n xs) (hS : S < B) : v.ownBlock = none ∨ v.ownBlock ≠ some S := by
  cases hu : v.ownBlock with
  | none => exact .inl rfl
  | some j => exact .inr (fun e => by have := (h.lt j hu).1; have := Option.some.inj e; omega)
set_option maxRecDepth 100000 in
set_option maxHeartbeats 4000000 in
theorem DrawAllHold_any (a : Option Addr) (len cap : Nat) (w : World) (h : ByteRow w a len) :
    Calls Try.prog 34 #[.slice a len cap] w (DahPost w) := by
  obtain ⟨i0, hi, hz0, hz1, hz2⟩ := info_parts Try.infoIntH
  have HC := Lib.hid (cur_new (cap := cap) h 79)
  have HB0 := Lib.hid ((Below.refl w.heap.size w).alloc (Nat.le_refl _) (.cells #[.slice a len cap, .int .i64 0, .int .u64 0] 79))
  have hs0 : (w.alloc (.cells #[.slice a len cap, .int .i64 0, .int .u64 0] 79)).heap.size = w.heap.size + 1 := by simp
  clear h
  go_enter Try.func34, Try.ntmps34
  go_upto_region 2 with fail
  generalize hw0 : w.alloc (.cells #[.slice a len cap, .int .i64 0, .int .u64 0] 79) = w0 at *
  clear hw0
  go_wp2_with fail
  refine (grips_any w.heap.size w.heap.size 0 w0 HC.out (by omega)).mono ?_
  rintro e w1 ⟨v, l, rfl, o1, hl, hc, b1, hq⟩
  have HB1 := Lib.hid (HB0.out.trans b1)
  have hs1 := b1.size
  have HVB : Hid (∀ j, v.ownBlock = some j → j < w1.heap.size) := Lib.hid (fun j hj => (o1.lt j hj).2)
  have hne := own_ne o1 (S := w.heap.size) (by omega)
  obtain ⟨va, vca, hve⟩ := slice_own1 o1
  have HO1 := Lib.hid (o1.alloc (.cells #[] 3))
  have C1 := Lib.hid (hc.alloc (.cells #[] 3))
  have HOE := Lib.hid (World.ownsRow_made w1 (base := w1.heap.size) (e := 3) (size := 1) #[] 0 (Nat.le_refl _) (by decide) rfl)
  have HB2 := Lib.hid (HB1.out.alloc HB1.out.size (.cells #[] 3))
  clear o1 hc b1 HC hq
  subst hve
  go_upto_region 4 with fail
  have hs2 : (w1.alloc (.cells #[] 3)).heap.size = w1.heap.size + 1 := by simp
  generalize w1.alloc (.cells #[] 3) = w2 at *
  go_wp2
  go_loopw [7, 8] (fun out i wr => ∃ (k : Nat) (r : List Int), i = .int .i64 k ∧ k ≤ l.length ∧ r.length = k ∧ wr.ownsRow w1.heap.size 3 1 out r.length (intVs r) ∧ Hid (wr.ownsRow w0.heap.size 25 5 (.slice va l.length vca) l.length (grps l)) ∧ Hid (Cur w.heap.size w.heap.size (500 + 2 * k) wr ∧ Below w.heap.size w wr) ∧ w1.heap.size < wr.heap.size) (fun _ i _ => l.length - (intOf i).toNat)
  case atStart => exact ⟨0, [], rfl, by omega, rfl, HOE.out, HO1, Lib.hid ⟨C1.out.mono (by omega), HB2.out⟩, by omega⟩
  case round =>
    obtain ⟨k, r, rfl, hk, hrk, hown, HV, HS, hsz⟩ := hrel
    by_cases hlt : k < l.length
    · have hlti : (k : Int) < (l.length : Int) := by omega
      have hbo := own_ne hown (S := w.heap.size) (by omega)
      have HO := Lib.hid hown
      clear hown
      go_wp2_with fail
      refine (among_any w.heap.size w.heap.size (500 + 2 * k) wr.heap.size 4 4 [100, 800, 1500, 4000] _ (HS.out.1.alloc _) (by omega) rfl (by omega) (by omega) (by omega) (num_cells wr 3 [100, 800, 1500, 4000] _ rfl)).mono ?_
      rintro e w4 ⟨q, hx, rfl, hc, hg⟩
      have G4 := Lib.hid (grown_trans (World.grownBy_alloc wr (.cells #[.int .i64 100, .int .i64 800, .int .i64 1500, .int .i64 4000] 3) (some w.heap.size)) hg)
      have hs4 := G4.out.size
      have hown4 := HO.out.kept G4.out hbo
      have HV4 := Lib.hid (HV.out.kept G4.out hne)
      have HS4 : Hid (Cur w.heap.size w.heap.size (500 + 2 * k + 2) w4 ∧ Below w.heap.size w w4) := Lib.hid ⟨hc, HS.out.2.trans (grown_below G4.out (by omega) (fun k hk => by cases hk; exact Nat.le_refl _))⟩
      have hlt4 := fun j hj => (hown4.lt j hj)
      clear hc hg hx HO HV HS
      go_wp2_with (at_builtin; refine wpList_append_own _ rfl _ _ 41 rfl w1.heap.size 3 i0 (.int .i64 0) 1 8 Try.underlying41 hi hz0 hz1 hz2 rfl (by decide) _ _ _ rfl (hown4.alloc _) ⟨w4.heap.size, 0, none⟩ 1 1 [.int .i64 q] rfl rfl ((cell_one_new _ _ _)) (by simp [Value.oneCell']) (by unfold maxLen; omega) (by omega) (by simp; omega) ?_; intro v' w8 hown' hgrow _)
      have hgr : (w4.alloc (.cells #[.int .i64 q] 3)).grownBy w8 u7.ownBlock := hgrow
      have hgs := hgr.size
      simp at hgs
      have HC8 := Lib.hid ((HS4.out.1.alloc (.cells #[.int .i64 q] 3)).grown hgr (fun j hj => by have := (hlt4 j hj).1; omega))
      have HX8 := Lib.hid ((HS4.out.2.alloc (by omega) (.cells #[.int .i64 q] 3)).grown hgr (by simp; omega) (fun j hj => by have := (hlt4 j hj).1; omega))
      have HV8 := Lib.hid ((HV4.out.alloc (.cells #[.int .i64 q] 3)).kept hgr (by
        cases hu : (Value.slice va l.length vca).ownBlock with
        | none => exact .inl rfl
        | some j => exact .inr (fun e => by
            have h1 := HVB.out j hu
            have h2 := (hlt4 j e.symm).1
            omega)))
      have HOW := Lib.hid hown'
      clear hown' hgrow hown4 hlt4
      go_wp2
      go_roundw
      case rel => exact ⟨k + 1, r ++ [q], by go_num, by omega, by simp; omega, by simpa [intVs] using HOW.out, HV8, Lib.hid ⟨HC8.out.mono (by omega), HX8.out⟩, by omega⟩
      case measure => simp [intOf]; omega
    · subst hrk
      have hlti : ¬ (r.length : Int) < (l.length : Int) := by omega
      have hbo := own_ne hown (S := w.heap.size) (by omega)
      have HO := Lib.hid hown
      clear hown
      go_wp2_with fail
      refine (pick_any w.heap.size w.heap.size _ 20 wr HS.out.1 (by omega) (by omega) (by omega)).mono ?_
      rintro e w4 ⟨r2, rfl, hr, hc, hg⟩
      have hs4 := hg.size
      have hown4 := HO.out.kept hg hbo
      have HV4 := Lib.hid (HV.out.kept hg hne)
      have C4 := Lib.hid hc
      have B4 := Lib.hid (HS.out.2.trans (grown_below hg (by omega) (fun k hk => by cases hk; exact Nat.le_refl _)))
      have hlt4 := fun j hj => (hown4.lt j hj)
      clear hc hg HO HV HS hr
      by_cases e0 : r2 = 0
      · have t0 : ((r2 : Int) == 0) = true := by rw [beq_iff_eq]; omega
        clear e0
        go_wp2_with (at_builtin; refine wpList_append_own _ rfl _ _ 41 rfl w1.heap.size 3 i0 (.int .i64 0) 1 8 Try.underlying41 hi hz0 hz1 hz2 rfl (by decide) _ _ _ rfl (hown4.alloc _) ⟨w4.heap.size, 0, none⟩ 1 1 [.int .i64 100] rfl rfl ((cell_one_new _ _ _)) (by simp [Value.oneCell']) (by unfold maxLen; omega) (by omega) (by simp; omega) ?_; intro v' w8 hown' hgrow _)
        have hgr : (w4.alloc (.cells #[.int .i64 100] 3)).grownBy w8 u7.ownBlock := hgrow
        have hgs := hgr.size
        simp at hgs
        have C8 := Lib.hid ((C4.out.alloc (.cells #[.int .i64 100] 3)).grown hgr (fun j hj => by have := (hlt4 j hj).1; omega))
        have B8 := Lib.hid ((B4.out.alloc (by omega) (.cells #[.int .i64 100] 3)).grown hgr (by simp; omega) (fun j hj => by have := (hlt4 j hj).1; omega))
        have HV8 := Lib.hid ((HV4.out.alloc (.cells #[.int .i64 100] 3)).kept hgr (by
          cases hu : (Value.slice va l.length vca).ownBlock with
          | none => exact .inl rfl
          | some j => exact .inr (fun e => by
              have h1 := HVB.out j hu
              have h2 := (hlt4 j e.symm).1
              omega)))
        have hOW : w8.ownsRow w1.heap.size 3 1 v' (r ++ [100]).length (intVs (r ++ [100])) := by simpa [intVs] using hown'
        have hbo8 := own_ne hOW (S := w.heap.size) (by omega)
        clear hown' hgrow hown4 hlt4
        go_wp2_with fail
        refine (slope7_any w.heap.size w.heap.size _ w8 C8.out (by omega)).mono ?_
        rintro e w9 ⟨s, rfl, hbs, hc, hg⟩
        have HU9 := Lib.hid (Rd.of_own (hOW.kept hg hbo8))
        have HV9 := Lib.hid (Rs.of_own (HV8.out.kept hg hne))
        have HB9 := Lib.hid (B8.out.trans (grown_below hg (by omega) (fun k hk => by cases hk; exact Nat.le_refl _)))
        clear hc hg
        go_wp2_with fail
        go_ret3
        exact ⟨_, l, _, (r ++ [100]), s, rfl, HV9.out, HU9.out, hl, (by first | omega | (simp; omega)), hbs, HB9.out⟩
      · have t0 : ((r2 : Int) == 0) = false := by rw [beq_eq_false_iff_ne]; omega
        clear e0
        by_cases e1 : r2 = 1
        · have t1 : ((r2 : Int) == 1) = true := by rw [beq_iff_eq]; omega
          clear e1
          obtain ⟨ua, uca, hue⟩ := slice_own1 hown4
          subst hue
          by_cases h0 : r.length = 0
          · have hlz : ¬ (0 : Int) < (r.length : Int) := by omega
            clear h0
            go_wp2_with fail
            refine (slope7_any w.heap.size w.heap.size _ w4 C4.out (by omega)).mono ?_
            rintro e w9 ⟨s, rfl, hbs, hc, hg⟩
            have HU9 := Lib.hid (Rd.of_own (hown4.kept hg hbo))
            have HV9 := Lib.hid (Rs.of_own (HV4.out.kept hg hne))
            have HB9 := Lib.hid (B4.out.trans (grown_below hg (by omega) (fun k hk => by cases hk; exact Nat.le_refl _)))
            clear hc hg
            go_wp2_with fail
            go_ret3
            exact ⟨_, l, _, r, s, rfl, HV9.out, HU9.out, hl, (by first | omega | (simp; omega)), hbs, HB9.out⟩
          · have hlz : (0 : Int) < (r.length : Int) := by omega
            have hrz : 0 < r.length := by omega
            rcases owns_cases hown4 with ⟨h1, _⟩ | ⟨g, cg, hue, hBg, hgw, hnc, hcm, hll⟩
            · omega
            · cases hue
              have HO4 := Lib.hid hown4
              clear hown4 h0
              go_wp2_with fail
              refine (among_any w.heap.size w.heap.size _ w4.heap.size 2 2 [99, 4001] _ (C4.out.alloc _) (by omega) rfl (by omega) (by omega) (by omega) (num_cells w4 3 [99, 4001] _ rfl)).mono ?_
              rintro e w5 ⟨q, hx, rfl, hc, hg⟩
              have G5 := Lib.hid (grown_trans (World.grownBy_alloc w4 (.cells #[.int .i64 99, .int .i64 4001] 3) (some w.heap.size)) hg)
              have hs5 := G5.out.size
              have ho5 := HO4.out.kept G5.out hbo
              have HV5 := Lib.hid (HV4.out.kept G5.out hne)
              have k0 := (ho5.cellAt 0 (by omega)).trans (List.getElem?_eq_getElem (by omega))
              have f0 := ho5.frozenAt 0
              have hst := (ho5.stored 0 (.int .i64 q)).1
              have hsg := (ho5.stored 0 (.int .i64 q)).2
              have C6 := Lib.hid (hc.grown hsg (fun j hj => by cases hj; omega))
              have B6 := Lib.hid ((B4.out.trans (grown_below G5.out (by omega) (fun k hk => by cases hk; exact Nat.le_refl _))).grown hsg (by have := B4.out.size; omega) (fun j hj => by cases hj; omega))
              have HV6 := Lib.hid (HV5.out.kept hsg (by
                cases hu : (Value.slice va l.length vca).ownBlock with
                | none => exact .inl rfl
                | some j => exact .inr (fun e => by
                    have h1 := HVB.out j hu
                    have h2 := Option.some.inj e
                    omega)))
              have hOW : (w5.setCell ⟨g, 0, none⟩ (.int .i64 q)).ownsRow w1.heap.size 3 1 (.slice (some ⟨g, 0, none⟩) r.length uca) (r.set 0 q).length (intVs (r.set 0 q)) := by
                have e : intVs (r.set 0 q) = (intVs r).set 0 (.int .i64 q) := by simp [intVs, List.map_set]
                rw [e, List.length_set]; exact hst
              have hbo8 := own_ne hOW (S := w.heap.size) (by omega)
              have HSW := Lib.hid hOW
              have hs6 : (w5.setCell ⟨g, 0, none⟩ (.int .i64 q)).heap.size = w5.heap.size := by simp [World.setCell]
              clear hc hg hx ho5 hst hsg hOW
              go_upto_region 14 with fail
              generalize w5.setCell ⟨g, 0, none⟩ (.int .i64 q) = w6 at *
              go_wp2_with fail
              refine (slope7_any w.heap.size w.heap.size _ w6 C6.out (by omega)).mono ?_
              rintro e w9 ⟨s, rfl, hbs, hc, hg⟩
              have HU9 := Lib.hid (Rd.of_own (HSW.out.kept hg hbo8))
              have HV9 := Lib.hid (Rs.of_own (HV6.out.kept hg hne))
              have HB9 := Lib.hid (B6.out.trans (grown_below hg (by omega) (fun k hk => by cases hk; exact Nat.le_refl _)))
              clear hc hg
              go_wp2_with fail
              go_ret3
              exact ⟨_, l, _, (r.set 0 q), s, rfl, HV9.out, HU9.out, hl, (by first | omega | (simp; omega)), hbs, HB9.out⟩
        · have t1 : ((r2 : Int) == 1) = false := by rw [beq_eq_false_iff_ne]; omega
          clear e1
          go_wp2_with fail
          refine (slope7_any w.heap.size w.heap.size _ w4 C4.out (by omega)).mono ?_
          rintro e w9 ⟨s, rfl, hbs, hc, hg⟩
          have HU9 := Lib.hid (Rd.of_own (hown4.kept hg hbo))
          have HV9 := Lib.hid (Rs.of_own (HV4.out.kept hg hne))
          have HB9 := Lib.hid (B4.out.trans (grown_below hg (by omega) (fun k hk => by cases hk; exact Nat.le_refl _)))
          clear hc hg
          go_wp2_with fail
          go_ret3
          exact ⟨_, l, _, r, s, rfl, HV9.out, HU9.out, hl, (by first | omega | (simp; omega)), hbs, HB9.out⟩
end Go.Proofs.Ytiogjocbiagipaa
