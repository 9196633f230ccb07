/- The law FnGroups's walk, with its draws and helpers. Condition: sizes. -/
import Derived.Test.YtkjdkfoeolcnkaaQuO
import Derived.Test.YtkjdkfoeolcnkaaQuJ
import Derived.Test.YtkjdkfoeolcnkaaQuM
import Derived.Test.YtkjdkfoeolcnkaaQuS
import Derived.Test.YtkjdkfoeolcnkaaIntS
import Derived.Test.YtkjdkfoeolcnkaaQuR
import Derived.Test.YtkjdkfoeolcnkaaProfK
import Derived.Test.YtkjdkfoeolcnkaaQuC
import Derived.Test.YtkjdkfoeolcnkaaDrawKit
import Derived.Test.YtkjdkfoeolcnkaaGroS
import Derived.Test.YtkjdkfoeolcnkaaBlk2
import Derived.Deep.DeepCutAuto
import Derived.Test.YtkjdkfoeolcnkaaBig
import Derived.WalkArith
import Derived.Deep.CutRange
import Derived.Deep.CutBlock
namespace Go.Proofs.Ytkjdkfoeolcnkaa
open Go.RowKit
set_option linter.unusedVariables false
set_option maxRecDepth 100000 in
set_option maxHeartbeats 4000000 in
theorem specLeastCabins_c (v : Value) (l : List Gro) (s : Int) (w : World) (hr : Rs w v l.length (gros l)) (hn : l.length ≤ 1048576) :
    Calls Try.prog 37 #[v, .int .i64 s] w fun e w' => e = .returned (.tuple #[.int .i64 (lcV l s), .bool (lcOk l s)]) ∧ Below w.heap.size w w' := by
  obtain ⟨i0, hi, hz0, hz1, hz2⟩ := info_parts Try.infoIntR
  have E0 := Lib.hid (l13Asked_c v l s w hr hn)
  have HNO := Lib.hid (lc_no (l := l) (s := s))
  have HOK : Hid (lcOk l s = (asQ l s && decide (l.length ≤ 8))) := Lib.hid rfl
  have HYES := Lib.hid (lc_yes (l := l) (s := s))
  have HLV : Hid (lcOk l s = true → lcV l s = (lcK s (zsQ l) : Int)) := Lib.hid (fun h => by unfold lcV; rw [h]; rfl)
  have HR := Lib.hid (fun W (h : Below w.heap.size w W) => hr.below h rfl)
  obtain ⟨va, vc, hva⟩ := hr.shape
  clear hr
  subst hva
  generalize asQ l s = b at *
  generalize lcOk l s = ok at *
  cases b with
  | false =>
    have hok : ok = false := HOK.out
    subst hok
    have HV := Lib.hid (HNO.out rfl).symm
    go_enter Try.func37, Try.ntmps37
    go_wp2_with fail
    refine (E0.out).mono ?_
    rintro e w1 ⟨rfl, rfl⟩
    go_wp2
    go_ret2
    exact ⟨ret_ib9 HV.out rfl, Below.refl _ _⟩
  | true =>
    by_cases h8 : l.length ≤ 8
    · have hok : ok = true := by rw [HOK.out]; simp [h8]
      subst hok
      obtain ⟨_, y2, y3, y4⟩ := HYES.out rfl
      have hfit : ∀ g, g ∈ zsQ l → g ≤ s := fun g hg => by
        unfold zsQ at hg
        obtain ⟨x, hx, rfl⟩ := List.mem_map.1 hg
        exact (y4 x hx).2
      obtain ⟨hlc, hlcl⟩ := lcK_is hfit
      have hN8 : lcK s (zsQ l) ≤ 8 := by
        have : (zsQ l).length = l.length := by simp [zsQ]
        omega
      have HONE : Hid (∀ k, (∀ j, j < k → pkS (List.replicate j s) (zsQ l) = false) → pkS (List.replicate k s) (zsQ l) = true → k = lcK s (zsQ l)) := Lib.hid (fun k h1 h2 => lc_one ⟨(pk_iff _ _).1 h2, fun j hj hf => by
        have h := (pk_iff _ _).2 hf
        rw [h1 j hj] at h
        cases h⟩ hlc)
      have HLT : Hid (∀ k, k ≤ lcK s (zsQ l) → pkS (List.replicate k s) (zsQ l) = false → k < lcK s (zsQ l)) := Lib.hid (fun k h1 h2 => by
        by_cases e : k = lcK s (zsQ l)
        · rw [e, (pk_iff _ _).2 hlc.1] at h2; cases h2
        · omega)
      have HPK : Hid (∀ k W u, k ≤ 8 → Below w.heap.size w W → Rd W u (intVs (List.replicate k s)) → Calls Try.prog 73 #[.slice va l.length vc, .int .i64 0, u] W fun e w' => e = .returned (.bool (pkS (List.replicate k s) (zsQ l))) ∧ Below W.heap.size W w') := Lib.hid (fun k W u hk hW hu => l13Pack_c l (fun x hx => by have := y4 x hx; omega) y3 l.length 0 _ u (List.replicate k s) W (by omega) (HR.out W hW) hu (fun y hy => by rw [(List.mem_replicate.1 hy).2]; omega) (by rw [List.length_replicate]; exact hk))
      have HV := Lib.hid (HLV.out rfl).symm
      clear y4 hfit hlc hlcl HYES HLV
      generalize lcV l s = RV at *
      generalize lcK s (zsQ l) = N at *
      go_enter Try.func37, Try.ntmps37
      go_wp2_with fail
      refine (E0.out).mono ?_
      rintro e w1 ⟨rfl, rfl⟩
      go_wp2
      go_loopw [6] (fun o wr => ∃ k : Nat, k ≤ N ∧ Hid (wr.ownsRow w1.heap.size 3 1 o k (intVs (List.replicate k s))) ∧ Hid (∀ j, j < k → pkS (List.replicate j s) (zsQ l) = false) ∧ Hid (Below w1.heap.size w1 wr)) (fun o _ => N - sl13 o)
      case atStart => exact ⟨0, by omega, Lib.hid (World.ownsRow_made w1 #[] 0 (Nat.le_refl _) (by decide) rfl), Lib.hid (fun j h => by omega), Lib.hid ((Below.refl _ _).alloc (Nat.le_refl _) _)⟩
      case round =>
        obtain ⟨k, hk, hown, hno, hbel⟩ := hrel
        have hbs := hbel.out.size
        have HC := Lib.hid (HPK.out k wr _ (by omega) hbel.out (Rd.of_own hown.out))
        have H1 := Lib.hid (HONE.out k hno.out)
        have H2 := Lib.hid (HLT.out k hk)
        have HNX : Hid (pkS (List.replicate k s) (zsQ l) = false → ∀ j, j < k + 1 → pkS (List.replicate j s) (zsQ l) = false) := Lib.hid (fun h j hj => by
          by_cases e : j = k
          · subst e; exact h
          · exact hno.out j (by omega))
        have HREP : Hid (intVs (List.replicate (k + 1) s) = intVs (List.replicate k s) ++ [.int .i64 s]) := Lib.hid (by rw [List.replicate_succ', iv_one])
        generalize pkS (List.replicate k s) (zsQ l) = pb at *
        obtain ⟨xa, xc, hx⟩ := (Rs.of_own hown.out).shape
        subst hx
        go_wp2_with fail
        refine (HC.out).mono ?_
        rintro e w2 ⟨rfl, b2⟩
        have HB2 := Lib.hid (hbel.out.trans (b2.mono hbs))
        have HO2 := Lib.hid (own_below hown.out b2)
        have hs2 := HB2.out.size
        clear b2
        cases pb with
        | true =>
          have hkN := H1.out rfl
          subst hkN
          go_wp2
          go_ret2
          exact ⟨ret_ib9 HV.out rfl, HB2.out⟩
        | false =>
          have hkN := H2.out rfl
          have HN2 := Lib.hid (HNX.out rfl)
          go_wp2_with (at_builtin; go_loud (refine wpList_append_any _ rfl _ _ 31 rfl w1.heap.size 3 i0 (.int .i64 0) 1 8 Try.underlying31 hi hz0 hz1 hz2 rfl (by decide) _ _ _ rfl (HO2.out.alloc _) (some ⟨w2.heap.size, 0, none⟩) 1 1 [.int .i64 s] rfl rfl (fun _ => ⟨_, rfl, cell_one_new _ _ _⟩) (by simp [Value.oneCell']) (by unfold maxLen; omega) (by omega) (by simp; omega) ?_; intro v3 w3 hown3 hgrow3 _; obtain ⟨va3, vc3, hv3⟩ := (Rs.of_own hown3).shape; subst hv3; have HO3 := Lib.hid hown3; have HB3 := Lib.hid ((HB2.out.alloc hs2 _).grown hgrow3 (by simp; omega) (fun y hy => (HO2.out.lt y hy).1)); clear hown3 hgrow3))
          go_roundw
          case rel => exact ⟨k + 1, by omega, Lib.hid (by rw [HREP.out]; exact HO3.out), HN2, HB3⟩
          case measure => simp [sl13]; omega
    · have hok : ok = false := by rw [HOK.out]; simp [h8]
      subst hok
      have HV := Lib.hid (HNO.out rfl).symm
      go_enter Try.func37, Try.ntmps37
      go_wp2_with fail
      refine (E0.out).mono ?_
      rintro e w1 ⟨rfl, rfl⟩
      go_wp2
      go_ret2
      exact ⟨ret_ib9 HV.out rfl, Below.refl _ _⟩
end Go.Proofs.Ytkjdkfoeolcnkaa

namespace Go.Proofs.Ytkjdkfoeolcnkaa
open Go.RowKit
set_option linter.unusedVariables false
set_option maxRecDepth 100000 in
set_option maxHeartbeats 2000000 in
theorem l13Needed_c (v : Value) (l : List Gro) (s : Int) (w : World) (hr : Rs w v l.length (gros l)) (ha : asQ l s = true) :
    Calls Try.prog 53 #[v, .int .i64 s] w fun e w' => e = .returned (.int .i64 (ndV l s)) ∧ Below w.heap.size w w' := by
  have E0 := Lib.hid (l13Cabins_c v l s w hr ha)
  have HMX := Lib.hid (mx13_nd ha)
  have hl12 := is_len (as_is ha)
  have HCB : Hid (∀ i, i < l.length → 0 ≤ (cb13 (szQ l) (qkQ l) l.length s i : Int) ∧ (cb13 (szQ l) (qkQ l) l.length s i : Int) ≤ 12) := Lib.hid (fun i hi => by
    have h1 := (cb13_is (qk := qkQ l) (as_fit ha) hi).2
    have h2 := (nd13_is (qk := qkQ l) (as_fit ha)).2
    omega)
  have HAT := Lib.hid (fun i (hi : i < l.length) => cbL_at (s := s) hi)
  have HLN := Lib.hid (cbL_len l s)
  obtain ⟨f, hf⟩ : ∃ f : Nat → Int, f = fun i => (cb13 (szQ l) (qkQ l) l.length s i : Int) := ⟨_, rfl⟩
  have hfi : ∀ i, (cb13 (szQ l) (qkQ l) l.length s i : Int) = f i := fun i => by rw [hf]
  simp only [hfi] at HCB HAT HMX
  rw [show (fun i => f i) = f from rfl] at HMX
  have HBD : Hid (∀ k, k ≤ l.length → 0 ≤ mx13 f k ∧ mx13 f k ≤ 13) := Lib.hid (fun k hk => by
    induction k with
    | zero => simp [mx13]
    | succ k ih =>
      have h1 := ih (by omega)
      have h2 := HCB.out k (by omega)
      rw [mx13]
      split <;> omega)
  have HSU : Hid (∀ k, mx13 f (k + 1) = if f k + 1 < mx13 f k then mx13 f k else f k + 1) := Lib.hid (fun k => rfl)
  clear hf hfi ha
  obtain ⟨va, vc, hva⟩ := hr.shape
  clear hr
  subst hva
  generalize ndV l s = N at *
  generalize cbL l s = CL at *
  go_enter Try.func53, Try.ntmps53
  go_wp2_with fail
  refine (E0.out).mono ?_
  rintro e w1 ⟨g, rfl, o1, b1⟩
  have HB1 := Lib.hid b1
  rw [← HLN.out] at o1 HBD HMX HCB HAT hl12
  obtain ⟨ga, gb, gc, gd, hg, hga, hgt⟩ := (Rd.of_own o1).formR
  have HGA := Lib.hid hga
  have HGT := Lib.hid hgt
  subst hg
  clear o1 b1 hga hgt HLN
  go_wp2
  go_loopw [6, 7] (fun mm i wr => ∃ k : Nat, k ≤ CL.length ∧ i = .int .i64 k ∧ mm = .int .i64 (mx13 f k) ∧ wr = w1) (fun _ i _ => CL.length - (intOf i).toNat)
  case atStart => exact ⟨0, by omega, rfl, by first | rfl | trivial, by first | rfl | trivial⟩
  case round =>
    obtain ⟨k, hk, rfl, rfl, rfl⟩ := hrel
    by_cases hlt : k < CL.length
    · obtain ⟨rfl, hla, hlm⟩ := HGA.out (by omega)
      have c0 := HGT.out k hlt
      rw [HAT.out k hlt] at c0
      obtain ⟨f1, f2⟩ := HCB.out k hlt
      obtain ⟨m1, m2⟩ := HBD.out k hk
      have HS := Lib.hid (HSU.out k)
      have HM := Lib.hid (fun W => most9_c (mx13 f k) (f k + 1) W)
      generalize f k = F at *
      generalize mx13 f k = M at *
      go_wp2_with fail
      refine (HM.out _).mono ?_
      rintro e w2 ⟨rfl, rfl⟩
      go_wp2
      go_roundw
      case rel => exact ⟨k + 1, by omega, by go_num, by rw [HS.out], by first | rfl | trivial⟩
      case measure => simp [intOf]; omega
    · obtain rfl : k = CL.length := by omega
      go_wp2
      go_ret
      exact ⟨ret_i13 HMX.out, HB1.out⟩
set_option maxRecDepth 100000 in
set_option maxHeartbeats 2000000 in
theorem specCabinsNeeded_c (v : Value) (l : List Gro) (s : Int) (w : World) (hr : Rs w v l.length (gros l)) (hn : l.length ≤ 1048576) :
    Calls Try.prog 17 #[v, .int .i64 s] w fun e w' => e = .returned (.tuple #[.int .i64 (ndV l s), .bool (asQ l s)]) ∧ Below w.heap.size w w' := by
  have E0 := Lib.hid (l13Asked_c v l s w hr hn)
  have E1 := Lib.hid (fun h => l13Needed_c v l s w hr h)
  have HNO : Hid (asQ l s = false → ndV l s = 0) := Lib.hid (fun h => by unfold ndV; rw [h]; rfl)
  obtain ⟨va, vc, hva⟩ := hr.shape
  clear hr
  generalize ndV l s = R at *
  generalize asQ l s = b at *
  subst hva
  go_enter Try.func17, Try.ntmps17
  go_wp2_with fail
  refine (E0.out).mono ?_
  rintro e w1 ⟨rfl, rfl⟩
  cases b with
  | false =>
    have HR := Lib.hid (HNO.out rfl).symm
    go_wp2
    go_ret2
    exact ⟨ret_ib9 HR.out rfl, Below.refl _ _⟩
  | true =>
    go_wp2_with fail
    refine (E1.out (by trivial)).mono ?_
    rintro e w2 ⟨rfl, b2⟩
    go_wp2
    go_ret2
    exact ⟨rfl, b2⟩
set_option maxRecDepth 100000 in
set_option maxHeartbeats 2000000 in
theorem specEmptySeats_c (v : Value) (l : List Gro) (s : Int) (w : World) (hr : Rs w v l.length (gros l)) (hn : l.length ≤ 1048576) :
    Calls Try.prog 19 #[v, .int .i64 s] w fun e w' => e = .returned (.tuple #[.int .i64 (emV l s), .bool (asQ l s)]) ∧ Below w.heap.size w w' := by
  have E0 := Lib.hid (l13Asked_c v l s w hr hn)
  have E1 := Lib.hid (fun h => l13Needed_c v l s w hr h)
  have E2 : Hid (asQ l s = true → ∀ W, Below w.heap.size w W → _) := Lib.hid (fun h W (hb : Below w.heap.size w W) => l13People_c v l W (hr.below hb rfl) (as_is h))
  have HPP : Hid (asQ l s = true → ppV l = peK l l.length) := Lib.hid (fun h => by unfold ppV; rw [as_is h]; rfl)
  have HEM := Lib.hid (em_val (l := l) (s := s))
  have HEN := Lib.hid (em_no (l := l) (s := s))
  have HSS := Lib.hid (as_s (l := l) (s := s))
  have HND := Lib.hid (ndV_bd l s)
  obtain ⟨va, vc, hva⟩ := hr.shape
  clear hr
  generalize emV l s = R at *
  generalize ndV l s = N at *
  generalize asQ l s = b at *
  generalize ppV l = PP at *
  generalize peK l l.length = PK at *
  subst hva
  go_enter Try.func19, Try.ntmps19
  go_wp2_with fail
  refine (E0.out).mono ?_
  rintro e w1 ⟨rfl, rfl⟩
  cases b with
  | false =>
    have HR := Lib.hid (HEN.out rfl).symm
    go_wp2
    go_ret2
    exact ⟨ret_ib9 HR.out rfl, Below.refl _ _⟩
  | true =>
    obtain ⟨m1, m2, m3, m4, m5⟩ := HEM.out (by trivial)
    obtain ⟨n1, n2⟩ := HSS.out (by trivial)
    obtain ⟨n3, n4⟩ := HND.out
    have hp := HPP.out (by trivial)
    subst hp
    have HM1 := Lib.hid m1
    clear m1
    have tw : IntKind.i64.wrap (N * s) = N * s := IntWalk.i64_in _ (by omega)
    go_wp2_with fail
    refine (E1.out (by trivial)).mono ?_
    rintro e w2 ⟨rfl, b2⟩
    have HB2 := Lib.hid b2
    clear b2
    go_wp2_with fail
    refine (E2.out (by trivial) _ HB2.out).mono ?_
    rintro e w3 ⟨rfl, rfl⟩
    go_wp2
    go_ret2
    exact ⟨ret_ib9 (by rw [← HM1.out]) rfl, HB2.out⟩
set_option maxRecDepth 100000 in
set_option maxHeartbeats 2000000 in
theorem specCabinOf_c (v : Value) (l : List Gro) (s x : Int) (w : World) (hr : Rs w v l.length (gros l)) (hn : l.length ≤ 1048576) :
    Calls Try.prog 30 #[v, .int .i64 s, .int .i64 x] w fun e w' => e = .returned (.tuple #[.int .i64 (cbV l s x), .bool (cbOk l s x)]) ∧ Below w.heap.size w w' := by
  have E0 := Lib.hid (l13Asked_c v l s w hr hn)
  have E1 := Lib.hid (fun h => l13Cabins_c v l s w hr h)
  have E2 := Lib.hid (fun W => l1In_c x 0 ((l.length : Int) - 1) W)
  have HOK : Hid (cbOk l s x = (asQ l s && inR x 0 ((l.length : Int) - 1))) := Lib.hid rfl
  have HNO : Hid (cbOk l s x = false → cbV l s x = 0) := Lib.hid (fun h => by unfold cbV; rw [h]; rfl)
  have HYES : Hid (cbOk l s x = true → ∃ i : Nat, x = (i : Int) ∧ i < l.length ∧ cbV l s x = (cbL l s).getD i 0) := Lib.hid (fun h => by
    have h' := h
    unfold cbOk at h'
    rw [Bool.and_eq_true, inR_iff] at h'
    obtain ⟨_, h1, h2⟩ := h'
    refine ⟨x.toNat, by omega, by omega, ?_⟩
    rw [cbL_at (by omega)]
    unfold cbV
    rw [h, if_pos rfl])
  have HLN := Lib.hid (cbL_len l s)
  obtain ⟨va, vc, hva⟩ := hr.shape
  clear hr
  generalize cbV l s x = R at *
  generalize cbOk l s x = ok at *
  generalize asQ l s = b at *
  generalize inR x 0 ((l.length : Int) - 1) = bi at *
  generalize cbL l s = CL at *
  subst hva
  go_enter Try.func30, Try.ntmps30
  go_wp2_with fail
  refine (E0.out).mono ?_
  rintro e w1 ⟨rfl, rfl⟩
  cases b with
  | false =>
    have hok : ok = false := HOK.out
    subst hok
    have HR := Lib.hid (HNO.out rfl).symm
    go_wp2
    go_ret2
    exact ⟨ret_ib9 HR.out rfl, Below.refl _ _⟩
  | true =>
    go_wp2_with fail
    refine (E2.out _).mono ?_
    rintro e w2 ⟨rfl, rfl⟩
    cases bi with
    | false =>
      have hok : ok = false := HOK.out
      subst hok
      have HR := Lib.hid (HNO.out rfl).symm
      go_wp2
      go_ret2
      exact ⟨ret_ib9 HR.out rfl, Below.refl _ _⟩
    | true =>
      have hok : ok = true := HOK.out
      subst hok
      obtain ⟨i, rfl, hi, hR'⟩ := HYES.out rfl
      have hR := Lib.hid hR'
      clear hR'
      go_wp2_with fail
      refine (E1.out (by trivial)).mono ?_
      rintro e w3 ⟨g, rfl, o3, b3⟩
      have HB3 := Lib.hid b3
      clear b3
      rcases own_form o3 with ⟨h0, _⟩ | ⟨gg, cg, rfl, _, _, _, _⟩
      · omega
      · have c3 := (o3.cellAt i (by omega)).trans (int_at (by rw [HLN.out]; exact hi))
        rw [← hR.out] at c3
        clear o3
        go_wp2
        go_ret2
        exact ⟨rfl, HB3.out⟩
end Go.Proofs.Ytkjdkfoeolcnkaa

namespace Go.Proofs.Ytkjdkfoeolcnkaa
open Go.RowKit
set_option linter.unusedVariables false
theorem filt_gth (l : List Gro) (f : Gro → Bool) : l.filter f = ((List.range l.length).filter fun i => f (gth l i)).map (gth l) := by
  have e := map_gth_range l
  calc l.filter f = ((List.range l.length).map (gth l)).filter f := by rw [e]
    _ = _ := by rw [List.filter_map]; rfl
theorem pe_list (l : List Gro) (p : Bool → Bool) : su13 (fun i => p (gth l i).q) (szQ l) l.length = sum13 ((l.filter fun x => p x.q).map fun x => x.z) := by
  rw [su13_list, filt_gth, List.map_map]
  rfl
theorem pe_all (l : List Gro) : peK l l.length = sum13 (zsQ l) := by
  have h := pe_list l fun _ => true
  rw [List.filter_eq_self.2 fun _ _ => rfl] at h
  exact h
theorem pe_sum (l : List Gro) : peK l l.length = sum13 ((l.filter fun x => (fun _ : Bool => true) x.q).map fun x => x.z) := pe_list l fun _ => true
theorem qu_sum (l : List Gro) : quK l l.length = sum13 ((l.filter fun x => (fun b : Bool => b) x.q).map fun x => x.z) := pe_list l fun b => b
theorem zsQ_range (l : List Gro) : zsQ l = (List.range l.length).map (szQ l) := by
  have e := map_gth_range l
  calc zsQ l = ((List.range l.length).map (gth l)).map (fun x => x.z) := by rw [e]; rfl
    _ = _ := by rw [List.map_map]; rfl
theorem sp_law {l : List Gro} {s : Int} (h : spOk l s = true) : isQ l = true ∧ isQ (spV l s) = true ∧ ppV (spV l s) = ppV l ∧ qqV (spV l s) = qqV l ∧ spOk (spV l s) s = true ∧ spV (spV l s) s = spV l s ∧ asQ (spV l s) s = true := by
  have hv := spV_yes h
  have h' := h
  unfold spOk at h'
  rw [Bool.and_eq_true, Bool.and_eq_true, inR_iff, decide_eq_true_eq] at h'
  obtain ⟨⟨hq, hs⟩, hl⟩ := h'
  have hm := isQ_mem hq
  have hq2 : isQ (sp13 s l) = true := by rw [sp13_isQ hs.1 hq, decide_eq_true hl]
  have hmem := fun y hy => sp13_mem (s := s) (l := l) hs.1 hm (y := y) hy
  have hag : sp13 s (sp13 s l) = sp13 s l := sp13_again hs.1 fun x hx => ⟨(hmem x hx).1, (hmem x hx).2.2⟩
  have hok2 : spOk (sp13 s l) s = true := by
    unfold spOk
    rw [hq2, (inR_iff _ _ _).2 hs, hag, decide_eq_true hl]; rfl
  rw [hv]
  refine ⟨hq, hq2, ?_, ?_, hok2, by rw [spV_yes hok2, hag], ?_⟩
  · unfold ppV
    rw [hq, hq2, if_pos rfl, if_pos rfl, pe_sum, pe_sum]
    exact sp13_sum fun _ => true
  · unfold qqV
    rw [hq, hq2, if_pos rfl, if_pos rfl, qu_sum, qu_sum]
    exact sp13_sum fun b => b
  · rw [asQ_iff]
    exact ⟨hq2, hs, fun i hi => (hmem _ (gth_mem hi)).2.2⟩
theorem lc_law {l : List Gro} {s : Int} (h : lcOk l s = true) : isQ l = true ∧ ppV l ≤ lcV l s * s ∧ 0 ≤ lcV l s * s ∧ lcV l s * s ≤ 80 ∧ 0 ≤ ppV l ∧ ppV l ≤ 96 := by
  have h' := h
  unfold lcOk at h'
  rw [Bool.and_eq_true, decide_eq_true_eq] at h'
  obtain ⟨ha, h8⟩ := h'
  have hq := as_is ha
  have hs := as_s ha
  have hp : ppV l = sum13 (zsQ l) := by unfold ppV; rw [hq, if_pos rfl, pe_all]
  have hb := peK_bd hq (Nat.le_refl _)
  rw [pe_all, ← hp] at hb
  have hV : lcV l s = (lcK s (zsQ l) : Int) := by unfold lcV; rw [h]; rfl
  have hfit : ∀ g, g ∈ zsQ l → g ≤ s := fun g hg => by
    rw [zsQ_range] at hg
    obtain ⟨i, hi, rfl⟩ := List.mem_map.1 hg
    exact as_fit ha i (List.mem_range.1 hi)
  have h1 := lcK_sum (by omega) hfit
  have h2 := (lcK_is hfit).2
  have h3 : (zsQ l).length = l.length := by simp [zsQ]
  have h4 : (0 : Int) ≤ (lcK s (zsQ l) : Int) * s := Int.mul_nonneg (by omega) (by omega)
  have h5 : (lcK s (zsQ l) : Int) * s ≤ 8 * 10 := Int.mul_le_mul (by omega) hs.2 (by omega) (by omega)
  rw [hV, hp]
  rw [hp] at hb
  exact ⟨hq, h1, h4, by omega, hb.1, hb.2⟩
theorem nd13_ext {sz sz' : Nat → Int} {qk qk' : Nat → Bool} {n : Nat} {s : Int} (h : ∀ j, j < n → sz j = sz' j ∧ qk j = qk' j) (hz : ∀ i, i < n → sz' i ≤ s) : nd13 sz qk n s = nd13 sz' qk' n s := by
  have h1 := (nd13_is (qk := qk') hz).1
  refine nd13_eq ⟨?_, fun j hj => ?_⟩
  · rw [lf13_ext h]; exact h1.1
  · rw [lf13_ext h]; exact h1.2 j hj
theorem af_law {l : List Gro} {s : Int} (h : asQ l s = true) (h0 : 0 < l.length) : asQ (afV l s) s = true ∧ ndV l s = ndV (afV l s) s + 1 ∧ (flV l s).length + (afV l s).length = l.length ∧ apV l s ≤ s := by
  have hs := as_s h
  have hq := as_is h
  have hfit := as_fit h
  have hl12 := is_len hq
  obtain ⟨L, hL⟩ : ∃ L, lf13 (szQ l) (qkQ l) l.length s 1 = L := ⟨_, rfl⟩
  have hr : afV l s = L.map (gth l) := by
    unfold afV
    rw [h, if_pos rfl, gs13_out, hL]
  have hsub : ∀ j, j < L.length → gth L j < l.length := fun j hj => lf13_sub (sz := szQ l) (qk := qkQ l) (s := s) 1 (by rw [hL]; exact gth_mem hj)
  have hlen : (afV l s).length = L.length := by rw [hr, List.length_map]
  have hat : ∀ j, j < L.length → gth (afV l s) j = gth l (gth L j) := fun j hj => by rw [hr, gth_map hj]
  have haf : asQ (afV l s) s = true := by
    rw [asQ_iff, isQ_iff]
    refine ⟨⟨by have := afV_len l s; omega, fun i hi => ?_⟩, hs, fun i hi => ?_⟩
    · rw [hlen] at hi
      rw [hat i hi]
      exact is_bd hq _ (hsub i hi)
    · rw [hlen] at hi
      rw [hat i hi]
      exact hfit _ (hsub i hi)
  refine ⟨haf, ?_, ?_, ?_⟩
  · have h1 : ndV l s = (nd13 (szQ l) (qkQ l) l.length s : Int) := by unfold ndV; rw [h]; rfl
    have h2 : ndV (afV l s) s = (nd13 (szQ (afV l s)) (qkQ (afV l s)) (afV l s).length s : Int) := by unfold ndV; rw [haf]; rfl
    have h3 := nd13_behind hL hfit h0
    have h4 : nd13 (szQ (afV l s)) (qkQ (afV l s)) (afV l s).length s = nd13 (fun j => szQ l (gth L j)) (fun j => qkQ l (gth L j)) L.length s := by
      rw [hlen]
      exact nd13_ext (fun j hj => by unfold szQ qkQ; rw [hat j hj]; exact ⟨rfl, rfl⟩) fun i hi => hfit _ (hsub i hi)
    rw [h1, h2, h3, h4]
    omega
  · have h1 := gs13_len l (fun k => !in13 (szQ l) (qkQ l) l.length s k) l.length
    have h2 : afV l s = gs13 l (fun k => !in13 (szQ l) (qkQ l) l.length s k) l.length := by unfold afV; rw [h]; rfl
    have h3 : flV l s = ix13 (in13 (szQ l) (qkQ l) l.length s) l.length := by unfold flV; rw [h]; rfl
    have h4 : ix13 (fun k => !(fun k => !in13 (szQ l) (qkQ l) l.length s k) k) l.length = ix13 (in13 (szQ l) (qkQ l) l.length s) l.length := ix13_ext _ fun k _ => by simp
    rw [h4, ← h2, ← h3] at h1
    omega
  · have h2 : apV l s = su13 (in13 (szQ l) (qkQ l) l.length s) (szQ l) l.length := by unfold apV; rw [h]; rfl
    rw [h2]
    exact in13_le (by omega)
/-- What is asked of a queue that can be filled into cabins. -/
structure QLaw (l : List Gro) (s : Int) (N : Nat) (cb : Nat → Nat) (F : Nat → List Int) : Prop where
  nd : ndV l s = (N : Int)
  le : N ≤ 12
  len : l.length ≤ 12
  is : isQ l = true
  cab : ∀ i : Nat, i < l.length → cbOk l s (i : Int) = true ∧ cbV l s (i : Int) = (cb i : Int) ∧ cb i < N
  flen : ∀ i, (F i).length = N
  zero : F 0 = List.replicate N 0
  succ : ∀ i, i < l.length → F (i + 1) = (F i).set (cb i) ((F i).getD (cb i) 0 + (gth l i).z)
  bd : ∀ i, i ≤ l.length → ∀ k, k < N → 0 ≤ (F i).getD k 0 ∧ (F i).getD k 0 ≤ 96
  gro : ∀ i, i < l.length → 1 ≤ (gth l i).z ∧ (gth l i).z ≤ 8
  full : ∀ k, k < N → 1 ≤ (F l.length).getD k 0 ∧ (F l.length).getD k 0 ≤ s
  sum : sum13 (F l.length) = ppV l
  em : (N : Int) * s - ppV l = emV l s
  mul : 0 ≤ (N : Int) * s ∧ (N : Int) * s ≤ 120
  pp : 0 ≤ ppV l ∧ ppV l ≤ 96
  lc : lcOk l s = true → lcV l s ≤ (N : Int)
  sb : 1 ≤ s ∧ s ≤ 10
theorem q_law {l : List Gro} {s : Int} (h : asQ l s = true) : ∃ N cb F, QLaw l s N cb F := by
  have hs := as_s h
  have hq := as_is h
  have hfit := as_fit h
  have hl12 := is_len hq
  have hnn := szQ_nonneg hq
  have hgro := is_bd hq
  have hnd : ndV l s = (nd13 (szQ l) (qkQ l) l.length s : Int) := by unfold ndV; rw [h]; rfl
  have hem := em_val h
  rw [hnd] at hem
  have hcb := fun i (hi : i < l.length) => (cb13_is (qk := qkQ l) hfit hi).2
  have hN12 := (nd13_is (qk := qkQ l) hfit).2
  have hfull := fun k (hk : k < nd13 (szQ l) (qkQ l) l.length s) => full13 (qk := qkQ l) (by omega) hfit hnn (fun i hi => (hgro i hi).1) hk
  have hlc : lcOk l s = true → lcV l s ≤ (nd13 (szQ l) (qkQ l) l.length s : Int) := fun hl => by
    have hV : lcV l s = (lcK s (zsQ l) : Int) := by unfold lcV; rw [hl]; rfl
    have := lc13_nd (qk := qkQ l) (zsQ_range l) (by omega) hfit hnn (fun i hi => (hgro i hi).1)
    omega
  refine ⟨nd13 (szQ l) (qkQ l) l.length s, cb13 (szQ l) (qkQ l) l.length s, fl13 (cb13 (szQ l) (qkQ l) l.length s) (szQ l) (nd13 (szQ l) (qkQ l) l.length s), ⟨hnd, by omega, hl12, hq, fun i hi => ?_, fun i => fl13_len _ _ _ _, fl13_zero _ _ _, fun i hi => ?_, fun i hi k hk => ?_, hgro, fun k hk => ?_, ?_, hem.1, ⟨hem.2.1, hem.2.2.1⟩, hem.2.2.2, hlc, hs⟩⟩
  · have hok : cbOk l s (i : Int) = true := by
      unfold cbOk
      rw [h, (inR_iff _ _ _).2 ⟨by omega, by omega⟩]; rfl
    refine ⟨hok, ?_, hcb i hi⟩
    unfold cbV
    rw [hok, if_pos rfl]; simp
  · exact fl13_succ (hcb i hi)
  · rw [fl13_at hk]
    have := su13_bd (p := fun j => cb13 (szQ l) (qkQ l) l.length s j == k) (sz := szQ l) i fun j hj => by have := hgro j (by omega); omega
    omega
  · rw [fl13_at hk]
    exact hfull k hk
  · rw [fl13_sum l.length hcb]
    unfold ppV
    rw [hq, if_pos rfl, pe_all, zsQ_range]
end Go.Proofs.Ytkjdkfoeolcnkaa

namespace Go.Proofs.Ytkjdkfoeolcnkaa
open Go.RowKit
set_option linter.unusedVariables false
theorem eqIntS_c (va vb : Value) (l : List Int) (w : World) (ha : Rd w va (intVs l)) (hb : Rd w vb (intVs l)) :
    Calls Try.prog 48 #[va, vb] w fun e w' => e = .returned (.bool true) ∧ Below w.heap.size w w' := (eqIntS_same va vb l w ha hb).mono fun _ _ h => ⟨h.1, h.2.below _⟩
theorem heldIntS_c (k n : Nat) (v : Value) (w : World) (hk : k ≤ 8388608) (hn : n ≤ 8388608) (hr : Rd w v (intVs (imarks k n))) :
    Calls Try.prog 50 #[v, .int .i64 (k : Int)] w fun e w' => e = .returned (.int .i64 ((k + n : Nat) : Int)) ∧ Below w.heap.size w w' := (heldIntS_any k n v w hk hn hr).mono fun _ _ h => ⟨h.1, h.2.below _⟩
end Go.Proofs.Ytkjdkfoeolcnkaa

namespace Go.Proofs.Ytkjdkfoeolcnkaa
open Go.RowKit
set_option linter.unusedVariables false
set_option maxHeartbeats 400000 in
theorem vInts_same (va vb : Value) (l : List Int) (w : World) (ha : Rd w va (intVs l)) (hb : Rd w vb (intVs l)) :
    Calls Try.prog 40 #[va, vb] w fun e w' => e = .returned (.bool true) ∧ Drew w w' := by
  by_cases h0 : l = []
  · subst h0
    obtain ⟨a, ca, rfl⟩ := ha.iv0
    obtain ⟨b, cb, rfl⟩ := hb.iv0
    clear ha hb
    go_enter Try.func40, Try.ntmps40
    go_wp2
    refine wp_loop_rounds 1 ?_
    rw [rounds_succ]
    go_wp2
    go_ret
    exact ⟨rfl, Drew.refl _⟩
  · obtain ⟨a, oa, ca, rfl, hla, hm, hca⟩ := ha.iv h0
    obtain ⟨b, ob, cb, rfl, hlb, _, hcb⟩ := hb.iv h0
    unfold maxLen at hm
    have HA := Lib.hid hca
    have HB := Lib.hid hcb
    clear hca hcb ha hb
    go_enter Try.func40, Try.ntmps40
    go_wp2
    go_loopw [5] (fun i wr => ∃ k m : Nat, k ≤ l.length ∧ i = .int .i64 k ∧ wr = w.drewN m) (fun i _ => l.length - (intOf i).toNat)
    case atStart => exact ⟨0, 0, Nat.zero_le _, rfl, rfl⟩
    case round =>
      obtain ⟨k, m, hk, rfl, rfl⟩ := hrel
      by_cases hlt : k < l.length
      · have c1 : w.cell? ⟨a, oa + k, none⟩ = some (.int .i64 (l.getD k 0)) := HA.out k hlt
        have c2 : w.cell? ⟨b, ob + k, none⟩ = some (.int .i64 (l.getD k 0)) := HB.out k hlt
        generalize l.getD k 0 = x at c1 c2
        go_wp2
        go_quiet (fail)
        go_wp2
        go_roundw
        case rel => exact ⟨k + 1, m + nq, by omega, by go_num, rfl⟩
        case measure => simp [intOf]; omega
      · go_wp2
        go_ret
        exact ⟨rfl, m, rfl⟩
theorem vInts_c (va vb : Value) (l : List Int) (w : World) (ha : Rd w va (intVs l)) (hb : Rd w vb (intVs l)) :
    Calls Try.prog 40 #[va, vb] w fun e w' => e = .returned (.bool true) ∧ Below w.heap.size w w' := (vInts_same va vb l w ha hb).mono fun _ _ h => ⟨h.1, h.2.below _⟩
set_option maxRecDepth 100000 in
set_option maxHeartbeats 2000000 in
theorem vGroups_c (va vb : Value) (l : List Gro) (w : World) (ha : Rs w va l.length (gros l)) (hb : Rs w vb l.length (gros l)) (hn : l.length ≤ 1048576) :
    Calls Try.prog 27 #[va, vb] w fun e w' => e = .returned (.bool true) ∧ Below w.heap.size w w' := by
  obtain ⟨ao, a, oa, ca, rfl, hao, hat⟩ := ha.form_Gro
  obtain ⟨bo, b, ob, cb, rfl, hbo, hbt⟩ := hb.form_Gro
  have HA := Lib.hid hao
  have HL := Lib.hid hat
  have HB := Lib.hid hbo
  have HM := Lib.hid hbt
  clear ha hb hao hat hbo hbt
  go_enter Try.func27, Try.ntmps27
  go_wp2
  go_loopw [5] (fun i wr => ∃ k m : Nat, k ≤ l.length ∧ i = .int .i64 k ∧ wr = w.drewN m) (fun i _ => l.length - (intOf i).toNat)
  case atStart => exact ⟨0, 0, Nat.zero_le _, rfl, rfl⟩
  case round =>
    obtain ⟨k, m, hk, rfl, rfl⟩ := hrel
    by_cases hlt : k < l.length
    · obtain ⟨rfl, hla, hlm⟩ := HA.out (by omega)
      obtain ⟨rfl, hlb, hlm2⟩ := HB.out (by omega)
      obtain ⟨c0, c1⟩ := HL.out k hlt
      obtain ⟨d0, d1⟩ := HM.out k hlt
      generalize gth l k = D at *
      go_wp2
      go_quiet (fail)
      go_wp2
      go_roundw
      case rel => exact ⟨k + 1, m + nq, by omega, by go_num, rfl⟩
      case measure => simp [intOf]; omega
    · obtain rfl : k = l.length := by omega
      go_wp2
      go_ret
      exact ⟨rfl, below_drewN (Below.refl _ _) m⟩
theorem sum13_takeQ {l : List Int} {k : Nat} (h : k < l.length) : sum13 (l.take (k + 1)) = sum13 (l.take k) + l.getD k 0 := by
  rw [List.take_add_one, show l[k]? = some (l.getD k 0) by simp [List.getD, h], sum13_app]
  simp [sum13]
theorem sum13_bdQ {l : List Int} (h : ∀ x, x ∈ l → 0 ≤ x ∧ x ≤ 100) : ∀ k, k ≤ l.length → 0 ≤ sum13 (l.take k) ∧ sum13 (l.take k) ≤ k * 100
  | 0, _ => by simp [sum13]
  | k + 1, hk => by
    have ih := sum13_bdQ h k (by omega)
    have := h _ (getD_mem13 (free := l) (i := k) (by omega))
    rw [sum13_takeQ (by omega)]
    omega
set_option maxRecDepth 100000 in
set_option maxHeartbeats 2000000 in
theorem vSum_c (v : Value) (l : List Int) (w : World) (hr : Rd w v (intVs l)) (hn : l.length ≤ 1000) (hx : ∀ x, x ∈ l → 0 ≤ x ∧ x ≤ 100) :
    Calls Try.prog 22 #[v] w fun e w' => e = .returned (.int .i64 (sum13 l)) ∧ Below w.heap.size w w' := by
  have HBD := Lib.hid (fun k hk => sum13_bdQ hx k hk)
  have HX := Lib.hid (fun k (hk : k < l.length) => hx _ (getD_mem13 (free := l) hk))
  have HS := Lib.hid (fun k (hk : k < l.length) => sum13_takeQ (l := l) hk)
  obtain ⟨ao, a, oa, ca, rfl, hao, hat⟩ := hr.formR
  have HA := Lib.hid hao
  have HL := Lib.hid hat
  clear hr hao hat hx
  go_enter Try.func22, Try.ntmps22
  go_wp2
  go_loopw [3, 4] (fun pp i wr => ∃ k : Nat, k ≤ l.length ∧ i = .int .i64 k ∧ pp = .int .i64 (sum13 (l.take k)) ∧ wr = w) (fun _ i _ => l.length - (intOf i).toNat)
  case atStart => exact ⟨0, by omega, rfl, by first | rfl | trivial, by first | rfl | trivial⟩
  case round =>
    obtain ⟨k, hk, rfl, rfl, rfl⟩ := hrel
    by_cases hlt : k < l.length
    · obtain ⟨rfl, hla, hlm⟩ := HA.out (by omega)
      have c0 := HL.out k hlt
      obtain ⟨x1, x2⟩ := HX.out k hlt
      obtain ⟨p1, p2⟩ := HBD.out k hk
      have HSU := Lib.hid (HS.out k hlt)
      generalize l.getD k 0 = D at *
      generalize sum13 (l.take k) = P0 at *
      go_wp2
      go_roundw
      case rel => exact ⟨k + 1, by omega, by go_num, by rw [HSU.out] <;> go_num, by first | rfl | trivial⟩
      case measure => simp [intOf]; omega
    · obtain rfl : k = l.length := by omega
      rw [List.take_length]
      go_wp2
      go_ret
      exact ⟨rfl, Below.refl _ _⟩
end Go.Proofs.Ytkjdkfoeolcnkaa

namespace Go.Proofs.Ytkjdkfoeolcnkaa
open Go.RowKit
set_option linter.unusedVariables false
theorem specIsQueue_b (v : Value) (l : List Gro) (w : World) (hr : Rs w v l.length (gros l)) (hn : l.length ≤ 1048576) :
    Calls Try.prog 35 #[v] w fun e w' => e = .returned (.bool (isQ l)) ∧ Below w.heap.size w w' :=
  (specIsQueue_c v l w hr hn).mono fun _ _ ⟨h, hw⟩ => ⟨h, hw ▸ Below.refl _ _⟩
theorem specPeopleIn_b (v : Value) (l : List Gro) (w : World) (hr : Rs w v l.length (gros l)) (hn : l.length ≤ 1048576) :
    Calls Try.prog 42 #[v] w fun e w' => e = .returned (.tuple #[.int .i64 (ppV l), .int .i64 (qqV l), .bool (isQ l)]) ∧ Below w.heap.size w w' :=
  (specPeopleIn_c v l w hr hn).mono fun _ _ ⟨h, hw⟩ => ⟨h, hw ▸ Below.refl _ _⟩
end Go.Proofs.Ytkjdkfoeolcnkaa

namespace Go.Proofs.Ytkjdkfoeolcnkaa
open Go.RowKit
set_option linter.unusedVariables false
def lenQ : Value → Nat
  | .slice _ n _ => n
  | _ => 0
/-- What drawing a queue leaves. -/
def QuPost (B b k : Nat) (w : World) (e : Ending) (w' : World) : Prop := ∃ (v : Value) (l : List Gro), e = .returned v ∧ St 34 2 B b (k + 200) w w' v l.length (gros l) ∧ l.length ≤ 14
theorem st_noneQ {B b k : Nat} {w : World} (h : Cur B b k w) : St 34 2 B b k w (w.alloc (.cells #[] 34)) (.slice (some ⟨w.heap.size, 0, none⟩) 0 0) ([] : List Gro).length (gros []) :=
  ⟨h.alloc _, World.ownsRow_made w #[] 0 (Nat.le_refl _) (by decide) rfl, World.grownBy_alloc w _ _, h.2.1⟩
theorem gros_snocQ (l : List Gro) (x : Gro) : gros (l ++ [x]) = gros l ++ [.int .i64 x.z, .bool x.q] := by rw [gros_append, gros_one]
set_option maxRecDepth 100000 in
set_option maxHeartbeats 4000000 in
theorem queue_any (B b k : Nat) (w : World) (h : Cur B b k w) (hk : k ≤ 700000000) :
    Calls Try.prog 62 #[.pointer (some ⟨b, 0, none⟩)] w (QuPost B b k w) := by
  obtain ⟨i0, hi, hy0, hy1, hy2⟩ := info_parts Try.infoGro
  have hb := h.2.1
  have S0 := Lib.hid (st_noneQ h)
  clear h
  go_enter Try.func62, Try.ntmps62
  go_wp2_with fail
  refine (pick_any B b k 9 _ S0.out.cur (by omega) (by omega) (by omega)).mono ?_
  rintro e w1 ⟨r0, rfl, hr0, hc, hg⟩
  have S1 := Lib.hid (S0.out.call hc hg)
  clear hc hg S0
  go_wp2
  go_loopw [3, 4] (fun v n wr => ∃ (m kk : Nat) (l : List Gro), n = .int .i64 (m : Int) ∧ l.length + m ≤ 8 ∧ kk + 4 * m ≤ 40 ∧ Hid (St 34 2 B b (k + kk) w wr v l.length (gros l))) (fun _ n _ => (intOf n).toNat)
  case atStart => exact ⟨r0, 2, [], rfl, by simp; omega, by omega, S1⟩
  case round =>
    obtain ⟨m, kk, l, rfl, hlm, hkk, S5⟩ := hrel
    obtain ⟨ao, ca, rfl⟩ := (Rs.of_own S5.out.own).shape
    have hsz := S5.out.size
    have hbw := S5.out.cur.2.1
    by_cases hm : 0 < m
    · have hmi : (0 : Int) < (m : Int) := by omega
      have p2 : IntKind.i64.wrap ((m : Int) - 1) = ((m - 1 : Nat) : Int) := by rw [show (m : Int) - 1 = ((m - 1 : Nat) : Int) by omega]; exact IntWalk.i64_in _ (by omega)
      go_wp2_with fail
      refine (among_any B b (k + kk) wr.heap.size 11 11 [1, 1, 2, 2, 2, 3, 4, 4, 5, 6, 8] _ (S5.out.cur.alloc _) (by omega) rfl (by omega) (by omega) (by omega) (num_cells wr 3 [1, 1, 2, 2, 2, 3, 4, 4, 5, 6, 8] _ rfl)).mono ?_
      rintro e w6a ⟨x, hx, rfl, hc, hg⟩
      have S6a := Lib.hid ((S5.out.alloc (.cells #[.int .i64 1, .int .i64 1, .int .i64 2, .int .i64 2, .int .i64 2, .int .i64 3, .int .i64 4, .int .i64 4, .int .i64 5, .int .i64 6, .int .i64 8] 3)).call hc hg)
      clear hc hg hx
      go_wp2_with fail
      refine (one_any B b (k + kk + 2) 4 _ S6a.out.cur (by omega) (by omega) (by omega)).mono ?_
      rintro e w6 ⟨bq, rfl, hc, hg⟩
      have S6 := Lib.hid (S6a.out.call hc hg)
      have hown := (S6.out.alloc (.cells #[.int .i64 x, .bool bq] 34)).own
      have hsz6 := S6.out.size
      clear hc hg S6a
      go_wp2_with (at_builtin; go_loud (refine wpList_append_any _ rfl _ _ 24 rfl w.heap.size 34 i0 (.agg #[.int .i64 0, .bool false]) 2 16 Try.underlying24 hi hy0 hy1 hy2 rfl (by decide) _ _ _ rfl hown (some ⟨w6.heap.size, 0, none⟩) 1 1 [.int .i64 x, .bool bq] rfl rfl (fun _ => ⟨_, rfl, World.news_of_block (cs := #[.int .i64 x, .bool bq]) (t := 34) (fr := (0, 0)) (heap_alloc_new w6 _)⟩) (by simp [Value.oneCell']) (by unfold maxLen; omega) (by omega) (by simp; omega) ?_; intro v9 w9 hown' hgrow _; have S7 := Lib.hid ((S6.out.alloc (.cells #[.int .i64 x, .bool bq] 34)).app hown' hgrow); clear hown hown' hgrow))
      have HG := Lib.hid (gros_snocQ l ⟨x, bq⟩)
      go_roundw
      case rel => exact ⟨m - 1, kk + 4, l ++ [⟨x, bq⟩], by go_num, by simp; omega, by omega, Lib.hid (by rw [HG.out, List.length_append]; simpa [Nat.add_assoc] using S7.out)⟩
      case measure => simp [intOf]; omega
    · have hmi : ¬ (0 : Int) < (m : Int) := by omega
      have S8 := Lib.hid (S5.out.more (k' := k + 40) (by omega))
      clear S5
      go_wp2_with fail
      refine (pick_any B b (k + 40) 32 _ S8.out.cur (by omega) (by omega) (by omega)).mono ?_
      rintro e w2 ⟨r, rfl, hr, hc, hg⟩
      have S9 := Lib.hid (S8.out.call hc hg)
      have hsz9 := S9.out.size
      have hbw9 := S9.out.cur.2.1
      clear hc hg S8
      by_cases e0 : r = 0
      · have t0 : ((r : Int) == 0) = true := by rw [beq_iff_eq]; omega
        clear e0
        go_wp2_with fail
        refine (among_any B b (k + 40 + 2) w2.heap.size 2 2 [0, 9] _ (S9.out.cur.alloc _) (by omega) rfl (by omega) (by omega) (by omega) (num_cells w2 3 [0, 9] _ rfl)).mono ?_
        rintro e w6 ⟨x, hx, rfl, hc, hg⟩
        have S6 := Lib.hid ((S9.out.alloc (.cells #[.int .i64 0, .int .i64 9] 3)).call hc hg)
        have hown := (S6.out.alloc (.cells #[.int .i64 x, .bool false] 34)).own
        have hsz6 := S6.out.size
        clear hc hg hx
        go_wp2_with (at_builtin; go_loud (refine wpList_append_any _ rfl _ _ 24 rfl w.heap.size 34 i0 (.agg #[.int .i64 0, .bool false]) 2 16 Try.underlying24 hi hy0 hy1 hy2 rfl (by decide) _ _ _ rfl hown (some ⟨w6.heap.size, 0, none⟩) 1 1 [.int .i64 x, .bool false] rfl rfl (fun _ => ⟨_, rfl, World.news_of_block (cs := #[.int .i64 x, .bool false]) (t := 34) (fr := (0, 0)) (heap_alloc_new w6 _)⟩) (by simp [Value.oneCell']) (by unfold maxLen; omega) (by omega) (by simp; omega) ?_; intro v9 w9 hown' hgrow _; have S7 := Lib.hid ((S6.out.alloc (.cells #[.int .i64 x, .bool false] 34)).app hown' hgrow); clear hown hown' hgrow))
        have HG := Lib.hid (gros_snocQ l ⟨x, false⟩)
        go_ret
        exact ⟨_, l ++ [⟨x, false⟩], rfl, by rw [HG.out, List.length_append]; exact S7.out.more (k' := k + 200) (by omega), by simp; omega⟩
      · have t0 : ((r : Int) == 0) = false := by rw [beq_eq_false_iff_ne]; omega
        by_cases e1 : r = 1
        · have t1 : ((r : Int) == 1) = true := by rw [beq_iff_eq]; omega
          clear e1
          go_wp2
          go_loopw [3] (fun v wr => ∃ (kk : Nat) (l : List Gro), l.length ≤ 13 ∧ kk ≤ 60 + 2 * l.length ∧ Hid (St 34 2 B b (k + kk) w wr v l.length (gros l))) (fun v _ => 14 - lenQ v)
          case atStart => exact ⟨42, l, by omega, by omega, S9⟩
          case round =>
            obtain ⟨kk2, l2, hl2, hkk2, S10⟩ := hrel
            obtain ⟨ao2, ca2, rfl⟩ := (Rs.of_own S10.out.own).shape
            go_wp2_with fail
            refine (pick_any B b (k + kk2) 2 _ S10.out.cur (by omega) (by omega) (by omega)).mono ?_
            rintro e w6 ⟨r6, rfl, hr6, hc, hg⟩
            have S6 := Lib.hid (S10.out.call hc hg)
            have hsz6 := S6.out.size
            have hown := (S6.out.alloc (.cells #[.int .i64 1, .bool false] 34)).own
            clear hc hg S10
            by_cases hcmp : (l2.length : Int) < 12 + (r6 : Int)
            · have t3 : decide ((l2.length : Int) < 12 + (r6 : Int)) = true := by simpa using hcmp
              go_wp2_with (at_builtin; go_loud (refine wpList_append_any _ rfl _ _ 24 rfl w.heap.size 34 i0 (.agg #[.int .i64 0, .bool false]) 2 16 Try.underlying24 hi hy0 hy1 hy2 rfl (by decide) _ _ _ rfl hown (some ⟨w6.heap.size, 0, none⟩) 1 1 [.int .i64 1, .bool false] rfl rfl (fun _ => ⟨_, rfl, World.news_of_block (cs := #[.int .i64 1, .bool false]) (t := 34) (fr := (0, 0)) (heap_alloc_new w6 _)⟩) (by simp [Value.oneCell']) (by unfold maxLen; omega) (by omega) (by simp; omega) ?_; intro v9 w9 hown' hgrow _; have S7 := Lib.hid ((S6.out.alloc (.cells #[.int .i64 1, .bool false] 34)).app hown' hgrow); clear hown hown' hgrow))
              have HG := Lib.hid (gros_snocQ l2 ⟨1, false⟩)
              have hlen : l2.length ≤ 12 := by omega
              obtain ⟨v7a, v7c, hv7⟩ := (Rs.of_own S7.out.own).shape
              subst hv7
              go_wp2
              go_roundw
              case rel => exact ⟨kk2 + 2, l2 ++ [⟨1, false⟩], by simp; omega, by simp; omega, Lib.hid (by rw [HG.out, List.length_append]; simpa [Nat.add_assoc] using S7.out)⟩
              case measure => simp [lenQ]; omega
            · have t3 : decide ((l2.length : Int) < 12 + (r6 : Int)) = false := by simpa using hcmp
              clear hown
              go_wp2
              go_ret
              exact ⟨_, l2, rfl, S6.out.more (k' := k + 200) (by omega), by omega⟩
        · have t1 : ((r : Int) == 1) = false := by rw [beq_eq_false_iff_ne]; omega
          clear e1
          go_wp2
          go_ret
          exact ⟨_, l, rfl, S9.out.more (by omega), by omega⟩
/-- What drawing seats leaves. -/
def SePost (B b k : Nat) (w : World) (e : Ending) (w' : World) : Prop := ∃ x : Int, (0 ≤ x ∧ x ≤ 11) ∧ e = .returned (.int .i64 x) ∧ Cur B b (k + 2) w' ∧ w.grownBy w' (some b)
set_option maxRecDepth 100000 in
set_option maxHeartbeats 2000000 in
theorem seats_any (B b k : Nat) (w : World) (h : Cur B b k w) (hk : k ≤ 800000000) :
    Calls Try.prog 63 #[.pointer (some ⟨b, 0, none⟩)] w (SePost B b k w) := by
  have HH := Lib.hid h
  have hb := h.2.1
  clear h
  go_enter Try.func63, Try.ntmps63
  go_wp2_with fail
  refine (among_any B b k w.heap.size 11 11 [4, 6, 8, 8, 8, 10, 10, 2, 1, 0, 11] _ (HH.out.alloc _) (by omega) rfl (by omega) (by omega) (by omega) (num_cells w 3 [4, 6, 8, 8, 8, 10, 10, 2, 1, 0, 11] _ rfl)).mono ?_
  rintro e w1 ⟨x, hx, rfl, hc, hg⟩
  have HC := Lib.hid hc
  have HG := Lib.hid (grown_trans (World.grownBy_alloc w (.cells #[.int .i64 4, .int .i64 6, .int .i64 8, .int .i64 8, .int .i64 8, .int .i64 10, .int .i64 10, .int .i64 2, .int .i64 1, .int .i64 0, .int .i64 11] 3) (some b)) hg)
  have HX : Hid (0 ≤ x ∧ x ≤ 11) := Lib.hid (by simp at hx; omega)
  clear hc hg hx
  go_wp2
  go_ret
  exact ⟨x, HX.out, rfl, HC.out, HG.out⟩
end Go.Proofs.Ytkjdkfoeolcnkaa

namespace Go.Proofs.Ytkjdkfoeolcnkaa
open Go.RowKit
set_option linter.unusedVariables false
def DqPost (w : World) (e : Ending) (w' : World) : Prop := ∃ (v : Value) (l : List Gro), e = .returned v ∧ Rs w' v l.length (gros l) ∧ l.length ≤ 14 ∧ Below w.heap.size w w'
set_option maxRecDepth 100000 in
set_option maxHeartbeats 4000000 in
theorem DrawIsQueue_any (a : Option Addr) (len cap : Nat) (w : World) (h : ByteRow w a len) :
    Calls Try.prog 74 #[.slice a len cap] w (DqPost w) := by
  have B1 := Below.refl w.heap.size w
  have C0 := Lib.hid (cur_at (cap := cap) (h.below B1) 69 (n := w.heap.size) (by first | rfl | simp))
  have T0 := Lib.hid (B1.alloc B1.size (.cells #[.slice a len cap, .int .i64 0, .int .u64 0] 69))
  have hs0 : (w.alloc (.cells #[.slice a len cap, .int .i64 0, .int .u64 0] 69)).heap.size = w.heap.size + 1 := by simp
  clear h B1
  go_enter Try.func74, Try.ntmps74
  go_upto_region 2 with fail
  generalize w.alloc (.cells #[.slice a len cap, .int .i64 0, .int .u64 0] 69) = w0 at *
  go_wp2_with fail
  refine (queue_any (w.heap.size) (w.heap.size) (0) w0 C0.out (by omega)).mono ?_
  rintro e w1 ⟨v, l, rfl, S9, hl9⟩
  have hc := S9.cur
  have hg := S9.gr
  have T1 := Lib.hid (T0.out.trans (grown_below hg (by have := T0.out.size; omega) (fun j hj => by cases hj; omega)))
  have C1 := Lib.hid hc
  have z0 := T0.out.size
  have z1 := hg.size
  have HO := Lib.hid S9.own
  clear hc hg S9
  obtain ⟨av, cv, hv⟩ := (Rs.of_own HO.out).shape
  subst hv
  go_wp2_with fail
  go_ret
  exact ⟨_, l, rfl, Rs.of_own HO.out, hl9, T1.out⟩
def DsPost (w : World) (e : Ending) (w' : World) : Prop := ∃ (v : Value) (l : List Gro) (s : Int), e = .returned (.tuple #[v, .int .i64 s]) ∧ Rs w' v l.length (gros l) ∧ l.length ≤ 14 ∧ (0 ≤ s ∧ s ≤ 11) ∧ Below w.heap.size w w'
set_option maxRecDepth 100000 in
set_option maxHeartbeats 4000000 in
theorem DrawSplitGroups_any (a : Option Addr) (len cap : Nat) (w : World) (h : ByteRow w a len) :
    Calls Try.prog 31 #[.slice a len cap] w (DsPost w) := by
  have B1 := Below.refl w.heap.size w
  have C0 := Lib.hid (cur_at (cap := cap) (h.below B1) 69 (n := w.heap.size) (by first | rfl | simp))
  have T0 := Lib.hid (B1.alloc B1.size (.cells #[.slice a len cap, .int .i64 0, .int .u64 0] 69))
  have hs0 : (w.alloc (.cells #[.slice a len cap, .int .i64 0, .int .u64 0] 69)).heap.size = w.heap.size + 1 := by simp
  clear h B1
  go_enter Try.func31, Try.ntmps31
  go_upto_region 2 with fail
  generalize w.alloc (.cells #[.slice a len cap, .int .i64 0, .int .u64 0] 69) = w0 at *
  go_wp2_with fail
  refine (queue_any (w.heap.size) (w.heap.size) (0) w0 C0.out (by omega)).mono ?_
  rintro e w1 ⟨v, l, rfl, S9, hl9⟩
  have hc := S9.cur
  have hg := S9.gr
  have T1 := Lib.hid (T0.out.trans (grown_below hg (by have := T0.out.size; omega) (fun j hj => by cases hj; omega)))
  have C1 := Lib.hid hc
  have z0 := T0.out.size
  have z1 := hg.size
  have HO := Lib.hid S9.own
  clear hc hg S9
  obtain ⟨av, cv, hv⟩ := (Rs.of_own HO.out).shape
  subst hv
  have hO0 := HO.out
  go_wp2_with fail
  refine (seats_any (w.heap.size) (w.heap.size) (0 + 200) w1 C1.out (by omega)).mono ?_
  rintro e w2 ⟨s, hs, rfl, hc, hg⟩
  have T2 := Lib.hid (T1.out.trans (grown_below hg (by have := T1.out.size; omega) (fun j hj => by cases hj; omega)))
  have O2 := Lib.hid (hO0.kept hg (by
    cases hx : (Value.slice av l.length cv).ownBlock with
    | none => exact .inl rfl
    | some j => exact .inr (fun e => by cases e; have := (hO0.lt _ hx).1; omega)))
  have C2 := Lib.hid hc
  have z2 := hg.size
  clear hc hg hO0
  go_wp2_with fail
  go_ret2
  exact ⟨_, l, s, rfl, Rs.of_own O2.out, hl9, hs, T2.out⟩
set_option maxRecDepth 100000 in
theorem DrawFillCabin_any (a : Option Addr) (len cap : Nat) (w : World) (h : ByteRow w a len) :
    Calls Try.prog 38 #[.slice a len cap] w (DsPost w) := by
  have E0 := Lib.hid (DrawSplitGroups_any a len cap w h)
  clear h
  go_enter Try.func38, Try.ntmps38
  go_wp2_with fail
  refine (E0.out).mono ?_
  rintro e w1 ⟨v, l, s, rfl, hr, hl, hs, hb⟩
  have HR := Lib.hid hr
  have HB := Lib.hid hb
  clear hr hb
  go_wp2
  go_ret2
  exact ⟨_, l, s, rfl, HR.out, hl, hs, HB.out⟩
set_option maxRecDepth 100000 in
theorem DrawAfterCabin_any (a : Option Addr) (len cap : Nat) (w : World) (h : ByteRow w a len) :
    Calls Try.prog 24 #[.slice a len cap] w (DsPost w) := by
  have E0 := Lib.hid (DrawSplitGroups_any a len cap w h)
  clear h
  go_enter Try.func24, Try.ntmps24
  go_wp2_with fail
  refine (E0.out).mono ?_
  rintro e w1 ⟨v, l, s, rfl, hr, hl, hs, hb⟩
  have HR := Lib.hid hr
  have HB := Lib.hid hb
  clear hr hb
  go_wp2
  go_ret2
  exact ⟨_, l, s, rfl, HR.out, hl, hs, HB.out⟩
set_option maxRecDepth 100000 in
theorem DrawCabinsNeeded_any (a : Option Addr) (len cap : Nat) (w : World) (h : ByteRow w a len) :
    Calls Try.prog 15 #[.slice a len cap] w (DsPost w) := by
  have E0 := Lib.hid (DrawSplitGroups_any a len cap w h)
  clear h
  go_enter Try.func15, Try.ntmps15
  go_wp2_with fail
  refine (E0.out).mono ?_
  rintro e w1 ⟨v, l, s, rfl, hr, hl, hs, hb⟩
  have HR := Lib.hid hr
  have HB := Lib.hid hb
  clear hr hb
  go_wp2
  go_ret2
  exact ⟨_, l, s, rfl, HR.out, hl, hs, HB.out⟩
set_option maxRecDepth 100000 in
theorem DrawLeastCabins_any (a : Option Addr) (len cap : Nat) (w : World) (h : ByteRow w a len) :
    Calls Try.prog 36 #[.slice a len cap] w (DsPost w) := by
  have E0 := Lib.hid (DrawSplitGroups_any a len cap w h)
  clear h
  go_enter Try.func36, Try.ntmps36
  go_wp2_with fail
  refine (E0.out).mono ?_
  rintro e w1 ⟨v, l, s, rfl, hr, hl, hs, hb⟩
  have HR := Lib.hid hr
  have HB := Lib.hid hb
  clear hr hb
  go_wp2
  go_ret2
  exact ⟨_, l, s, rfl, HR.out, hl, hs, HB.out⟩
set_option maxRecDepth 100000 in
theorem DrawPeopleIn_any (a : Option Addr) (len cap : Nat) (w : World) (h : ByteRow w a len) :
    Calls Try.prog 41 #[.slice a len cap] w (DqPost w) := by
  have E0 := Lib.hid (DrawIsQueue_any a len cap w h)
  clear h
  go_enter Try.func41, Try.ntmps41
  go_wp2_with fail
  refine (E0.out).mono ?_
  rintro e w1 ⟨v, l, rfl, hr, hl, hb⟩
  have HR := Lib.hid hr
  have HB := Lib.hid hb
  clear hr hb
  go_wp2
  go_ret
  exact ⟨_, l, rfl, HR.out, hl, HB.out⟩
def DcPost (w : World) (e : Ending) (w' : World) : Prop := ∃ (v : Value) (l : List Gro) (s x : Int), e = .returned (.tuple #[v, .int .i64 s, .int .i64 x]) ∧ Rs w' v l.length (gros l) ∧ l.length ≤ 14 ∧ (0 ≤ s ∧ s ≤ 11) ∧ Below w.heap.size w w'
theorem div8Q (r : Nat) (hr : (r : Int) < 9) : ∃ c : Nat, c ≤ 1 ∧ Int.tdiv (r : Int) 8 = (c : Int) ∧ IntKind.i64.wrap (c : Int) = (c : Int) := by
  have h1 : Int.tdiv (r : Int) 8 = ((r / 8 : Nat) : Int) := by rw [Int.tdiv_eq_ediv_of_nonneg (by omega)]; omega
  exact ⟨r / 8, by omega, h1, IntWalk.i64_in _ (by omega)⟩
set_option maxRecDepth 100000 in
set_option maxHeartbeats 4000000 in
theorem DrawCabinOf_any (a : Option Addr) (len cap : Nat) (w : World) (h : ByteRow w a len) :
    Calls Try.prog 29 #[.slice a len cap] w (DcPost w) := by
  have B1 := Below.refl w.heap.size w
  have C0 := Lib.hid (cur_at (cap := cap) (h.below B1) 69 (n := w.heap.size) (by first | rfl | simp))
  have T0 := Lib.hid (B1.alloc B1.size (.cells #[.slice a len cap, .int .i64 0, .int .u64 0] 69))
  have hs0 : (w.alloc (.cells #[.slice a len cap, .int .i64 0, .int .u64 0] 69)).heap.size = w.heap.size + 1 := by simp
  clear h B1
  go_enter Try.func29, Try.ntmps29
  go_upto_region 2 with fail
  generalize w.alloc (.cells #[.slice a len cap, .int .i64 0, .int .u64 0] 69) = w0 at *
  go_wp2_with fail
  refine (queue_any (w.heap.size) (w.heap.size) (0) w0 C0.out (by omega)).mono ?_
  rintro e w1 ⟨v, l, rfl, S9, hl9⟩
  have hc := S9.cur
  have hg := S9.gr
  have T1 := Lib.hid (T0.out.trans (grown_below hg (by have := T0.out.size; omega) (fun j hj => by cases hj; omega)))
  have C1 := Lib.hid hc
  have z0 := T0.out.size
  have z1 := hg.size
  have HO := Lib.hid S9.own
  clear hc hg S9
  obtain ⟨av, cv, hv⟩ := (Rs.of_own HO.out).shape
  subst hv
  have hO0 := HO.out
  go_wp2_with fail
  refine (seats_any (w.heap.size) (w.heap.size) (0 + 200) w1 C1.out (by omega)).mono ?_
  rintro e w2 ⟨s, hs, rfl, hc, hg⟩
  have T2 := Lib.hid (T1.out.trans (grown_below hg (by have := T1.out.size; omega) (fun j hj => by cases hj; omega)))
  have O2 := Lib.hid (hO0.kept hg (by
    cases hx : (Value.slice av l.length cv).ownBlock with
    | none => exact .inl rfl
    | some j => exact .inr (fun e => by cases e; have := (hO0.lt _ hx).1; omega)))
  have C2 := Lib.hid hc
  have z2 := hg.size
  clear hc hg hO0
  have hO0 := O2.out
  go_wp2_with fail
  refine (pick_any (w.heap.size) (w.heap.size) (0 + 202 + 0) ((l.length : Int) + 1) w2 C2.out (by omega) (by omega) (by omega)).mono ?_
  rintro e w3 ⟨r, rfl, hr, hc, hg⟩
  have T3 := Lib.hid (T2.out.trans (grown_below hg (by have := T2.out.size; omega) (fun j hj => by cases hj; omega)))
  have O3 := Lib.hid (hO0.kept hg (by
    cases hx : (Value.slice av l.length cv).ownBlock with
    | none => exact .inl rfl
    | some j => exact .inr (fun e => by cases e; have := (hO0.lt _ hx).1; omega)))
  have C3 := Lib.hid hc
  have z3 := hg.size
  clear hc hg hO0
  have hO0 := O3.out
  go_wp2_with fail
  refine (pick_any (w.heap.size) (w.heap.size) (0 + 202 + 2) 9 w3 C3.out (by omega) (by omega) (by omega)).mono ?_
  rintro e w4 ⟨t, rfl, ht, hc, hg⟩
  have T4 := Lib.hid (T3.out.trans (grown_below hg (by have := T3.out.size; omega) (fun j hj => by cases hj; omega)))
  have O4 := Lib.hid (hO0.kept hg (by
    cases hx : (Value.slice av l.length cv).ownBlock with
    | none => exact .inl rfl
    | some j => exact .inr (fun e => by cases e; have := (hO0.lt _ hx).1; omega)))
  have C4 := Lib.hid hc
  have z4 := hg.size
  clear hc hg hO0
  obtain ⟨c, hc1, hc2, hc3⟩ := div8Q t ht
  have q1 : IntKind.i64.wrap ((r : Int) - (c : Int)) = (r : Int) - (c : Int) := IntWalk.i64_in _ (by omega)
  go_wp2
  go_ret3
  exact ⟨_, l, s, _, rfl, Rs.of_own O4.out, hl9, hs, T4.out⟩
end Go.Proofs.Ytkjdkfoeolcnkaa

namespace Go.Proofs.Ytkjdkfoeolcnkaa
open Go.RowKit
set_option linter.unusedVariables false
theorem namedT {a w' : World} {B : Nat} (h : Hid (Below B a w')) : ∃ W : World, W = w' := ⟨_, rfl⟩
set_option maxRecDepth 100000 in
set_option maxHeartbeats 4000000 in
theorem FnGroups_walk (a : Option Addr) (len cap : Nat) (w : World) (h : ByteRow w a len) :
    Calls Try.prog 4 #[.slice a len cap] w fun e w' => e = .returned (.bool true) ∧ Below w.heap.size w w' := by
  have hm := h.1
  have HC := Lib.hid h
  clear h
  by_cases hbig : 65536 < len
  · go_enter Try.func4, Try.ntmps4
    go_wp2_with fail
    refine (vBig_yes a len cap _ hbig hm).mono ?_
    rintro e w' ⟨rfl, rfl⟩
    go_wp2_with fail
    go_ret
    exact ⟨rfl, Below.refl _ _⟩
  · go_enter Try.func4, Try.ntmps4
    go_wp2_with fail
    refine (vBig_no a len cap _ (by omega)).mono ?_
    rintro e w' ⟨rfl, rfl⟩
    have T0 := Lib.hid (Below.refl w.heap.size w)
    have HCode1 := Lib.hid (HC.out.below T0.out)
    go_wp2_with fail
    refine (DrawSplitGroups_any a len cap _ HCode1.out).mono ?_
    rintro e X1 ⟨v1, l1, s1, rfl, r1, hl1, hs1, b1⟩
    clear HCode1
    have T_2 := Lib.hid (T0.out.trans (b1.mono T0.out.size))
    clear b1 T0
    obtain ⟨a1, c1, rfl⟩ := r1.shape
    have R1_0 := Lib.hid r1
    clear r1
    go_wp2_with fail
    refine (implSplitGroups_c (.slice a1 l1.length c1) l1 s1 _ R1_0.out (by omega)).mono ?_
    rintro e Y3 ⟨vg, rfl, og, b3⟩
    have R1_4 := Lib.hid (R1_0.out.below b3 rfl)
    have T_4 := Lib.hid (T_2.out.trans (b3.mono T_2.out.size))
    clear b3 R1_0 T_2
    obtain ⟨ag, cg, rfl⟩ := (Rs.of_own og).shape
    have Rg_0 := Lib.hid (Rs.of_own og)
    clear og
    go_wp2_with fail
    refine (specSplitGroups_c (.slice a1 l1.length c1) l1 s1 _ R1_4.out (by omega)).mono ?_
    rintro e Y5 ⟨vh, rfl, oh, b5⟩
    have R1_6 := Lib.hid (R1_4.out.below b5 rfl)
    have Rg_6 := Lib.hid (Rg_0.out.below b5 rfl)
    have T_6 := Lib.hid (T_4.out.trans (b5.mono T_4.out.size))
    clear b5 R1_4 Rg_0 T_4
    obtain ⟨ah, ch, rfl⟩ := (Rs.of_own oh).shape
    have Rh_0 := Lib.hid (Rs.of_own oh)
    clear oh
    have HSP := Lib.hid (fun h => sp_law (l := l1) (s := s1) h)
    have hlg := spV_len l1 s1
    generalize spV l1 s1 = lg at *
    generalize spOk l1 s1 = ok at *
    have t0 : (ok != ok) = false := by simp
    go_wp2_with fail
    refine (vGroups_c (.slice ag lg.length cg) (.slice ah lg.length ch) lg _ Rg_6.out Rh_0.out (by omega)).mono ?_
    rintro e Y7 ⟨rfl, b7⟩
    have R1_8 := Lib.hid (R1_6.out.below b7 rfl)
    have Rg_8 := Lib.hid (Rg_6.out.below b7 rfl)
    have Rh_8 := Lib.hid (Rh_0.out.below b7 rfl)
    have T_8 := Lib.hid (T_6.out.trans (b7.mono T_6.out.size))
    clear b7 R1_6 Rg_6 Rh_0 T_6
    have EI := Lib.hid (fun W h => implIsQueue_c (.slice a1 l1.length c1) l1 W h (by omega))
    have ES := Lib.hid (fun W h => specIsQueue_b (.slice a1 l1.length c1) l1 W h (by omega))
    have EP := Lib.hid (fun W h => implPeopleIn_c (.slice a1 l1.length c1) l1 W h (by omega))
    generalize isQ l1 = qv at *
    have t00 : (qv != qv) = false := by simp
    go_wp2_with fail
    refine (EI.out _ R1_8.out).mono ?_
    rintro e Y9 ⟨rfl, b9⟩
    have R1_10 := Lib.hid (R1_8.out.below b9 rfl)
    have Rg_10 := Lib.hid (Rg_8.out.below b9 rfl)
    have Rh_10 := Lib.hid (Rh_8.out.below b9 rfl)
    have T_10 := Lib.hid (T_8.out.trans (b9.mono T_8.out.size))
    clear b9 R1_8 Rg_8 Rh_8 T_8
    go_wp2_with fail
    refine (ES.out _ R1_10.out).mono ?_
    rintro e Y11 ⟨rfl, b11⟩
    have R1_12 := Lib.hid (R1_10.out.below b11 rfl)
    have Rg_12 := Lib.hid (Rg_10.out.below b11 rfl)
    have Rh_12 := Lib.hid (Rh_10.out.below b11 rfl)
    have T_12 := Lib.hid (T_10.out.trans (b11.mono T_10.out.size))
    clear b11 R1_10 Rg_10 Rh_10 T_10
    clear Rh_12
    clear EI ES
    go_upto_if 76 with fail
    go_cut [] from 3 (fun wx => Hid (Below Y11.heap.size Y11 wx))
    case first =>
      as_aux_lemma =>
      cases ok with
      | false =>
        go_wp2
        go_meet
        case rel => exact Lib.hid (Below.refl _ _)
      | true =>
        have hY0 := Lib.hid (Below.refl Y11.heap.size Y11)
        obtain ⟨a1, a2, a3, a4, a5, a6, a7⟩ := HSP.out rfl
        have E1 := Lib.hid (fun W h => implPeopleIn_c (.slice ag lg.length cg) lg W h (by omega))
        have E2 := Lib.hid (fun W h => implSplitGroups_c (.slice ag lg.length cg) lg s1 W h (by omega))
        have E3 := Lib.hid (fun W h => implCabinsNeeded_c (.slice ag lg.length cg) lg s1 W h (by omega))
        rw [a2, a3, a4] at E1
        rw [a5, a6] at E2
        rw [a7] at E3
        rw [a1] at EP
        generalize ppV l1 = P at *
        generalize qqV l1 = Q at *
        generalize ndV lg s1 = N at *
        clear a1 a2 a3 a4 a5 a6 a7 HSP t0 t00
        go_wp2_with fail
        refine (EP.out _ R1_12.out).mono ?_
        rintro e Y13 ⟨rfl, b13⟩
        have hY14 := Lib.hid (hY0.out.trans (b13.mono hY0.out.size))
        clear hY0
        have R1_15 := Lib.hid (R1_12.out.below b13 rfl)
        have Rg_15 := Lib.hid (Rg_12.out.below b13 rfl)
        have T_15 := Lib.hid (T_12.out.trans (b13.mono T_12.out.size))
        clear b13 R1_12 Rg_12 T_12
        go_wp2_with fail
        refine (E1.out _ Rg_15.out).mono ?_
        rintro e Y16 ⟨rfl, b16⟩
        have hY17 := Lib.hid (hY14.out.trans (b16.mono hY14.out.size))
        clear hY14
        have R1_18 := Lib.hid (R1_15.out.below b16 rfl)
        have Rg_18 := Lib.hid (Rg_15.out.below b16 rfl)
        have T_18 := Lib.hid (T_15.out.trans (b16.mono T_15.out.size))
        clear b16 R1_15 Rg_15 T_15
        go_wp2_with fail
        refine (E2.out _ Rg_18.out).mono ?_
        rintro e Y19 ⟨vj, rfl, oj, b19⟩
        have hY20 := Lib.hid (hY17.out.trans (b19.mono hY17.out.size))
        clear hY17
        have R1_21 := Lib.hid (R1_18.out.below b19 rfl)
        have Rg_21 := Lib.hid (Rg_18.out.below b19 rfl)
        have T_21 := Lib.hid (T_18.out.trans (b19.mono T_18.out.size))
        clear b19 R1_18 Rg_18 T_18
        obtain ⟨aj, cj, rfl⟩ := (Rs.of_own oj).shape
        have Rj_0 := Lib.hid (Rs.of_own oj)
        clear oj
        go_wp2_with fail
        refine (E3.out _ Rg_21.out).mono ?_
        rintro e Y22 ⟨rfl, b22⟩
        have hY23 := Lib.hid (hY20.out.trans (b22.mono hY20.out.size))
        clear hY20
        have R1_24 := Lib.hid (R1_21.out.below b22 rfl)
        have Rg_24 := Lib.hid (Rg_21.out.below b22 rfl)
        have Rj_24 := Lib.hid (Rj_0.out.below b22 rfl)
        have T_24 := Lib.hid (T_21.out.trans (b22.mono T_21.out.size))
        clear b22 R1_21 Rg_21 Rj_0 T_21
        have u0 : (P != P) = false := by simp
        have u1 : (Q != Q) = false := by simp
        go_wp2_with fail
        refine (vGroups_c (.slice aj lg.length cj) (.slice ag lg.length cg) lg _ Rj_24.out Rg_24.out (by omega)).mono ?_
        rintro e Y25 ⟨rfl, b25⟩
        have hY26 := Lib.hid (hY23.out.trans (b25.mono hY23.out.size))
        clear hY23
        have R1_27 := Lib.hid (R1_24.out.below b25 rfl)
        have Rg_27 := Lib.hid (Rg_24.out.below b25 rfl)
        have Rj_27 := Lib.hid (Rj_24.out.below b25 rfl)
        have T_27 := Lib.hid (T_24.out.trans (b25.mono T_24.out.size))
        clear b25 R1_24 Rg_24 Rj_24 T_24
        clear E1 E2 E3 EP
        go_wp2
        go_meet
        case rel => exact hY26
    case rest =>
      clear R1_12 Rg_12
      obtain ⟨wx, hwx⟩ := namedT hcut
      subst hwx
      have bcwx := hcut.out
      clear hcut HSP EP t0 t00
      have T_28 := Lib.hid (T_12.out.trans (bcwx.mono T_12.out.size))
      clear bcwx T_12
      have HCode29 := Lib.hid (HC.out.below T_28.out)
      go_wp2_with fail
      refine (DrawLeastCabins_any a len cap _ HCode29.out).mono ?_
      rintro e X29 ⟨v2, l2, s2, rfl, r2, hl2, hs2, b29⟩
      clear HCode29
      have T_30 := Lib.hid (T_28.out.trans (b29.mono T_28.out.size))
      clear b29 T_28
      obtain ⟨a2, c2, rfl⟩ := r2.shape
      have R2_0 := Lib.hid r2
      clear r2
      go_wp2_with fail
      refine (implLeastCabins_c (.slice a2 l2.length c2) l2 s2 _ R2_0.out (by omega)).mono ?_
      rintro e Y31 ⟨rfl, b31⟩
      have R2_32 := Lib.hid (R2_0.out.below b31 rfl)
      have T_32 := Lib.hid (T_30.out.trans (b31.mono T_30.out.size))
      clear b31 R2_0 T_30
      go_wp2_with fail
      refine (specLeastCabins_c (.slice a2 l2.length c2) l2 s2 _ R2_32.out (by omega)).mono ?_
      rintro e Y33 ⟨rfl, b33⟩
      have R2_34 := Lib.hid (R2_32.out.below b33 rfl)
      have T_34 := Lib.hid (T_32.out.trans (b33.mono T_32.out.size))
      clear b33 R2_32 T_32
      have HLC := Lib.hid (fun h => lc_law (l := l2) (s := s2) h)
      have EP := Lib.hid (fun W h => implPeopleIn_c (.slice a2 l2.length c2) l2 W h (by omega))
      generalize lcV l2 s2 = lv at *
      generalize lcOk l2 s2 = lo at *
      have t0 : (lo != lo) = false := by simp
      have t00 : (lv != lv) = false := by simp
      go_upto_if 156 with fail
      go_cut [] from 3 (fun wy => Hid (Below Y33.heap.size Y33 wy))
      case first =>
        as_aux_lemma =>
        cases lo with
        | false =>
          go_wp2
          go_meet
          case rel => exact Lib.hid (Below.refl _ _)
        | true =>
          have hY0 := Lib.hid (Below.refl Y33.heap.size Y33)
          obtain ⟨b1, b2, b3, b4, b5, b6⟩ := HLC.out rfl
          rw [b1] at EP
          generalize ppV l2 = P at *
          generalize qqV l2 = Q at *
          have tw : IntKind.i64.wrap (lv * s2) = lv * s2 := IntWalk.i64_in _ (by omega)
          have tl : decide (lv * s2 < P) = false := by simp; omega
          clear b1 HLC t0 t00
          go_wp2_with fail
          refine (EP.out _ R2_34.out).mono ?_
          rintro e Y35 ⟨rfl, b35⟩
          have hY36 := Lib.hid (hY0.out.trans (b35.mono hY0.out.size))
          clear hY0
          have R2_37 := Lib.hid (R2_34.out.below b35 rfl)
          have T_37 := Lib.hid (T_34.out.trans (b35.mono T_34.out.size))
          clear b35 R2_34 T_34
          clear EP
          go_wp2
          go_meet
          case rel => exact hY36
      case rest =>
        clear R2_34
        obtain ⟨wy, hwy⟩ := namedT hcut
        subst hwy
        have bcwy := hcut.out
        clear hcut HLC EP t0 t00
        have T_38 := Lib.hid (T_34.out.trans (bcwy.mono T_34.out.size))
        clear bcwy T_34
        have HCode39 := Lib.hid (HC.out.below T_38.out)
        go_wp2_with fail
        refine (DrawFillCabin_any a len cap _ HCode39.out).mono ?_
        rintro e X39 ⟨v3, l3, s3, rfl, r3, hl3, hs3, b39⟩
        clear HCode39
        have T_40 := Lib.hid (T_38.out.trans (b39.mono T_38.out.size))
        clear b39 T_38
        obtain ⟨a3, c3, rfl⟩ := r3.shape
        have R3_0 := Lib.hid r3
        clear r3
        go_wp2_with fail
        refine (implFillCabin_c (.slice a3 l3.length c3) l3 s3 _ R3_0.out (by omega)).mono ?_
        rintro e Y41 ⟨vk, rfl, ok3, b41⟩
        have R3_42 := Lib.hid (R3_0.out.below b41 rfl)
        have T_42 := Lib.hid (T_40.out.trans (b41.mono T_40.out.size))
        clear b41 R3_0 T_40
        obtain ⟨ak, ck, rfl⟩ := (Rs.of_own ok3).shape
        have Rk_0 := Lib.hid (Rd.of_own ok3)
        clear ok3
        go_wp2_with fail
        refine (specFillCabin_c (.slice a3 l3.length c3) l3 s3 _ R3_42.out (by omega)).mono ?_
        rintro e Y43 ⟨vm, rfl, om3, b43⟩
        have R3_44 := Lib.hid (R3_42.out.below b43 rfl)
        have Rk_44 := Lib.hid (Rk_0.out.below b43 rfl)
        have T_44 := Lib.hid (T_42.out.trans (b43.mono T_42.out.size))
        clear b43 R3_42 Rk_0 T_42
        obtain ⟨am, cm, rfl⟩ := (Rs.of_own om3).shape
        have Rm_0 := Lib.hid (Rd.of_own om3)
        clear om3
        generalize flV l3 s3 = lf at *
        generalize asQ l3 s3 = fo at *
        have t0 : (fo != fo) = false := by simp
        go_wp2_with fail
        refine (vInts_c (.slice ak lf.length ck) (.slice am lf.length cm) lf _ Rk_44.out Rm_0.out).mono ?_
        rintro e Y45 ⟨rfl, b45⟩
        have R3_46 := Lib.hid (R3_44.out.below b45 rfl)
        have Rk_46 := Lib.hid (Rk_44.out.below b45 rfl)
        have Rm_46 := Lib.hid (Rm_0.out.below b45 rfl)
        have T_46 := Lib.hid (T_44.out.trans (b45.mono T_44.out.size))
        clear b45 R3_44 Rk_44 Rm_0 T_44
        clear Rk_46 Rm_46 R3_46
        have HCode47 := Lib.hid (HC.out.below T_46.out)
        go_wp2_with fail
        refine (DrawPeopleIn_any a len cap _ HCode47.out).mono ?_
        rintro e X47 ⟨v4, l4, rfl, r4, hl4, b47⟩
        clear HCode47
        have T_48 := Lib.hid (T_46.out.trans (b47.mono T_46.out.size))
        clear b47 T_46
        obtain ⟨a4, c4, rfl⟩ := r4.shape
        have R4_0 := Lib.hid r4
        clear r4
        clear t0
        go_wp2_with fail
        refine (implPeopleIn_c (.slice a4 l4.length c4) l4 _ R4_0.out (by omega)).mono ?_
        rintro e Y49 ⟨rfl, b49⟩
        have R4_50 := Lib.hid (R4_0.out.below b49 rfl)
        have T_50 := Lib.hid (T_48.out.trans (b49.mono T_48.out.size))
        clear b49 R4_0 T_48
        go_wp2_with fail
        refine (specPeopleIn_b (.slice a4 l4.length c4) l4 _ R4_50.out (by omega)).mono ?_
        rintro e Y51 ⟨rfl, b51⟩
        have R4_52 := Lib.hid (R4_50.out.below b51 rfl)
        have T_52 := Lib.hid (T_50.out.trans (b51.mono T_50.out.size))
        clear b51 R4_50 T_50
        generalize ppV l4 = p4 at *
        generalize qqV l4 = q4 at *
        generalize isQ l4 = i4 at *
        have t0 : (p4 == p4) = true := by simp
        have t1 : (q4 == q4) = true := by simp
        have t2 : (i4 == i4) = true := by simp
        go_wp2
        go_ret
        exact ⟨by simp, T_52.out⟩
end Go.Proofs.Ytkjdkfoeolcnkaa
