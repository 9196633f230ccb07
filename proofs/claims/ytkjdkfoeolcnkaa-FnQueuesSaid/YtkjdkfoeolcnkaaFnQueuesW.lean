/- The law FnQueues's walk, with its draws and helpers. Condition: sizes. -/
import Derived.Test.YtkjdkfoeolcnkaaQuO
import Derived.Test.YtkjdkfoeolcnkaaQuJ
import Derived.Test.YtkjdkfoeolcnkaaQuM
import Derived.Test.YtkjdkfoeolcnkaaQuS
import Derived.Test.YtkjdkfoeolcnkaaIntS
import Derived.Test.YtkjdkfoeolcnkaaQuR
import Derived.Test.YtkjdkfoeolcnkaaProfK
import Derived.Test.YtkjdkfoeolcnkaaQuC
import Derived.Test.YtkjdkfoeolcnkaaDrawKit
import Derived.Test.YtkjdkfoeolcnkaaGroS
import Derived.Test.YtkjdkfoeolcnkaaBlk2
import Derived.Deep.DeepCutAuto
import Derived.Test.YtkjdkfoeolcnkaaBig
import Derived.WalkArith
import Derived.Deep.CutRange
import Derived.Deep.CutBlock
namespace Go.Proofs.Ytkjdkfoeolcnkaa
open Go.RowKit
set_option linter.unusedVariables false
set_option maxRecDepth 100000 in
set_option maxHeartbeats 4000000 in
theorem specLeastCabins_c (v : Value) (l : List Gro) (s : Int) (w : World) (hr : Rs w v l.length (gros l)) (hn : l.length ≤ 1048576) :
    Calls Try.prog 37 #[v, .int .i64 s] w fun e w' => e = .returned (.tuple #[.int .i64 (lcV l s), .bool (lcOk l s)]) ∧ Below w.heap.size w w' := by
  obtain ⟨i0, hi, hz0, hz1, hz2⟩ := info_parts Try.infoIntR
  have E0 := Lib.hid (l13Asked_c v l s w hr hn)
  have HNO := Lib.hid (lc_no (l := l) (s := s))
  have HOK : Hid (lcOk l s = (asQ l s && decide (l.length ≤ 8))) := Lib.hid rfl
  have HYES := Lib.hid (lc_yes (l := l) (s := s))
  have HLV : Hid (lcOk l s = true → lcV l s = (lcK s (zsQ l) : Int)) := Lib.hid (fun h => by unfold lcV; rw [h]; rfl)
  have HR := Lib.hid (fun W (h : Below w.heap.size w W) => hr.below h rfl)
  obtain ⟨va, vc, hva⟩ := hr.shape
  clear hr
  subst hva
  generalize asQ l s = b at *
  generalize lcOk l s = ok at *
  cases b with
  | false =>
    have hok : ok = false := HOK.out
    subst hok
    have HV := Lib.hid (HNO.out rfl).symm
    go_enter Try.func37, Try.ntmps37
    go_wp2_with fail
    refine (E0.out).mono ?_
    rintro e w1 ⟨rfl, rfl⟩
    go_wp2
    go_ret2
    exact ⟨ret_ib9 HV.out rfl, Below.refl _ _⟩
  | true =>
    by_cases h8 : l.length ≤ 8
    · have hok : ok = true := by rw [HOK.out]; simp [h8]
      subst hok
      obtain ⟨_, y2, y3, y4⟩ := HYES.out rfl
      have hfit : ∀ g, g ∈ zsQ l → g ≤ s := fun g hg => by
        unfold zsQ at hg
        obtain ⟨x, hx, rfl⟩ := List.mem_map.1 hg
        exact (y4 x hx).2
      obtain ⟨hlc, hlcl⟩ := lcK_is hfit
      have hN8 : lcK s (zsQ l) ≤ 8 := by
        have : (zsQ l).length = l.length := by simp [zsQ]
        omega
      have HONE : Hid (∀ k, (∀ j, j < k → pkS (List.replicate j s) (zsQ l) = false) → pkS (List.replicate k s) (zsQ l) = true → k = lcK s (zsQ l)) := Lib.hid (fun k h1 h2 => lc_one ⟨(pk_iff _ _).1 h2, fun j hj hf => by
        have h := (pk_iff _ _).2 hf
        rw [h1 j hj] at h
        cases h⟩ hlc)
      have HLT : Hid (∀ k, k ≤ lcK s (zsQ l) → pkS (List.replicate k s) (zsQ l) = false → k < lcK s (zsQ l)) := Lib.hid (fun k h1 h2 => by
        by_cases e : k = lcK s (zsQ l)
        · rw [e, (pk_iff _ _).2 hlc.1] at h2; cases h2
        · omega)
      have HPK : Hid (∀ k W u, k ≤ 8 → Below w.heap.size w W → Rd W u (intVs (List.replicate k s)) → Calls Try.prog 73 #[.slice va l.length vc, .int .i64 0, u] W fun e w' => e = .returned (.bool (pkS (List.replicate k s) (zsQ l))) ∧ Below W.heap.size W w') := Lib.hid (fun k W u hk hW hu => l13Pack_c l (fun x hx => by have := y4 x hx; omega) y3 l.length 0 _ u (List.replicate k s) W (by omega) (HR.out W hW) hu (fun y hy => by rw [(List.mem_replicate.1 hy).2]; omega) (by rw [List.length_replicate]; exact hk))
      have HV := Lib.hid (HLV.out rfl).symm
      clear y4 hfit hlc hlcl HYES HLV
      generalize lcV l s = RV at *
      generalize lcK s (zsQ l) = N at *
      go_enter Try.func37, Try.ntmps37
      go_wp2_with fail
      refine (E0.out).mono ?_
      rintro e w1 ⟨rfl, rfl⟩
      go_wp2
      go_loopw [6] (fun o wr => ∃ k : Nat, k ≤ N ∧ Hid (wr.ownsRow w1.heap.size 3 1 o k (intVs (List.replicate k s))) ∧ Hid (∀ j, j < k → pkS (List.replicate j s) (zsQ l) = false) ∧ Hid (Below w1.heap.size w1 wr)) (fun o _ => N - sl13 o)
      case atStart => exact ⟨0, by omega, Lib.hid (World.ownsRow_made w1 #[] 0 (Nat.le_refl _) (by decide) rfl), Lib.hid (fun j h => by omega), Lib.hid ((Below.refl _ _).alloc (Nat.le_refl _) _)⟩
      case round =>
        obtain ⟨k, hk, hown, hno, hbel⟩ := hrel
        have hbs := hbel.out.size
        have HC := Lib.hid (HPK.out k wr _ (by omega) hbel.out (Rd.of_own hown.out))
        have H1 := Lib.hid (HONE.out k hno.out)
        have H2 := Lib.hid (HLT.out k hk)
        have HNX : Hid (pkS (List.replicate k s) (zsQ l) = false → ∀ j, j < k + 1 → pkS (List.replicate j s) (zsQ l) = false) := Lib.hid (fun h j hj => by
          by_cases e : j = k
          · subst e; exact h
          · exact hno.out j (by omega))
        have HREP : Hid (intVs (List.replicate (k + 1) s) = intVs (List.replicate k s) ++ [.int .i64 s]) := Lib.hid (by rw [List.replicate_succ', iv_one])
        generalize pkS (List.replicate k s) (zsQ l) = pb at *
        obtain ⟨xa, xc, hx⟩ := (Rs.of_own hown.out).shape
        subst hx
        go_wp2_with fail
        refine (HC.out).mono ?_
        rintro e w2 ⟨rfl, b2⟩
        have HB2 := Lib.hid (hbel.out.trans (b2.mono hbs))
        have HO2 := Lib.hid (own_below hown.out b2)
        have hs2 := HB2.out.size
        clear b2
        cases pb with
        | true =>
          have hkN := H1.out rfl
          subst hkN
          go_wp2
          go_ret2
          exact ⟨ret_ib9 HV.out rfl, HB2.out⟩
        | false =>
          have hkN := H2.out rfl
          have HN2 := Lib.hid (HNX.out rfl)
          go_wp2_with (at_builtin; go_loud (refine wpList_append_any _ rfl _ _ 31 rfl w1.heap.size 3 i0 (.int .i64 0) 1 8 Try.underlying31 hi hz0 hz1 hz2 rfl (by decide) _ _ _ rfl (HO2.out.alloc _) (some ⟨w2.heap.size, 0, none⟩) 1 1 [.int .i64 s] rfl rfl (fun _ => ⟨_, rfl, cell_one_new _ _ _⟩) (by simp [Value.oneCell']) (by unfold maxLen; omega) (by omega) (by simp; omega) ?_; intro v3 w3 hown3 hgrow3 _; obtain ⟨va3, vc3, hv3⟩ := (Rs.of_own hown3).shape; subst hv3; have HO3 := Lib.hid hown3; have HB3 := Lib.hid ((HB2.out.alloc hs2 _).grown hgrow3 (by simp; omega) (fun y hy => (HO2.out.lt y hy).1)); clear hown3 hgrow3))
          go_roundw
          case rel => exact ⟨k + 1, by omega, Lib.hid (by rw [HREP.out]; exact HO3.out), HN2, HB3⟩
          case measure => simp [sl13]; omega
    · have hok : ok = false := by rw [HOK.out]; simp [h8]
      subst hok
      have HV := Lib.hid (HNO.out rfl).symm
      go_enter Try.func37, Try.ntmps37
      go_wp2_with fail
      refine (E0.out).mono ?_
      rintro e w1 ⟨rfl, rfl⟩
      go_wp2
      go_ret2
      exact ⟨ret_ib9 HV.out rfl, Below.refl _ _⟩
end Go.Proofs.Ytkjdkfoeolcnkaa

namespace Go.Proofs.Ytkjdkfoeolcnkaa
open Go.RowKit
set_option linter.unusedVariables false
set_option maxRecDepth 100000 in
set_option maxHeartbeats 2000000 in
theorem l13Needed_c (v : Value) (l : List Gro) (s : Int) (w : World) (hr : Rs w v l.length (gros l)) (ha : asQ l s = true) :
    Calls Try.prog 53 #[v, .int .i64 s] w fun e w' => e = .returned (.int .i64 (ndV l s)) ∧ Below w.heap.size w w' := by
  have E0 := Lib.hid (l13Cabins_c v l s w hr ha)
  have HMX := Lib.hid (mx13_nd ha)
  have hl12 := is_len (as_is ha)
  have HCB : Hid (∀ i, i < l.length → 0 ≤ (cb13 (szQ l) (qkQ l) l.length s i : Int) ∧ (cb13 (szQ l) (qkQ l) l.length s i : Int) ≤ 12) := Lib.hid (fun i hi => by
    have h1 := (cb13_is (qk := qkQ l) (as_fit ha) hi).2
    have h2 := (nd13_is (qk := qkQ l) (as_fit ha)).2
    omega)
  have HAT := Lib.hid (fun i (hi : i < l.length) => cbL_at (s := s) hi)
  have HLN := Lib.hid (cbL_len l s)
  obtain ⟨f, hf⟩ : ∃ f : Nat → Int, f = fun i => (cb13 (szQ l) (qkQ l) l.length s i : Int) := ⟨_, rfl⟩
  have hfi : ∀ i, (cb13 (szQ l) (qkQ l) l.length s i : Int) = f i := fun i => by rw [hf]
  simp only [hfi] at HCB HAT HMX
  rw [show (fun i => f i) = f from rfl] at HMX
  have HBD : Hid (∀ k, k ≤ l.length → 0 ≤ mx13 f k ∧ mx13 f k ≤ 13) := Lib.hid (fun k hk => by
    induction k with
    | zero => simp [mx13]
    | succ k ih =>
      have h1 := ih (by omega)
      have h2 := HCB.out k (by omega)
      rw [mx13]
      split <;> omega)
  have HSU : Hid (∀ k, mx13 f (k + 1) = if f k + 1 < mx13 f k then mx13 f k else f k + 1) := Lib.hid (fun k => rfl)
  clear hf hfi ha
  obtain ⟨va, vc, hva⟩ := hr.shape
  clear hr
  subst hva
  generalize ndV l s = N at *
  generalize cbL l s = CL at *
  go_enter Try.func53, Try.ntmps53
  go_wp2_with fail
  refine (E0.out).mono ?_
  rintro e w1 ⟨g, rfl, o1, b1⟩
  have HB1 := Lib.hid b1
  rw [← HLN.out] at o1 HBD HMX HCB HAT hl12
  obtain ⟨ga, gb, gc, gd, hg, hga, hgt⟩ := (Rd.of_own o1).formR
  have HGA := Lib.hid hga
  have HGT := Lib.hid hgt
  subst hg
  clear o1 b1 hga hgt HLN
  go_wp2
  go_loopw [6, 7] (fun mm i wr => ∃ k : Nat, k ≤ CL.length ∧ i = .int .i64 k ∧ mm = .int .i64 (mx13 f k) ∧ wr = w1) (fun _ i _ => CL.length - (intOf i).toNat)
  case atStart => exact ⟨0, by omega, rfl, by first | rfl | trivial, by first | rfl | trivial⟩
  case round =>
    obtain ⟨k, hk, rfl, rfl, rfl⟩ := hrel
    by_cases hlt : k < CL.length
    · obtain ⟨rfl, hla, hlm⟩ := HGA.out (by omega)
      have c0 := HGT.out k hlt
      rw [HAT.out k hlt] at c0
      obtain ⟨f1, f2⟩ := HCB.out k hlt
      obtain ⟨m1, m2⟩ := HBD.out k hk
      have HS := Lib.hid (HSU.out k)
      have HM := Lib.hid (fun W => most9_c (mx13 f k) (f k + 1) W)
      generalize f k = F at *
      generalize mx13 f k = M at *
      go_wp2_with fail
      refine (HM.out _).mono ?_
      rintro e w2 ⟨rfl, rfl⟩
      go_wp2
      go_roundw
      case rel => exact ⟨k + 1, by omega, by go_num, by rw [HS.out], by first | rfl | trivial⟩
      case measure => simp [intOf]; omega
    · obtain rfl : k = CL.length := by omega
      go_wp2
      go_ret
      exact ⟨ret_i13 HMX.out, HB1.out⟩
set_option maxRecDepth 100000 in
set_option maxHeartbeats 2000000 in
theorem specCabinsNeeded_c (v : Value) (l : List Gro) (s : Int) (w : World) (hr : Rs w v l.length (gros l)) (hn : l.length ≤ 1048576) :
    Calls Try.prog 17 #[v, .int .i64 s] w fun e w' => e = .returned (.tuple #[.int .i64 (ndV l s), .bool (asQ l s)]) ∧ Below w.heap.size w w' := by
  have E0 := Lib.hid (l13Asked_c v l s w hr hn)
  have E1 := Lib.hid (fun h => l13Needed_c v l s w hr h)
  have HNO : Hid (asQ l s = false → ndV l s = 0) := Lib.hid (fun h => by unfold ndV; rw [h]; rfl)
  obtain ⟨va, vc, hva⟩ := hr.shape
  clear hr
  generalize ndV l s = R at *
  generalize asQ l s = b at *
  subst hva
  go_enter Try.func17, Try.ntmps17
  go_wp2_with fail
  refine (E0.out).mono ?_
  rintro e w1 ⟨rfl, rfl⟩
  cases b with
  | false =>
    have HR := Lib.hid (HNO.out rfl).symm
    go_wp2
    go_ret2
    exact ⟨ret_ib9 HR.out rfl, Below.refl _ _⟩
  | true =>
    go_wp2_with fail
    refine (E1.out (by trivial)).mono ?_
    rintro e w2 ⟨rfl, b2⟩
    go_wp2
    go_ret2
    exact ⟨rfl, b2⟩
set_option maxRecDepth 100000 in
set_option maxHeartbeats 2000000 in
theorem specEmptySeats_c (v : Value) (l : List Gro) (s : Int) (w : World) (hr : Rs w v l.length (gros l)) (hn : l.length ≤ 1048576) :
    Calls Try.prog 19 #[v, .int .i64 s] w fun e w' => e = .returned (.tuple #[.int .i64 (emV l s), .bool (asQ l s)]) ∧ Below w.heap.size w w' := by
  have E0 := Lib.hid (l13Asked_c v l s w hr hn)
  have E1 := Lib.hid (fun h => l13Needed_c v l s w hr h)
  have E2 : Hid (asQ l s = true → ∀ W, Below w.heap.size w W → _) := Lib.hid (fun h W (hb : Below w.heap.size w W) => l13People_c v l W (hr.below hb rfl) (as_is h))
  have HPP : Hid (asQ l s = true → ppV l = peK l l.length) := Lib.hid (fun h => by unfold ppV; rw [as_is h]; rfl)
  have HEM := Lib.hid (em_val (l := l) (s := s))
  have HEN := Lib.hid (em_no (l := l) (s := s))
  have HSS := Lib.hid (as_s (l := l) (s := s))
  have HND := Lib.hid (ndV_bd l s)
  obtain ⟨va, vc, hva⟩ := hr.shape
  clear hr
  generalize emV l s = R at *
  generalize ndV l s = N at *
  generalize asQ l s = b at *
  generalize ppV l = PP at *
  generalize peK l l.length = PK at *
  subst hva
  go_enter Try.func19, Try.ntmps19
  go_wp2_with fail
  refine (E0.out).mono ?_
  rintro e w1 ⟨rfl, rfl⟩
  cases b with
  | false =>
    have HR := Lib.hid (HEN.out rfl).symm
    go_wp2
    go_ret2
    exact ⟨ret_ib9 HR.out rfl, Below.refl _ _⟩
  | true =>
    obtain ⟨m1, m2, m3, m4, m5⟩ := HEM.out (by trivial)
    obtain ⟨n1, n2⟩ := HSS.out (by trivial)
    obtain ⟨n3, n4⟩ := HND.out
    have hp := HPP.out (by trivial)
    subst hp
    have HM1 := Lib.hid m1
    clear m1
    have tw : IntKind.i64.wrap (N * s) = N * s := IntWalk.i64_in _ (by omega)
    go_wp2_with fail
    refine (E1.out (by trivial)).mono ?_
    rintro e w2 ⟨rfl, b2⟩
    have HB2 := Lib.hid b2
    clear b2
    go_wp2_with fail
    refine (E2.out (by trivial) _ HB2.out).mono ?_
    rintro e w3 ⟨rfl, rfl⟩
    go_wp2
    go_ret2
    exact ⟨ret_ib9 (by rw [← HM1.out]) rfl, HB2.out⟩
set_option maxRecDepth 100000 in
set_option maxHeartbeats 2000000 in
theorem specCabinOf_c (v : Value) (l : List Gro) (s x : Int) (w : World) (hr : Rs w v l.length (gros l)) (hn : l.length ≤ 1048576) :
    Calls Try.prog 30 #[v, .int .i64 s, .int .i64 x] w fun e w' => e = .returned (.tuple #[.int .i64 (cbV l s x), .bool (cbOk l s x)]) ∧ Below w.heap.size w w' := by
  have E0 := Lib.hid (l13Asked_c v l s w hr hn)
  have E1 := Lib.hid (fun h => l13Cabins_c v l s w hr h)
  have E2 := Lib.hid (fun W => l1In_c x 0 ((l.length : Int) - 1) W)
  have HOK : Hid (cbOk l s x = (asQ l s && inR x 0 ((l.length : Int) - 1))) := Lib.hid rfl
  have HNO : Hid (cbOk l s x = false → cbV l s x = 0) := Lib.hid (fun h => by unfold cbV; rw [h]; rfl)
  have HYES : Hid (cbOk l s x = true → ∃ i : Nat, x = (i : Int) ∧ i < l.length ∧ cbV l s x = (cbL l s).getD i 0) := Lib.hid (fun h => by
    have h' := h
    unfold cbOk at h'
    rw [Bool.and_eq_true, inR_iff] at h'
    obtain ⟨_, h1, h2⟩ := h'
    refine ⟨x.toNat, by omega, by omega, ?_⟩
    rw [cbL_at (by omega)]
    unfold cbV
    rw [h, if_pos rfl])
  have HLN := Lib.hid (cbL_len l s)
  obtain ⟨va, vc, hva⟩ := hr.shape
  clear hr
  generalize cbV l s x = R at *
  generalize cbOk l s x = ok at *
  generalize asQ l s = b at *
  generalize inR x 0 ((l.length : Int) - 1) = bi at *
  generalize cbL l s = CL at *
  subst hva
  go_enter Try.func30, Try.ntmps30
  go_wp2_with fail
  refine (E0.out).mono ?_
  rintro e w1 ⟨rfl, rfl⟩
  cases b with
  | false =>
    have hok : ok = false := HOK.out
    subst hok
    have HR := Lib.hid (HNO.out rfl).symm
    go_wp2
    go_ret2
    exact ⟨ret_ib9 HR.out rfl, Below.refl _ _⟩
  | true =>
    go_wp2_with fail
    refine (E2.out _).mono ?_
    rintro e w2 ⟨rfl, rfl⟩
    cases bi with
    | false =>
      have hok : ok = false := HOK.out
      subst hok
      have HR := Lib.hid (HNO.out rfl).symm
      go_wp2
      go_ret2
      exact ⟨ret_ib9 HR.out rfl, Below.refl _ _⟩
    | true =>
      have hok : ok = true := HOK.out
      subst hok
      obtain ⟨i, rfl, hi, hR'⟩ := HYES.out rfl
      have hR := Lib.hid hR'
      clear hR'
      go_wp2_with fail
      refine (E1.out (by trivial)).mono ?_
      rintro e w3 ⟨g, rfl, o3, b3⟩
      have HB3 := Lib.hid b3
      clear b3
      rcases own_form o3 with ⟨h0, _⟩ | ⟨gg, cg, rfl, _, _, _, _⟩
      · omega
      · have c3 := (o3.cellAt i (by omega)).trans (int_at (by rw [HLN.out]; exact hi))
        rw [← hR.out] at c3
        clear o3
        go_wp2
        go_ret2
        exact ⟨rfl, HB3.out⟩
end Go.Proofs.Ytkjdkfoeolcnkaa

namespace Go.Proofs.Ytkjdkfoeolcnkaa
open Go.RowKit
set_option linter.unusedVariables false
theorem filt_gth (l : List Gro) (f : Gro → Bool) : l.filter f = ((List.range l.length).filter fun i => f (gth l i)).map (gth l) := by
  have e := map_gth_range l
  calc l.filter f = ((List.range l.length).map (gth l)).filter f := by rw [e]
    _ = _ := by rw [List.filter_map]; rfl
theorem pe_list (l : List Gro) (p : Bool → Bool) : su13 (fun i => p (gth l i).q) (szQ l) l.length = sum13 ((l.filter fun x => p x.q).map fun x => x.z) := by
  rw [su13_list, filt_gth, List.map_map]
  rfl
theorem pe_all (l : List Gro) : peK l l.length = sum13 (zsQ l) := by
  have h := pe_list l fun _ => true
  rw [List.filter_eq_self.2 fun _ _ => rfl] at h
  exact h
theorem pe_sum (l : List Gro) : peK l l.length = sum13 ((l.filter fun x => (fun _ : Bool => true) x.q).map fun x => x.z) := pe_list l fun _ => true
theorem qu_sum (l : List Gro) : quK l l.length = sum13 ((l.filter fun x => (fun b : Bool => b) x.q).map fun x => x.z) := pe_list l fun b => b
theorem zsQ_range (l : List Gro) : zsQ l = (List.range l.length).map (szQ l) := by
  have e := map_gth_range l
  calc zsQ l = ((List.range l.length).map (gth l)).map (fun x => x.z) := by rw [e]; rfl
    _ = _ := by rw [List.map_map]; rfl
theorem sp_law {l : List Gro} {s : Int} (h : spOk l s = true) : isQ l = true ∧ isQ (spV l s) = true ∧ ppV (spV l s) = ppV l ∧ qqV (spV l s) = qqV l ∧ spOk (spV l s) s = true ∧ spV (spV l s) s = spV l s ∧ asQ (spV l s) s = true := by
  have hv := spV_yes h
  have h' := h
  unfold spOk at h'
  rw [Bool.and_eq_true, Bool.and_eq_true, inR_iff, decide_eq_true_eq] at h'
  obtain ⟨⟨hq, hs⟩, hl⟩ := h'
  have hm := isQ_mem hq
  have hq2 : isQ (sp13 s l) = true := by rw [sp13_isQ hs.1 hq, decide_eq_true hl]
  have hmem := fun y hy => sp13_mem (s := s) (l := l) hs.1 hm (y := y) hy
  have hag : sp13 s (sp13 s l) = sp13 s l := sp13_again hs.1 fun x hx => ⟨(hmem x hx).1, (hmem x hx).2.2⟩
  have hok2 : spOk (sp13 s l) s = true := by
    unfold spOk
    rw [hq2, (inR_iff _ _ _).2 hs, hag, decide_eq_true hl]; rfl
  rw [hv]
  refine ⟨hq, hq2, ?_, ?_, hok2, by rw [spV_yes hok2, hag], ?_⟩
  · unfold ppV
    rw [hq, hq2, if_pos rfl, if_pos rfl, pe_sum, pe_sum]
    exact sp13_sum fun _ => true
  · unfold qqV
    rw [hq, hq2, if_pos rfl, if_pos rfl, qu_sum, qu_sum]
    exact sp13_sum fun b => b
  · rw [asQ_iff]
    exact ⟨hq2, hs, fun i hi => (hmem _ (gth_mem hi)).2.2⟩
theorem lc_law {l : List Gro} {s : Int} (h : lcOk l s = true) : isQ l = true ∧ ppV l ≤ lcV l s * s ∧ 0 ≤ lcV l s * s ∧ lcV l s * s ≤ 80 ∧ 0 ≤ ppV l ∧ ppV l ≤ 96 := by
  have h' := h
  unfold lcOk at h'
  rw [Bool.and_eq_true, decide_eq_true_eq] at h'
  obtain ⟨ha, h8⟩ := h'
  have hq := as_is ha
  have hs := as_s ha
  have hp : ppV l = sum13 (zsQ l) := by unfold ppV; rw [hq, if_pos rfl, pe_all]
  have hb := peK_bd hq (Nat.le_refl _)
  rw [pe_all, ← hp] at hb
  have hV : lcV l s = (lcK s (zsQ l) : Int) := by unfold lcV; rw [h]; rfl
  have hfit : ∀ g, g ∈ zsQ l → g ≤ s := fun g hg => by
    rw [zsQ_range] at hg
    obtain ⟨i, hi, rfl⟩ := List.mem_map.1 hg
    exact as_fit ha i (List.mem_range.1 hi)
  have h1 := lcK_sum (by omega) hfit
  have h2 := (lcK_is hfit).2
  have h3 : (zsQ l).length = l.length := by simp [zsQ]
  have h4 : (0 : Int) ≤ (lcK s (zsQ l) : Int) * s := Int.mul_nonneg (by omega) (by omega)
  have h5 : (lcK s (zsQ l) : Int) * s ≤ 8 * 10 := Int.mul_le_mul (by omega) hs.2 (by omega) (by omega)
  rw [hV, hp]
  rw [hp] at hb
  exact ⟨hq, h1, h4, by omega, hb.1, hb.2⟩
theorem nd13_ext {sz sz' : Nat → Int} {qk qk' : Nat → Bool} {n : Nat} {s : Int} (h : ∀ j, j < n → sz j = sz' j ∧ qk j = qk' j) (hz : ∀ i, i < n → sz' i ≤ s) : nd13 sz qk n s = nd13 sz' qk' n s := by
  have h1 := (nd13_is (qk := qk') hz).1
  refine nd13_eq ⟨?_, fun j hj => ?_⟩
  · rw [lf13_ext h]; exact h1.1
  · rw [lf13_ext h]; exact h1.2 j hj
theorem af_law {l : List Gro} {s : Int} (h : asQ l s = true) (h0 : 0 < l.length) : asQ (afV l s) s = true ∧ ndV l s = ndV (afV l s) s + 1 ∧ (flV l s).length + (afV l s).length = l.length ∧ apV l s ≤ s := by
  have hs := as_s h
  have hq := as_is h
  have hfit := as_fit h
  have hl12 := is_len hq
  obtain ⟨L, hL⟩ : ∃ L, lf13 (szQ l) (qkQ l) l.length s 1 = L := ⟨_, rfl⟩
  have hr : afV l s = L.map (gth l) := by
    unfold afV
    rw [h, if_pos rfl, gs13_out, hL]
  have hsub : ∀ j, j < L.length → gth L j < l.length := fun j hj => lf13_sub (sz := szQ l) (qk := qkQ l) (s := s) 1 (by rw [hL]; exact gth_mem hj)
  have hlen : (afV l s).length = L.length := by rw [hr, List.length_map]
  have hat : ∀ j, j < L.length → gth (afV l s) j = gth l (gth L j) := fun j hj => by rw [hr, gth_map hj]
  have haf : asQ (afV l s) s = true := by
    rw [asQ_iff, isQ_iff]
    refine ⟨⟨by have := afV_len l s; omega, fun i hi => ?_⟩, hs, fun i hi => ?_⟩
    · rw [hlen] at hi
      rw [hat i hi]
      exact is_bd hq _ (hsub i hi)
    · rw [hlen] at hi
      rw [hat i hi]
      exact hfit _ (hsub i hi)
  refine ⟨haf, ?_, ?_, ?_⟩
  · have h1 : ndV l s = (nd13 (szQ l) (qkQ l) l.length s : Int) := by unfold ndV; rw [h]; rfl
    have h2 : ndV (afV l s) s = (nd13 (szQ (afV l s)) (qkQ (afV l s)) (afV l s).length s : Int) := by unfold ndV; rw [haf]; rfl
    have h3 := nd13_behind hL hfit h0
    have h4 : nd13 (szQ (afV l s)) (qkQ (afV l s)) (afV l s).length s = nd13 (fun j => szQ l (gth L j)) (fun j => qkQ l (gth L j)) L.length s := by
      rw [hlen]
      exact nd13_ext (fun j hj => by unfold szQ qkQ; rw [hat j hj]; exact ⟨rfl, rfl⟩) fun i hi => hfit _ (hsub i hi)
    rw [h1, h2, h3, h4]
    omega
  · have h1 := gs13_len l (fun k => !in13 (szQ l) (qkQ l) l.length s k) l.length
    have h2 : afV l s = gs13 l (fun k => !in13 (szQ l) (qkQ l) l.length s k) l.length := by unfold afV; rw [h]; rfl
    have h3 : flV l s = ix13 (in13 (szQ l) (qkQ l) l.length s) l.length := by unfold flV; rw [h]; rfl
    have h4 : ix13 (fun k => !(fun k => !in13 (szQ l) (qkQ l) l.length s k) k) l.length = ix13 (in13 (szQ l) (qkQ l) l.length s) l.length := ix13_ext _ fun k _ => by simp
    rw [h4, ← h2, ← h3] at h1
    omega
  · have h2 : apV l s = su13 (in13 (szQ l) (qkQ l) l.length s) (szQ l) l.length := by unfold apV; rw [h]; rfl
    rw [h2]
    exact in13_le (by omega)
/-- What is asked of a queue that can be filled into cabins. -/
structure QLaw (l : List Gro) (s : Int) (N : Nat) (cb : Nat → Nat) (F : Nat → List Int) : Prop where
  nd : ndV l s = (N : Int)
  le : N ≤ 12
  len : l.length ≤ 12
  is : isQ l = true
  cab : ∀ i : Nat, i < l.length → cbOk l s (i : Int) = true ∧ cbV l s (i : Int) = (cb i : Int) ∧ cb i < N
  flen : ∀ i, (F i).length = N
  zero : F 0 = List.replicate N 0
  succ : ∀ i, i < l.length → F (i + 1) = (F i).set (cb i) ((F i).getD (cb i) 0 + (gth l i).z)
  bd : ∀ i, i ≤ l.length → ∀ k, k < N → 0 ≤ (F i).getD k 0 ∧ (F i).getD k 0 ≤ 96
  gro : ∀ i, i < l.length → 1 ≤ (gth l i).z ∧ (gth l i).z ≤ 8
  full : ∀ k, k < N → 1 ≤ (F l.length).getD k 0 ∧ (F l.length).getD k 0 ≤ s
  sum : sum13 (F l.length) = ppV l
  em : (N : Int) * s - ppV l = emV l s
  mul : 0 ≤ (N : Int) * s ∧ (N : Int) * s ≤ 120
  pp : 0 ≤ ppV l ∧ ppV l ≤ 96
  lc : lcOk l s = true → lcV l s ≤ (N : Int)
  sb : 1 ≤ s ∧ s ≤ 10
theorem q_law {l : List Gro} {s : Int} (h : asQ l s = true) : ∃ N cb F, QLaw l s N cb F := by
  have hs := as_s h
  have hq := as_is h
  have hfit := as_fit h
  have hl12 := is_len hq
  have hnn := szQ_nonneg hq
  have hgro := is_bd hq
  have hnd : ndV l s = (nd13 (szQ l) (qkQ l) l.length s : Int) := by unfold ndV; rw [h]; rfl
  have hem := em_val h
  rw [hnd] at hem
  have hcb := fun i (hi : i < l.length) => (cb13_is (qk := qkQ l) hfit hi).2
  have hN12 := (nd13_is (qk := qkQ l) hfit).2
  have hfull := fun k (hk : k < nd13 (szQ l) (qkQ l) l.length s) => full13 (qk := qkQ l) (by omega) hfit hnn (fun i hi => (hgro i hi).1) hk
  have hlc : lcOk l s = true → lcV l s ≤ (nd13 (szQ l) (qkQ l) l.length s : Int) := fun hl => by
    have hV : lcV l s = (lcK s (zsQ l) : Int) := by unfold lcV; rw [hl]; rfl
    have := lc13_nd (qk := qkQ l) (zsQ_range l) (by omega) hfit hnn (fun i hi => (hgro i hi).1)
    omega
  refine ⟨nd13 (szQ l) (qkQ l) l.length s, cb13 (szQ l) (qkQ l) l.length s, fl13 (cb13 (szQ l) (qkQ l) l.length s) (szQ l) (nd13 (szQ l) (qkQ l) l.length s), ⟨hnd, by omega, hl12, hq, fun i hi => ?_, fun i => fl13_len _ _ _ _, fl13_zero _ _ _, fun i hi => ?_, fun i hi k hk => ?_, hgro, fun k hk => ?_, ?_, hem.1, ⟨hem.2.1, hem.2.2.1⟩, hem.2.2.2, hlc, hs⟩⟩
  · have hok : cbOk l s (i : Int) = true := by
      unfold cbOk
      rw [h, (inR_iff _ _ _).2 ⟨by omega, by omega⟩]; rfl
    refine ⟨hok, ?_, hcb i hi⟩
    unfold cbV
    rw [hok, if_pos rfl]; simp
  · exact fl13_succ (hcb i hi)
  · rw [fl13_at hk]
    have := su13_bd (p := fun j => cb13 (szQ l) (qkQ l) l.length s j == k) (sz := szQ l) i fun j hj => by have := hgro j (by omega); omega
    omega
  · rw [fl13_at hk]
    exact hfull k hk
  · rw [fl13_sum l.length hcb]
    unfold ppV
    rw [hq, if_pos rfl, pe_all, zsQ_range]
end Go.Proofs.Ytkjdkfoeolcnkaa

namespace Go.Proofs.Ytkjdkfoeolcnkaa
open Go.RowKit
set_option linter.unusedVariables false
theorem eqIntS_c (va vb : Value) (l : List Int) (w : World) (ha : Rd w va (intVs l)) (hb : Rd w vb (intVs l)) :
    Calls Try.prog 48 #[va, vb] w fun e w' => e = .returned (.bool true) ∧ Below w.heap.size w w' := (eqIntS_same va vb l w ha hb).mono fun _ _ h => ⟨h.1, h.2.below _⟩
theorem heldIntS_c (k n : Nat) (v : Value) (w : World) (hk : k ≤ 8388608) (hn : n ≤ 8388608) (hr : Rd w v (intVs (imarks k n))) :
    Calls Try.prog 50 #[v, .int .i64 (k : Int)] w fun e w' => e = .returned (.int .i64 ((k + n : Nat) : Int)) ∧ Below w.heap.size w w' := (heldIntS_any k n v w hk hn hr).mono fun _ _ h => ⟨h.1, h.2.below _⟩
end Go.Proofs.Ytkjdkfoeolcnkaa

namespace Go.Proofs.Ytkjdkfoeolcnkaa
open Go.RowKit
set_option linter.unusedVariables false
set_option maxHeartbeats 400000 in
theorem vInts_same (va vb : Value) (l : List Int) (w : World) (ha : Rd w va (intVs l)) (hb : Rd w vb (intVs l)) :
    Calls Try.prog 40 #[va, vb] w fun e w' => e = .returned (.bool true) ∧ Drew w w' := by
  by_cases h0 : l = []
  · subst h0
    obtain ⟨a, ca, rfl⟩ := ha.iv0
    obtain ⟨b, cb, rfl⟩ := hb.iv0
    clear ha hb
    go_enter Try.func40, Try.ntmps40
    go_wp2
    refine wp_loop_rounds 1 ?_
    rw [rounds_succ]
    go_wp2
    go_ret
    exact ⟨rfl, Drew.refl _⟩
  · obtain ⟨a, oa, ca, rfl, hla, hm, hca⟩ := ha.iv h0
    obtain ⟨b, ob, cb, rfl, hlb, _, hcb⟩ := hb.iv h0
    unfold maxLen at hm
    have HA := Lib.hid hca
    have HB := Lib.hid hcb
    clear hca hcb ha hb
    go_enter Try.func40, Try.ntmps40
    go_wp2
    go_loopw [5] (fun i wr => ∃ k m : Nat, k ≤ l.length ∧ i = .int .i64 k ∧ wr = w.drewN m) (fun i _ => l.length - (intOf i).toNat)
    case atStart => exact ⟨0, 0, Nat.zero_le _, rfl, rfl⟩
    case round =>
      obtain ⟨k, m, hk, rfl, rfl⟩ := hrel
      by_cases hlt : k < l.length
      · have c1 : w.cell? ⟨a, oa + k, none⟩ = some (.int .i64 (l.getD k 0)) := HA.out k hlt
        have c2 : w.cell? ⟨b, ob + k, none⟩ = some (.int .i64 (l.getD k 0)) := HB.out k hlt
        generalize l.getD k 0 = x at c1 c2
        go_wp2
        go_quiet (fail)
        go_wp2
        go_roundw
        case rel => exact ⟨k + 1, m + nq, by omega, by go_num, rfl⟩
        case measure => simp [intOf]; omega
      · go_wp2
        go_ret
        exact ⟨rfl, m, rfl⟩
theorem vInts_c (va vb : Value) (l : List Int) (w : World) (ha : Rd w va (intVs l)) (hb : Rd w vb (intVs l)) :
    Calls Try.prog 40 #[va, vb] w fun e w' => e = .returned (.bool true) ∧ Below w.heap.size w w' := (vInts_same va vb l w ha hb).mono fun _ _ h => ⟨h.1, h.2.below _⟩
set_option maxRecDepth 100000 in
set_option maxHeartbeats 2000000 in
theorem vGroups_c (va vb : Value) (l : List Gro) (w : World) (ha : Rs w va l.length (gros l)) (hb : Rs w vb l.length (gros l)) (hn : l.length ≤ 1048576) :
    Calls Try.prog 27 #[va, vb] w fun e w' => e = .returned (.bool true) ∧ Below w.heap.size w w' := by
  obtain ⟨ao, a, oa, ca, rfl, hao, hat⟩ := ha.form_Gro
  obtain ⟨bo, b, ob, cb, rfl, hbo, hbt⟩ := hb.form_Gro
  have HA := Lib.hid hao
  have HL := Lib.hid hat
  have HB := Lib.hid hbo
  have HM := Lib.hid hbt
  clear ha hb hao hat hbo hbt
  go_enter Try.func27, Try.ntmps27
  go_wp2
  go_loopw [5] (fun i wr => ∃ k m : Nat, k ≤ l.length ∧ i = .int .i64 k ∧ wr = w.drewN m) (fun i _ => l.length - (intOf i).toNat)
  case atStart => exact ⟨0, 0, Nat.zero_le _, rfl, rfl⟩
  case round =>
    obtain ⟨k, m, hk, rfl, rfl⟩ := hrel
    by_cases hlt : k < l.length
    · obtain ⟨rfl, hla, hlm⟩ := HA.out (by omega)
      obtain ⟨rfl, hlb, hlm2⟩ := HB.out (by omega)
      obtain ⟨c0, c1⟩ := HL.out k hlt
      obtain ⟨d0, d1⟩ := HM.out k hlt
      generalize gth l k = D at *
      go_wp2
      go_quiet (fail)
      go_wp2
      go_roundw
      case rel => exact ⟨k + 1, m + nq, by omega, by go_num, rfl⟩
      case measure => simp [intOf]; omega
    · obtain rfl : k = l.length := by omega
      go_wp2
      go_ret
      exact ⟨rfl, below_drewN (Below.refl _ _) m⟩
theorem sum13_takeQ {l : List Int} {k : Nat} (h : k < l.length) : sum13 (l.take (k + 1)) = sum13 (l.take k) + l.getD k 0 := by
  rw [List.take_add_one, show l[k]? = some (l.getD k 0) by simp [List.getD, h], sum13_app]
  simp [sum13]
theorem sum13_bdQ {l : List Int} (h : ∀ x, x ∈ l → 0 ≤ x ∧ x ≤ 100) : ∀ k, k ≤ l.length → 0 ≤ sum13 (l.take k) ∧ sum13 (l.take k) ≤ k * 100
  | 0, _ => by simp [sum13]
  | k + 1, hk => by
    have ih := sum13_bdQ h k (by omega)
    have := h _ (getD_mem13 (free := l) (i := k) (by omega))
    rw [sum13_takeQ (by omega)]
    omega
set_option maxRecDepth 100000 in
set_option maxHeartbeats 2000000 in
theorem vSum_c (v : Value) (l : List Int) (w : World) (hr : Rd w v (intVs l)) (hn : l.length ≤ 1000) (hx : ∀ x, x ∈ l → 0 ≤ x ∧ x ≤ 100) :
    Calls Try.prog 22 #[v] w fun e w' => e = .returned (.int .i64 (sum13 l)) ∧ Below w.heap.size w w' := by
  have HBD := Lib.hid (fun k hk => sum13_bdQ hx k hk)
  have HX := Lib.hid (fun k (hk : k < l.length) => hx _ (getD_mem13 (free := l) hk))
  have HS := Lib.hid (fun k (hk : k < l.length) => sum13_takeQ (l := l) hk)
  obtain ⟨ao, a, oa, ca, rfl, hao, hat⟩ := hr.formR
  have HA := Lib.hid hao
  have HL := Lib.hid hat
  clear hr hao hat hx
  go_enter Try.func22, Try.ntmps22
  go_wp2
  go_loopw [3, 4] (fun pp i wr => ∃ k : Nat, k ≤ l.length ∧ i = .int .i64 k ∧ pp = .int .i64 (sum13 (l.take k)) ∧ wr = w) (fun _ i _ => l.length - (intOf i).toNat)
  case atStart => exact ⟨0, by omega, rfl, by first | rfl | trivial, by first | rfl | trivial⟩
  case round =>
    obtain ⟨k, hk, rfl, rfl, rfl⟩ := hrel
    by_cases hlt : k < l.length
    · obtain ⟨rfl, hla, hlm⟩ := HA.out (by omega)
      have c0 := HL.out k hlt
      obtain ⟨x1, x2⟩ := HX.out k hlt
      obtain ⟨p1, p2⟩ := HBD.out k hk
      have HSU := Lib.hid (HS.out k hlt)
      generalize l.getD k 0 = D at *
      generalize sum13 (l.take k) = P0 at *
      go_wp2
      go_roundw
      case rel => exact ⟨k + 1, by omega, by go_num, by rw [HSU.out] <;> go_num, by first | rfl | trivial⟩
      case measure => simp [intOf]; omega
    · obtain rfl : k = l.length := by omega
      rw [List.take_length]
      go_wp2
      go_ret
      exact ⟨rfl, Below.refl _ _⟩
end Go.Proofs.Ytkjdkfoeolcnkaa

namespace Go.Proofs.Ytkjdkfoeolcnkaa
open Go.RowKit
set_option linter.unusedVariables false
theorem specIsQueue_b (v : Value) (l : List Gro) (w : World) (hr : Rs w v l.length (gros l)) (hn : l.length ≤ 1048576) :
    Calls Try.prog 35 #[v] w fun e w' => e = .returned (.bool (isQ l)) ∧ Below w.heap.size w w' :=
  (specIsQueue_c v l w hr hn).mono fun _ _ ⟨h, hw⟩ => ⟨h, hw ▸ Below.refl _ _⟩
theorem specPeopleIn_b (v : Value) (l : List Gro) (w : World) (hr : Rs w v l.length (gros l)) (hn : l.length ≤ 1048576) :
    Calls Try.prog 42 #[v] w fun e w' => e = .returned (.tuple #[.int .i64 (ppV l), .int .i64 (qqV l), .bool (isQ l)]) ∧ Below w.heap.size w w' :=
  (specPeopleIn_c v l w hr hn).mono fun _ _ ⟨h, hw⟩ => ⟨h, hw ▸ Below.refl _ _⟩
end Go.Proofs.Ytkjdkfoeolcnkaa

namespace Go.Proofs.Ytkjdkfoeolcnkaa
open Go.RowKit
set_option linter.unusedVariables false
def lenQ : Value → Nat
  | .slice _ n _ => n
  | _ => 0
/-- What drawing a queue leaves. -/
def QuPost (B b k : Nat) (w : World) (e : Ending) (w' : World) : Prop := ∃ (v : Value) (l : List Gro), e = .returned v ∧ St 34 2 B b (k + 200) w w' v l.length (gros l) ∧ l.length ≤ 14
theorem st_noneQ {B b k : Nat} {w : World} (h : Cur B b k w) : St 34 2 B b k w (w.alloc (.cells #[] 34)) (.slice (some ⟨w.heap.size, 0, none⟩) 0 0) ([] : List Gro).length (gros []) :=
  ⟨h.alloc _, World.ownsRow_made w #[] 0 (Nat.le_refl _) (by decide) rfl, World.grownBy_alloc w _ _, h.2.1⟩
theorem gros_snocQ (l : List Gro) (x : Gro) : gros (l ++ [x]) = gros l ++ [.int .i64 x.z, .bool x.q] := by rw [gros_append, gros_one]
set_option maxRecDepth 100000 in
set_option maxHeartbeats 4000000 in
theorem queue_any (B b k : Nat) (w : World) (h : Cur B b k w) (hk : k ≤ 700000000) :
    Calls Try.prog 62 #[.pointer (some ⟨b, 0, none⟩)] w (QuPost B b k w) := by
  obtain ⟨i0, hi, hy0, hy1, hy2⟩ := info_parts Try.infoGro
  have hb := h.2.1
  have S0 := Lib.hid (st_noneQ h)
  clear h
  go_enter Try.func62, Try.ntmps62
  go_wp2_with fail
  refine (pick_any B b k 9 _ S0.out.cur (by omega) (by omega) (by omega)).mono ?_
  rintro e w1 ⟨r0, rfl, hr0, hc, hg⟩
  have S1 := Lib.hid (S0.out.call hc hg)
  clear hc hg S0
  go_wp2
  go_loopw [3, 4] (fun v n wr => ∃ (m kk : Nat) (l : List Gro), n = .int .i64 (m : Int) ∧ l.length + m ≤ 8 ∧ kk + 4 * m ≤ 40 ∧ Hid (St 34 2 B b (k + kk) w wr v l.length (gros l))) (fun _ n _ => (intOf n).toNat)
  case atStart => exact ⟨r0, 2, [], rfl, by simp; omega, by omega, S1⟩
  case round =>
    obtain ⟨m, kk, l, rfl, hlm, hkk, S5⟩ := hrel
    obtain ⟨ao, ca, rfl⟩ := (Rs.of_own S5.out.own).shape
    have hsz := S5.out.size
    have hbw := S5.out.cur.2.1
    by_cases hm : 0 < m
    · have hmi : (0 : Int) < (m : Int) := by omega
      have p2 : IntKind.i64.wrap ((m : Int) - 1) = ((m - 1 : Nat) : Int) := by rw [show (m : Int) - 1 = ((m - 1 : Nat) : Int) by omega]; exact IntWalk.i64_in _ (by omega)
      go_wp2_with fail
      refine (among_any B b (k + kk) wr.heap.size 11 11 [1, 1, 2, 2, 2, 3, 4, 4, 5, 6, 8] _ (S5.out.cur.alloc _) (by omega) rfl (by omega) (by omega) (by omega) (num_cells wr 3 [1, 1, 2, 2, 2, 3, 4, 4, 5, 6, 8] _ rfl)).mono ?_
      rintro e w6a ⟨x, hx, rfl, hc, hg⟩
      have S6a := Lib.hid ((S5.out.alloc (.cells #[.int .i64 1, .int .i64 1, .int .i64 2, .int .i64 2, .int .i64 2, .int .i64 3, .int .i64 4, .int .i64 4, .int .i64 5, .int .i64 6, .int .i64 8] 3)).call hc hg)
      clear hc hg hx
      go_wp2_with fail
      refine (one_any B b (k + kk + 2) 4 _ S6a.out.cur (by omega) (by omega) (by omega)).mono ?_
      rintro e w6 ⟨bq, rfl, hc, hg⟩
      have S6 := Lib.hid (S6a.out.call hc hg)
      have hown := (S6.out.alloc (.cells #[.int .i64 x, .bool bq] 34)).own
      have hsz6 := S6.out.size
      clear hc hg S6a
      go_wp2_with (at_builtin; go_loud (refine wpList_append_any _ rfl _ _ 24 rfl w.heap.size 34 i0 (.agg #[.int .i64 0, .bool false]) 2 16 Try.underlying24 hi hy0 hy1 hy2 rfl (by decide) _ _ _ rfl hown (some ⟨w6.heap.size, 0, none⟩) 1 1 [.int .i64 x, .bool bq] rfl rfl (fun _ => ⟨_, rfl, World.news_of_block (cs := #[.int .i64 x, .bool bq]) (t := 34) (fr := (0, 0)) (heap_alloc_new w6 _)⟩) (by simp [Value.oneCell']) (by unfold maxLen; omega) (by omega) (by simp; omega) ?_; intro v9 w9 hown' hgrow _; have S7 := Lib.hid ((S6.out.alloc (.cells #[.int .i64 x, .bool bq] 34)).app hown' hgrow); clear hown hown' hgrow))
      have HG := Lib.hid (gros_snocQ l ⟨x, bq⟩)
      go_roundw
      case rel => exact ⟨m - 1, kk + 4, l ++ [⟨x, bq⟩], by go_num, by simp; omega, by omega, Lib.hid (by rw [HG.out, List.length_append]; simpa [Nat.add_assoc] using S7.out)⟩
      case measure => simp [intOf]; omega
    · have hmi : ¬ (0 : Int) < (m : Int) := by omega
      have S8 := Lib.hid (S5.out.more (k' := k + 40) (by omega))
      clear S5
      go_wp2_with fail
      refine (pick_any B b (k + 40) 32 _ S8.out.cur (by omega) (by omega) (by omega)).mono ?_
      rintro e w2 ⟨r, rfl, hr, hc, hg⟩
      have S9 := Lib.hid (S8.out.call hc hg)
      have hsz9 := S9.out.size
      have hbw9 := S9.out.cur.2.1
      clear hc hg S8
      by_cases e0 : r = 0
      · have t0 : ((r : Int) == 0) = true := by rw [beq_iff_eq]; omega
        clear e0
        go_wp2_with fail
        refine (among_any B b (k + 40 + 2) w2.heap.size 2 2 [0, 9] _ (S9.out.cur.alloc _) (by omega) rfl (by omega) (by omega) (by omega) (num_cells w2 3 [0, 9] _ rfl)).mono ?_
        rintro e w6 ⟨x, hx, rfl, hc, hg⟩
        have S6 := Lib.hid ((S9.out.alloc (.cells #[.int .i64 0, .int .i64 9] 3)).call hc hg)
        have hown := (S6.out.alloc (.cells #[.int .i64 x, .bool false] 34)).own
        have hsz6 := S6.out.size
        clear hc hg hx
        go_wp2_with (at_builtin; go_loud (refine wpList_append_any _ rfl _ _ 24 rfl w.heap.size 34 i0 (.agg #[.int .i64 0, .bool false]) 2 16 Try.underlying24 hi hy0 hy1 hy2 rfl (by decide) _ _ _ rfl hown (some ⟨w6.heap.size, 0, none⟩) 1 1 [.int .i64 x, .bool false] rfl rfl (fun _ => ⟨_, rfl, World.news_of_block (cs := #[.int .i64 x, .bool false]) (t := 34) (fr := (0, 0)) (heap_alloc_new w6 _)⟩) (by simp [Value.oneCell']) (by unfold maxLen; omega) (by omega) (by simp; omega) ?_; intro v9 w9 hown' hgrow _; have S7 := Lib.hid ((S6.out.alloc (.cells #[.int .i64 x, .bool false] 34)).app hown' hgrow); clear hown hown' hgrow))
        have HG := Lib.hid (gros_snocQ l ⟨x, false⟩)
        go_ret
        exact ⟨_, l ++ [⟨x, false⟩], rfl, by rw [HG.out, List.length_append]; exact S7.out.more (k' := k + 200) (by omega), by simp; omega⟩
      · have t0 : ((r : Int) == 0) = false := by rw [beq_eq_false_iff_ne]; omega
        by_cases e1 : r = 1
        · have t1 : ((r : Int) == 1) = true := by rw [beq_iff_eq]; omega
          clear e1
          go_wp2
          go_loopw [3] (fun v wr => ∃ (kk : Nat) (l : List Gro), l.length ≤ 13 ∧ kk ≤ 60 + 2 * l.length ∧ Hid (St 34 2 B b (k + kk) w wr v l.length (gros l))) (fun v _ => 14 - lenQ v)
          case atStart => exact ⟨42, l, by omega, by omega, S9⟩
          case round =>
            obtain ⟨kk2, l2, hl2, hkk2, S10⟩ := hrel
            obtain ⟨ao2, ca2, rfl⟩ := (Rs.of_own S10.out.own).shape
            go_wp2_with fail
            refine (pick_any B b (k + kk2) 2 _ S10.out.cur (by omega) (by omega) (by omega)).mono ?_
            rintro e w6 ⟨r6, rfl, hr6, hc, hg⟩
            have S6 := Lib.hid (S10.out.call hc hg)
            have hsz6 := S6.out.size
            have hown := (S6.out.alloc (.cells #[.int .i64 1, .bool false] 34)).own
            clear hc hg S10
            by_cases hcmp : (l2.length : Int) < 12 + (r6 : Int)
            · have t3 : decide ((l2.length : Int) < 12 + (r6 : Int)) = true := by simpa using hcmp
              go_wp2_with (at_builtin; go_loud (refine wpList_append_any _ rfl _ _ 24 rfl w.heap.size 34 i0 (.agg #[.int .i64 0, .bool false]) 2 16 Try.underlying24 hi hy0 hy1 hy2 rfl (by decide) _ _ _ rfl hown (some ⟨w6.heap.size, 0, none⟩) 1 1 [.int .i64 1, .bool false] rfl rfl (fun _ => ⟨_, rfl, World.news_of_block (cs := #[.int .i64 1, .bool false]) (t := 34) (fr := (0, 0)) (heap_alloc_new w6 _)⟩) (by simp [Value.oneCell']) (by unfold maxLen; omega) (by omega) (by simp; omega) ?_; intro v9 w9 hown' hgrow _; have S7 := Lib.hid ((S6.out.alloc (.cells #[.int .i64 1, .bool false] 34)).app hown' hgrow); clear hown hown' hgrow))
              have HG := Lib.hid (gros_snocQ l2 ⟨1, false⟩)
              have hlen : l2.length ≤ 12 := by omega
              obtain ⟨v7a, v7c, hv7⟩ := (Rs.of_own S7.out.own).shape
              subst hv7
              go_wp2
              go_roundw
              case rel => exact ⟨kk2 + 2, l2 ++ [⟨1, false⟩], by simp; omega, by simp; omega, Lib.hid (by rw [HG.out, List.length_append]; simpa [Nat.add_assoc] using S7.out)⟩
              case measure => simp [lenQ]; omega
            · have t3 : decide ((l2.length : Int) < 12 + (r6 : Int)) = false := by simpa using hcmp
              clear hown
              go_wp2
              go_ret
              exact ⟨_, l2, rfl, S6.out.more (k' := k + 200) (by omega), by omega⟩
        · have t1 : ((r : Int) == 1) = false := by rw [beq_eq_false_iff_ne]; omega
          clear e1
          go_wp2
          go_ret
          exact ⟨_, l, rfl, S9.out.more (by omega), by omega⟩
/-- What drawing seats leaves. -/
def SePost (B b k : Nat) (w : World) (e : Ending) (w' : World) : Prop := ∃ x : Int, (0 ≤ x ∧ x ≤ 11) ∧ e = .returned (.int .i64 x) ∧ Cur B b (k + 2) w' ∧ w.grownBy w' (some b)
set_option maxRecDepth 100000 in
set_option maxHeartbeats 2000000 in
theorem seats_any (B b k : Nat) (w : World) (h : Cur B b k w) (hk : k ≤ 800000000) :
    Calls Try.prog 63 #[.pointer (some ⟨b, 0, none⟩)] w (SePost B b k w) := by
  have HH := Lib.hid h
  have hb := h.2.1
  clear h
  go_enter Try.func63, Try.ntmps63
  go_wp2_with fail
  refine (among_any B b k w.heap.size 11 11 [4, 6, 8, 8, 8, 10, 10, 2, 1, 0, 11] _ (HH.out.alloc _) (by omega) rfl (by omega) (by omega) (by omega) (num_cells w 3 [4, 6, 8, 8, 8, 10, 10, 2, 1, 0, 11] _ rfl)).mono ?_
  rintro e w1 ⟨x, hx, rfl, hc, hg⟩
  have HC := Lib.hid hc
  have HG := Lib.hid (grown_trans (World.grownBy_alloc w (.cells #[.int .i64 4, .int .i64 6, .int .i64 8, .int .i64 8, .int .i64 8, .int .i64 10, .int .i64 10, .int .i64 2, .int .i64 1, .int .i64 0, .int .i64 11] 3) (some b)) hg)
  have HX : Hid (0 ≤ x ∧ x ≤ 11) := Lib.hid (by simp at hx; omega)
  clear hc hg hx
  go_wp2
  go_ret
  exact ⟨x, HX.out, rfl, HC.out, HG.out⟩
end Go.Proofs.Ytkjdkfoeolcnkaa

namespace Go.Proofs.Ytkjdkfoeolcnkaa
open Go.RowKit
set_option linter.unusedVariables false
def DqPost (w : World) (e : Ending) (w' : World) : Prop := ∃ (v : Value) (l : List Gro), e = .returned v ∧ Rs w' v l.length (gros l) ∧ l.length ≤ 14 ∧ Below w.heap.size w w'
set_option maxRecDepth 100000 in
set_option maxHeartbeats 4000000 in
theorem DrawIsQueue_any (a : Option Addr) (len cap : Nat) (w : World) (h : ByteRow w a len) :
    Calls Try.prog 74 #[.slice a len cap] w (DqPost w) := by
  have B1 := Below.refl w.heap.size w
  have C0 := Lib.hid (cur_at (cap := cap) (h.below B1) 69 (n := w.heap.size) (by first | rfl | simp))
  have T0 := Lib.hid (B1.alloc B1.size (.cells #[.slice a len cap, .int .i64 0, .int .u64 0] 69))
  have hs0 : (w.alloc (.cells #[.slice a len cap, .int .i64 0, .int .u64 0] 69)).heap.size = w.heap.size + 1 := by simp
  clear h B1
  go_enter Try.func74, Try.ntmps74
  go_upto_region 2 with fail
  generalize w.alloc (.cells #[.slice a len cap, .int .i64 0, .int .u64 0] 69) = w0 at *
  go_wp2_with fail
  refine (queue_any (w.heap.size) (w.heap.size) (0) w0 C0.out (by omega)).mono ?_
  rintro e w1 ⟨v, l, rfl, S9, hl9⟩
  have hc := S9.cur
  have hg := S9.gr
  have T1 := Lib.hid (T0.out.trans (grown_below hg (by have := T0.out.size; omega) (fun j hj => by cases hj; omega)))
  have C1 := Lib.hid hc
  have z0 := T0.out.size
  have z1 := hg.size
  have HO := Lib.hid S9.own
  clear hc hg S9
  obtain ⟨av, cv, hv⟩ := (Rs.of_own HO.out).shape
  subst hv
  go_wp2_with fail
  go_ret
  exact ⟨_, l, rfl, Rs.of_own HO.out, hl9, T1.out⟩
def DsPost (w : World) (e : Ending) (w' : World) : Prop := ∃ (v : Value) (l : List Gro) (s : Int), e = .returned (.tuple #[v, .int .i64 s]) ∧ Rs w' v l.length (gros l) ∧ l.length ≤ 14 ∧ (0 ≤ s ∧ s ≤ 11) ∧ Below w.heap.size w w'
set_option maxRecDepth 100000 in
set_option maxHeartbeats 4000000 in
theorem DrawSplitGroups_any (a : Option Addr) (len cap : Nat) (w : World) (h : ByteRow w a len) :
    Calls Try.prog 31 #[.slice a len cap] w (DsPost w) := by
  have B1 := Below.refl w.heap.size w
  have C0 := Lib.hid (cur_at (cap := cap) (h.below B1) 69 (n := w.heap.size) (by first | rfl | simp))
  have T0 := Lib.hid (B1.alloc B1.size (.cells #[.slice a len cap, .int .i64 0, .int .u64 0] 69))
  have hs0 : (w.alloc (.cells #[.slice a len cap, .int .i64 0, .int .u64 0] 69)).heap.size = w.heap.size + 1 := by simp
  clear h B1
  go_enter Try.func31, Try.ntmps31
  go_upto_region 2 with fail
  generalize w.alloc (.cells #[.slice a len cap, .int .i64 0, .int .u64 0] 69) = w0 at *
  go_wp2_with fail
  refine (queue_any (w.heap.size) (w.heap.size) (0) w0 C0.out (by omega)).mono ?_
  rintro e w1 ⟨v, l, rfl, S9, hl9⟩
  have hc := S9.cur
  have hg := S9.gr
  have T1 := Lib.hid (T0.out.trans (grown_below hg (by have := T0.out.size; omega) (fun j hj => by cases hj; omega)))
  have C1 := Lib.hid hc
  have z0 := T0.out.size
  have z1 := hg.size
  have HO := Lib.hid S9.own
  clear hc hg S9
  obtain ⟨av, cv, hv⟩ := (Rs.of_own HO.out).shape
  subst hv
  have hO0 := HO.out
  go_wp2_with fail
  refine (seats_any (w.heap.size) (w.heap.size) (0 + 200) w1 C1.out (by omega)).mono ?_
  rintro e w2 ⟨s, hs, rfl, hc, hg⟩
  have T2 := Lib.hid (T1.out.trans (grown_below hg (by have := T1.out.size; omega) (fun j hj => by cases hj; omega)))
  have O2 := Lib.hid (hO0.kept hg (by
    cases hx : (Value.slice av l.length cv).ownBlock with
    | none => exact .inl rfl
    | some j => exact .inr (fun e => by cases e; have := (hO0.lt _ hx).1; omega)))
  have C2 := Lib.hid hc
  have z2 := hg.size
  clear hc hg hO0
  go_wp2_with fail
  go_ret2
  exact ⟨_, l, s, rfl, Rs.of_own O2.out, hl9, hs, T2.out⟩
set_option maxRecDepth 100000 in
theorem DrawFillCabin_any (a : Option Addr) (len cap : Nat) (w : World) (h : ByteRow w a len) :
    Calls Try.prog 38 #[.slice a len cap] w (DsPost w) := by
  have E0 := Lib.hid (DrawSplitGroups_any a len cap w h)
  clear h
  go_enter Try.func38, Try.ntmps38
  go_wp2_with fail
  refine (E0.out).mono ?_
  rintro e w1 ⟨v, l, s, rfl, hr, hl, hs, hb⟩
  have HR := Lib.hid hr
  have HB := Lib.hid hb
  clear hr hb
  go_wp2
  go_ret2
  exact ⟨_, l, s, rfl, HR.out, hl, hs, HB.out⟩
set_option maxRecDepth 100000 in
theorem DrawAfterCabin_any (a : Option Addr) (len cap : Nat) (w : World) (h : ByteRow w a len) :
    Calls Try.prog 24 #[.slice a len cap] w (DsPost w) := by
  have E0 := Lib.hid (DrawSplitGroups_any a len cap w h)
  clear h
  go_enter Try.func24, Try.ntmps24
  go_wp2_with fail
  refine (E0.out).mono ?_
  rintro e w1 ⟨v, l, s, rfl, hr, hl, hs, hb⟩
  have HR := Lib.hid hr
  have HB := Lib.hid hb
  clear hr hb
  go_wp2
  go_ret2
  exact ⟨_, l, s, rfl, HR.out, hl, hs, HB.out⟩
set_option maxRecDepth 100000 in
theorem DrawCabinsNeeded_any (a : Option Addr) (len cap : Nat) (w : World) (h : ByteRow w a len) :
    Calls Try.prog 15 #[.slice a len cap] w (DsPost w) := by
  have E0 := Lib.hid (DrawSplitGroups_any a len cap w h)
  clear h
  go_enter Try.func15, Try.ntmps15
  go_wp2_with fail
  refine (E0.out).mono ?_
  rintro e w1 ⟨v, l, s, rfl, hr, hl, hs, hb⟩
  have HR := Lib.hid hr
  have HB := Lib.hid hb
  clear hr hb
  go_wp2
  go_ret2
  exact ⟨_, l, s, rfl, HR.out, hl, hs, HB.out⟩
set_option maxRecDepth 100000 in
theorem DrawLeastCabins_any (a : Option Addr) (len cap : Nat) (w : World) (h : ByteRow w a len) :
    Calls Try.prog 36 #[.slice a len cap] w (DsPost w) := by
  have E0 := Lib.hid (DrawSplitGroups_any a len cap w h)
  clear h
  go_enter Try.func36, Try.ntmps36
  go_wp2_with fail
  refine (E0.out).mono ?_
  rintro e w1 ⟨v, l, s, rfl, hr, hl, hs, hb⟩
  have HR := Lib.hid hr
  have HB := Lib.hid hb
  clear hr hb
  go_wp2
  go_ret2
  exact ⟨_, l, s, rfl, HR.out, hl, hs, HB.out⟩
set_option maxRecDepth 100000 in
theorem DrawPeopleIn_any (a : Option Addr) (len cap : Nat) (w : World) (h : ByteRow w a len) :
    Calls Try.prog 41 #[.slice a len cap] w (DqPost w) := by
  have E0 := Lib.hid (DrawIsQueue_any a len cap w h)
  clear h
  go_enter Try.func41, Try.ntmps41
  go_wp2_with fail
  refine (E0.out).mono ?_
  rintro e w1 ⟨v, l, rfl, hr, hl, hb⟩
  have HR := Lib.hid hr
  have HB := Lib.hid hb
  clear hr hb
  go_wp2
  go_ret
  exact ⟨_, l, rfl, HR.out, hl, HB.out⟩
def DcPost (w : World) (e : Ending) (w' : World) : Prop := ∃ (v : Value) (l : List Gro) (s x : Int), e = .returned (.tuple #[v, .int .i64 s, .int .i64 x]) ∧ Rs w' v l.length (gros l) ∧ l.length ≤ 14 ∧ (0 ≤ s ∧ s ≤ 11) ∧ Below w.heap.size w w'
theorem div8Q (r : Nat) (hr : (r : Int) < 9) : ∃ c : Nat, c ≤ 1 ∧ Int.tdiv (r : Int) 8 = (c : Int) ∧ IntKind.i64.wrap (c : Int) = (c : Int) := by
  have h1 : Int.tdiv (r : Int) 8 = ((r / 8 : Nat) : Int) := by rw [Int.tdiv_eq_ediv_of_nonneg (by omega)]; omega
  exact ⟨r / 8, by omega, h1, IntWalk.i64_in _ (by omega)⟩
set_option maxRecDepth 100000 in
set_option maxHeartbeats 4000000 in
theorem DrawCabinOf_any (a : Option Addr) (len cap : Nat) (w : World) (h : ByteRow w a len) :
    Calls Try.prog 29 #[.slice a len cap] w (DcPost w) := by
  have B1 := Below.refl w.heap.size w
  have C0 := Lib.hid (cur_at (cap := cap) (h.below B1) 69 (n := w.heap.size) (by first | rfl | simp))
  have T0 := Lib.hid (B1.alloc B1.size (.cells #[.slice a len cap, .int .i64 0, .int .u64 0] 69))
  have hs0 : (w.alloc (.cells #[.slice a len cap, .int .i64 0, .int .u64 0] 69)).heap.size = w.heap.size + 1 := by simp
  clear h B1
  go_enter Try.func29, Try.ntmps29
  go_upto_region 2 with fail
  generalize w.alloc (.cells #[.slice a len cap, .int .i64 0, .int .u64 0] 69) = w0 at *
  go_wp2_with fail
  refine (queue_any (w.heap.size) (w.heap.size) (0) w0 C0.out (by omega)).mono ?_
  rintro e w1 ⟨v, l, rfl, S9, hl9⟩
  have hc := S9.cur
  have hg := S9.gr
  have T1 := Lib.hid (T0.out.trans (grown_below hg (by have := T0.out.size; omega) (fun j hj => by cases hj; omega)))
  have C1 := Lib.hid hc
  have z0 := T0.out.size
  have z1 := hg.size
  have HO := Lib.hid S9.own
  clear hc hg S9
  obtain ⟨av, cv, hv⟩ := (Rs.of_own HO.out).shape
  subst hv
  have hO0 := HO.out
  go_wp2_with fail
  refine (seats_any (w.heap.size) (w.heap.size) (0 + 200) w1 C1.out (by omega)).mono ?_
  rintro e w2 ⟨s, hs, rfl, hc, hg⟩
  have T2 := Lib.hid (T1.out.trans (grown_below hg (by have := T1.out.size; omega) (fun j hj => by cases hj; omega)))
  have O2 := Lib.hid (hO0.kept hg (by
    cases hx : (Value.slice av l.length cv).ownBlock with
    | none => exact .inl rfl
    | some j => exact .inr (fun e => by cases e; have := (hO0.lt _ hx).1; omega)))
  have C2 := Lib.hid hc
  have z2 := hg.size
  clear hc hg hO0
  have hO0 := O2.out
  go_wp2_with fail
  refine (pick_any (w.heap.size) (w.heap.size) (0 + 202 + 0) ((l.length : Int) + 1) w2 C2.out (by omega) (by omega) (by omega)).mono ?_
  rintro e w3 ⟨r, rfl, hr, hc, hg⟩
  have T3 := Lib.hid (T2.out.trans (grown_below hg (by have := T2.out.size; omega) (fun j hj => by cases hj; omega)))
  have O3 := Lib.hid (hO0.kept hg (by
    cases hx : (Value.slice av l.length cv).ownBlock with
    | none => exact .inl rfl
    | some j => exact .inr (fun e => by cases e; have := (hO0.lt _ hx).1; omega)))
  have C3 := Lib.hid hc
  have z3 := hg.size
  clear hc hg hO0
  have hO0 := O3.out
  go_wp2_with fail
  refine (pick_any (w.heap.size) (w.heap.size) (0 + 202 + 2) 9 w3 C3.out (by omega) (by omega) (by omega)).mono ?_
  rintro e w4 ⟨t, rfl, ht, hc, hg⟩
  have T4 := Lib.hid (T3.out.trans (grown_below hg (by have := T3.out.size; omega) (fun j hj => by cases hj; omega)))
  have O4 := Lib.hid (hO0.kept hg (by
    cases hx : (Value.slice av l.length cv).ownBlock with
    | none => exact .inl rfl
    | some j => exact .inr (fun e => by cases e; have := (hO0.lt _ hx).1; omega)))
  have C4 := Lib.hid hc
  have z4 := hg.size
  clear hc hg hO0
  obtain ⟨c, hc1, hc2, hc3⟩ := div8Q t ht
  have q1 : IntKind.i64.wrap ((r : Int) - (c : Int)) = (r : Int) - (c : Int) := IntWalk.i64_in _ (by omega)
  go_wp2
  go_ret3
  exact ⟨_, l, s, _, rfl, Rs.of_own O4.out, hl9, hs, T4.out⟩
end Go.Proofs.Ytkjdkfoeolcnkaa

namespace Go.Proofs.Ytkjdkfoeolcnkaa
open Go.RowKit
set_option linter.unusedVariables false
theorem namedT {a w' : World} {B : Nat} (h : Hid (Below B a w')) : ∃ W : World, W = w' := ⟨_, rfl⟩
theorem q_law2 {l : List Gro} {s : Int} (h : asQ l s = true) : ∃ N cb F, QLaw l s N cb F ∧ ndV l s = (N : Int) ∧ (N : Int) * s - ppV l = emV l s := by
  obtain ⟨N, cb, F, hQ⟩ := q_law h
  exact ⟨N, cb, F, hQ, hQ.nd, hQ.em⟩
theorem wf_small {s : Int} (h : 0 ≤ s ∧ s ≤ 11) : (Lit.int .i64 s).wf = true := by
  simp only [Lit.wf, Bool.and_eq_true, decide_eq_true_eq]
  exact ⟨Int.le_trans (by decide) h.1, Int.le_trans h.2 (by decide)⟩
set_option maxRecDepth 100000 in
set_option maxHeartbeats 4000000 in
theorem FnQueues_walk (a : Option Addr) (len cap : Nat) (w : World) (h : ByteRow w a len) :
    Calls Try.prog 3 #[.slice a len cap] w fun e w' => e = .returned (.bool true) ∧ Below w.heap.size w w' := by
  have hm := h.1
  have HC := Lib.hid h
  clear h
  by_cases hbig : 65536 < len
  · go_enter Try.func3, Try.ntmps3
    go_wp2_with fail
    refine (vBig_yes a len cap _ hbig hm).mono ?_
    rintro e w' ⟨rfl, rfl⟩
    go_wp2_with fail
    go_ret
    exact ⟨rfl, Below.refl _ _⟩
  · go_enter Try.func3, Try.ntmps3
    go_wp2_with fail
    refine (vBig_no a len cap _ (by omega)).mono ?_
    rintro e w' ⟨rfl, rfl⟩
    have T0 := Lib.hid (Below.refl w.heap.size w)
    have HCode53 := Lib.hid (HC.out.below T0.out)
    go_wp2_with fail
    refine (DrawCabinsNeeded_any a len cap _ HCode53.out).mono ?_
    rintro e X53 ⟨v1, l1, s1, rfl, r1, hl1, hs1, b53⟩
    clear HCode53
    have T_54 := Lib.hid (T0.out.trans (b53.mono T0.out.size))
    clear b53 T0
    obtain ⟨a1, c1, rfl⟩ := r1.shape
    have R1_0 := Lib.hid r1
    clear r1
    go_wp2_with fail
    refine (implCabinsNeeded_c (.slice a1 l1.length c1) l1 s1 _ R1_0.out (by omega)).mono ?_
    rintro e Y55 ⟨rfl, b55⟩
    have R1_56 := Lib.hid (R1_0.out.below b55 rfl)
    have T_56 := Lib.hid (T_54.out.trans (b55.mono T_54.out.size))
    clear b55 R1_0 T_54
    go_wp2_with fail
    refine (specCabinsNeeded_c (.slice a1 l1.length c1) l1 s1 _ R1_56.out (by omega)).mono ?_
    rintro e Y57 ⟨rfl, b57⟩
    have R1_58 := Lib.hid (R1_56.out.below b57 rfl)
    have T_58 := Lib.hid (T_56.out.trans (b57.mono T_56.out.size))
    clear b57 R1_56 T_56
    have HW1 := Lib.hid (wf_small hs1)
    have E1 := Lib.hid (fun W h => implEmptySeats_c (.slice a1 l1.length c1) l1 s1 W h (by omega) HW1.out)
    have E2 := Lib.hid (fun W h => specEmptySeats_c (.slice a1 l1.length c1) l1 s1 W h (by omega))
    have HQ := Lib.hid (fun h => q_law2 (l := l1) (s := s1) h)
    generalize ndV l1 s1 = nv at *
    generalize emV l1 s1 = ev at *
    generalize asQ l1 s1 = ok at *
    have t0 : (ok != ok) = false := by simp
    have t00 : (nv != nv) = false := by simp
    have t000 : (ev != ev) = false := by simp
    go_wp2_with fail
    refine (E1.out _ R1_58.out).mono ?_
    rintro e Y59 ⟨rfl, b59⟩
    have R1_60 := Lib.hid (R1_58.out.below b59 rfl)
    have T_60 := Lib.hid (T_58.out.trans (b59.mono T_58.out.size))
    clear b59 R1_58 T_58
    go_wp2_with fail
    refine (E2.out _ R1_60.out).mono ?_
    rintro e Y61 ⟨rfl, b61⟩
    have R1_62 := Lib.hid (R1_60.out.below b61 rfl)
    have T_62 := Lib.hid (T_60.out.trans (b61.mono T_60.out.size))
    clear b61 R1_60 T_60
    clear E1 E2
    go_upto_if 96 with fail
    go_cut [] from 3 (fun wx => Hid (Below Y61.heap.size Y61 wx))
    case first =>
      as_aux_lemma =>
      cases ok with
      | false =>
        go_wp2
        go_meet
        case rel => exact Lib.hid (Below.refl _ _)
      | true =>
        have hY0 := Lib.hid (Below.refl Y61.heap.size Y61)
        obtain ⟨i0, hi, hz0, hz1, hz2⟩ := info_parts Try.infoIntR
        obtain ⟨N, cb, F, hQ, hnd, hem⟩ := HQ.out rfl
        obtain ⟨qmul1, qmul2⟩ := hQ.mul
        obtain ⟨qpp1, qpp2⟩ := hQ.pp
        obtain ⟨qs1, qs2⟩ := hQ.sb
        have hle := hQ.le
        have hln := hQ.len
        have HCAB := Lib.hid hQ.cab
        have HFL := Lib.hid hQ.flen
        have HZ := Lib.hid hQ.zero
        have HSU := Lib.hid hQ.succ
        have HBD := Lib.hid hQ.bd
        have HGR := Lib.hid hQ.gro
        have HFU := Lib.hid hQ.full
        have HSM := Lib.hid hQ.sum
        have HLC := Lib.hid hQ.lc
        have EP := Lib.hid (fun W h => implPeopleIn_c (.slice a1 l1.length c1) l1 W h (by omega))
        have EL := Lib.hid (fun W h => implLeastCabins_c (.slice a1 l1.length c1) l1 s1 W h (by omega))
        rw [hQ.is] at EP
        clear hQ HQ t0 t00 t000
        generalize ppV l1 = P at *
        generalize qqV l1 = Q at *
        generalize lcV l1 s1 = lv at *
        generalize lcOk l1 s1 = lo at *
        subst hnd
        subst hem
        go_wp2_with fail
        refine (EP.out _ R1_62.out).mono ?_
        rintro e Y63 ⟨rfl, b63⟩
        have hY64 := Lib.hid (hY0.out.trans (b63.mono hY0.out.size))
        clear hY0
        have R1_65 := Lib.hid (R1_62.out.below b63 rfl)
        have T_65 := Lib.hid (T_62.out.trans (b63.mono T_62.out.size))
        clear b63 R1_62 T_62
        clear EP
        go_upto_region 15 with (at_make; refine wpList_make_full _ rfl _ _ 31 rfl Y63.heap.size 3 i0 (.int .i64 0) 1 Try.underlying31 hi hz0 hz1 _ _ _ _ N rfl rfl rfl rfl (by rw [hz2]; omega) (by unfold maxLen; omega) (Nat.le_refl _) ?_; intro w0 hown0 hgrow0)
        have bw0 : Hid (Below Y63.heap.size Y63 w0) := Lib.hid ((Below.refl _ _).grown hgrow0 (Nat.le_refl _) (fun k h => by cases h))
        have OF0 : Hid (w0.ownsRow Y63.heap.size 3 1 (.slice (some ⟨Y63.heap.size, 0, none⟩) N N) N (intVs (F 0))) := Lib.hid (by
          rw [HZ.out]
          have h := hown0
          rw [Nat.mul_one] at h
          simpa [toList_madeCells_one, intVs, Value.cells] using h)
        clear hown0 hgrow0 hi hz0 hz1 hz2
        go_wp2
        go_loopw [17] (fun i wr => ∃ kk : Nat, kk ≤ l1.length ∧ i = .int .i64 (kk : Int) ∧ Hid (wr.ownsRow Y63.heap.size 3 1 (.slice (some ⟨Y63.heap.size, 0, none⟩) N N) N (intVs (F kk))) ∧ Hid (Below Y63.heap.size Y63 wr)) (fun i _ => l1.length - (intOf i).toNat)
        case atStart => exact ⟨0, by omega, rfl, OF0, bw0⟩
        case round =>
          obtain ⟨kk, hk, rfl, hfu, hbl⟩ := hrel
          have bq := hbl.out
          have hY66 := Lib.hid (hY64.out.trans (bq.mono hY64.out.size))
          clear hY64
          have R1_67 := Lib.hid (R1_65.out.below bq rfl)
          have T_67 := Lib.hid (T_65.out.trans (bq.mono T_65.out.size))
          clear bq R1_65 T_65
          by_cases hlt : kk < l1.length
          · skip
            have i1 : (kk : Int) < (l1.length : Int) := by omega
            obtain ⟨ca1, ca2, ca3⟩ := HCAB.out kk hlt
            have EC := Lib.hid (fun W h => implCabinOf_c (.slice a1 l1.length c1) l1 s1 (kk : Int) W h (by omega))
            rw [ca1, ca2] at EC
            have HS2 := HSU.out kk hlt
            have HB2 := HBD.out kk hk (cb kk) ca3
            have HG2 := HGR.out kk hlt
            have hfl := HFL.out kk
            generalize cb kk = C at *
            have u0 : decide ((C : Int) < 0) = false := by simp
            have u1 : decide ((N : Int) ≤ (C : Int)) = false := by simp; omega
            clear ca1 ca2
            go_wp2_with fail
            refine (EC.out _ R1_67.out).mono ?_
            rintro e Y68 ⟨rfl, b68⟩
            have OF_69 := Lib.hid (own_below hfu.out b68)
            clear hfu
            have hB70 := Lib.hid (hbl.out.trans (b68.mono hbl.out.size))
            clear hbl
            have hY71 := Lib.hid (hY66.out.trans (b68.mono hY66.out.size))
            clear hY66
            have R1_72 := Lib.hid (R1_67.out.below b68 rfl)
            have T_72 := Lib.hid (T_67.out.trans (b68.mono T_67.out.size))
            clear b68 R1_67 T_67
            clear EC
            obtain ⟨ae, be, oe, ce, hve, hAe, hate⟩ := R1_72.out.form_Gro
            obtain ⟨rfl, hbe, hme⟩ := hAe (by omega)
            cases hve
            obtain ⟨e0, e1⟩ := hate kk hlt
            clear hAe hate hme e1
            have cF := (OF_69.out.cellAt C (by omega)).trans (int_at (by omega))
            have fF := OF_69.out.frozenAt C
            have hbz0 : (0 : Int) ≤ (C : Int) := by omega
            have hbz1 : (C : Int) < (N : Int) := by omega
            have HGX : Hid ((F kk).getD C 0 = (F kk).getD C 0) := Lib.hid rfl
            generalize hGX : (F kk).getD C 0 = X at *
            clear HGX
            have HGX := Lib.hid hGX
            clear hGX
            generalize gth l1 kk = D at *
            obtain ⟨hb1, hb2⟩ := HB2
            obtain ⟨hg1, hg2⟩ := HG2
            have HS3 := Lib.hid HS2
            clear HS2
            go_wp2_with fail
            go_still_tail 13, (by kernel_rfl)
            change wpList _ _ _ _ _ Y68.drew
            have b9 : Below Y68.heap.size Y68 Y68.drew := (Below.refl _ _).drew
            have HO9 := Lib.hid (own_below OF_69.out b9)
            have HB9 : Hid (Below Y63.heap.size Y63 Y68.drew) := Lib.hid (hB70.out.drew)
            generalize Y68.drew = w9 at *
            clear e0 cF fF b9
            have cF := (HO9.out.cellAt C (by omega)).trans (int_at (by omega))
            have fF := HO9.out.frozenAt C
            have q9 := HO9.out.stored C (.int .i64 (X + D.z))
            have HO10 := Lib.hid q9.1
            have HIV : Hid ((intVs (F kk)).set C (.int .i64 (X + D.z)) = intVs (F (kk + 1))) := Lib.hid (by rw [HS3.out]; simp [intVs, List.map_set])
            rw [HIV.out] at HO10
            have HB10 := Lib.hid (HB9.out.setCell (p := ⟨Y63.heap.size, C, none⟩) (Nat.le_refl _) (.int .i64 (X + D.z)))
            clear q9
            go_wp2
            go_roundw
            case rel => exact ⟨kk + 1, by omega, by go_num, HO10, HB10⟩
            case measure => simp [intOf]; omega
          · skip
            obtain rfl : kk = l1.length := by omega
            have HFU2 := HFU
            have hfl := HFL.out l1.length
            have HMB : Hid (∀ x, x ∈ F l1.length → 0 ≤ x ∧ x ≤ 100) := Lib.hid (fun x hx => by
              obtain ⟨i, hi, rfl⟩ := List.getElem_of_mem hx
              have h := HBD.out l1.length (Nat.le_refl _) i (by omega)
              rw [show (F l1.length).getD i 0 = (F l1.length)[i] by simp [List.getD, hi]] at h
              omega)
            have HSM2 := HSM.out
            clear hbl HCAB HSU HBD HGR HZ HSM
            generalize F l1.length = FN at *
            clear HFL
            go_wp2
            go_loopw [20] (fun i wx => ∃ kk : Nat, kk ≤ N ∧ i = .int .i64 (kk : Int) ∧ wx = wr) (fun i _ => N - (intOf i).toNat)
            case atStart => exact ⟨0, by omega, rfl, by first | rfl | trivial⟩
            case round =>
              obtain ⟨kk, hk, rfl, rfl⟩ := hrel
              by_cases hkN : kk < N
              · obtain ⟨x1, x2⟩ := HFU.out kk hkN
                have cF := (hfu.out.cellAt kk (by omega)).trans (int_at (by omega))
                generalize FN.getD kk 0 = X at *
                have u0 : decide (X < 1) = false := by simp; omega
                have u1 : decide (s1 < X) = false := by simp; omega
                go_wp2
                go_roundw
                case rel => exact ⟨kk + 1, by omega, by go_num, by first | rfl | trivial⟩
                case measure => simp [intOf]; omega
              · obtain rfl : kk = N := by omega
                have HV := Lib.hid (vSum_c _ FN _ (Rd.of_own hfu.out) (by omega) HMB.out)
                rw [HSM2] at HV
                have u0 : (P != P) = false := by simp
                have tw : IntKind.i64.wrap ((kk : Int) * s1) = (kk : Int) * s1 := IntWalk.i64_in _ (by omega)
                have tw2 : IntKind.i64.wrap ((kk : Int) * s1 - P) = (kk : Int) * s1 - P := IntWalk.i64_in _ (by omega)
                have u1 : ((kk : Int) * s1 - P != (kk : Int) * s1 - P) = false := by simp
                go_wp2_with fail
                refine (HV.out).mono ?_
                rintro e Y73 ⟨rfl, b73⟩
                have hY74 := Lib.hid (hY66.out.trans (b73.mono hY66.out.size))
                clear hY66
                have R1_75 := Lib.hid (R1_67.out.below b73 rfl)
                have T_75 := Lib.hid (T_67.out.trans (b73.mono T_67.out.size))
                clear b73 R1_67 T_67
                clear HV HSM2 HMB
                go_wp2_with fail
                refine (EL.out _ R1_75.out).mono ?_
                rintro e Y76 ⟨rfl, b76⟩
                have hY77 := Lib.hid (hY74.out.trans (b76.mono hY74.out.size))
                clear hY74
                have R1_78 := Lib.hid (R1_75.out.below b76 rfl)
                have T_78 := Lib.hid (T_75.out.trans (b76.mono T_75.out.size))
                clear b76 R1_75 T_75
                clear EL
                cases lo with
                | false =>
                  clear HLC
                  go_wp2
                  go_meet
                  case rel => exact hY77
                | true =>
                  have hlv := HLC.out (by trivial)
                  have u2 : decide ((kk : Int) < lv) = false := by simp; omega
                  clear HLC hlv
                  go_wp2
                  go_meet
                  case rel => exact hY77
    case rest =>
      clear R1_62
      obtain ⟨wx, hwx⟩ := namedT hcut
      subst hwx
      have bcwx := hcut.out
      clear hcut HQ t0 t00 t000
      have T_79 := Lib.hid (T_62.out.trans (bcwx.mono T_62.out.size))
      clear bcwx T_62
      have HCode80 := Lib.hid (HC.out.below T_79.out)
      go_wp2_with fail
      refine (DrawAfterCabin_any a len cap _ HCode80.out).mono ?_
      rintro e X80 ⟨v2, l2, s2, rfl, r2, hl2, hs2, b80⟩
      clear HCode80
      have T_81 := Lib.hid (T_79.out.trans (b80.mono T_79.out.size))
      clear b80 T_79
      obtain ⟨a2, c2, rfl⟩ := r2.shape
      have R2_0 := Lib.hid r2
      clear r2
      go_wp2_with fail
      refine (implAfterCabin_c (.slice a2 l2.length c2) l2 s2 _ R2_0.out (by omega)).mono ?_
      rintro e Y82 ⟨vg, rfl, og, b82⟩
      have R2_83 := Lib.hid (R2_0.out.below b82 rfl)
      have T_83 := Lib.hid (T_81.out.trans (b82.mono T_81.out.size))
      clear b82 R2_0 T_81
      obtain ⟨ag, cg, rfl⟩ := (Rs.of_own og).shape
      have Rg_0 := Lib.hid (Rs.of_own og)
      clear og
      go_wp2_with fail
      refine (specAfterCabin_c (.slice a2 l2.length c2) l2 s2 _ R2_83.out (by omega)).mono ?_
      rintro e Y84 ⟨vh, rfl, oh, b84⟩
      have R2_85 := Lib.hid (R2_83.out.below b84 rfl)
      have Rg_85 := Lib.hid (Rg_0.out.below b84 rfl)
      have T_85 := Lib.hid (T_83.out.trans (b84.mono T_83.out.size))
      clear b84 R2_83 Rg_0 T_83
      obtain ⟨ah, ch, rfl⟩ := (Rs.of_own oh).shape
      have Rh_0 := Lib.hid (Rs.of_own oh)
      clear oh
      have HAF := Lib.hid (fun h h0 => af_law (l := l2) (s := s2) h h0)
      have hlr := afV_len l2 s2
      have EN := Lib.hid (fun W h => implCabinsNeeded_c (.slice a2 l2.length c2) l2 s2 W h (by omega))
      have EF := Lib.hid (fun W h => implFillCabin_c (.slice a2 l2.length c2) l2 s2 W h (by omega))
      have ER := Lib.hid (fun W h => implCabinsNeeded_c (.slice ag (afV l2 s2).length cg) (afV l2 s2) s2 W h (by omega))
      have hfl := flV_len l2 s2
      generalize afV l2 s2 = lr at *
      generalize apV l2 s2 = iv at *
      generalize flV l2 s2 = lf at *
      generalize asQ l2 s2 = fo at *
      have t0 : (fo != fo) = false := by simp
      have t00 : (iv != iv) = false := by simp
      go_wp2_with fail
      refine (vGroups_c (.slice ag lr.length cg) (.slice ah lr.length ch) lr _ Rg_85.out Rh_0.out (by omega)).mono ?_
      rintro e Y86 ⟨rfl, b86⟩
      have R2_87 := Lib.hid (R2_85.out.below b86 rfl)
      have Rg_87 := Lib.hid (Rg_85.out.below b86 rfl)
      have Rh_87 := Lib.hid (Rh_0.out.below b86 rfl)
      have T_87 := Lib.hid (T_85.out.trans (b86.mono T_85.out.size))
      clear b86 R2_85 Rg_85 Rh_0 T_85
      clear Rh_87
      cases fo with
      | false =>
        clear R2_87 Rg_87
        clear HAF EN EF ER
        clear t0 t00
        have HCode88 := Lib.hid (HC.out.below T_87.out)
        go_wp2_with fail
        refine (DrawCabinOf_any a len cap _ HCode88.out).mono ?_
        rintro e X88 ⟨v3, l3, s3, x3, rfl, r3, hl3, hs3, b88⟩
        clear HCode88
        have T_89 := Lib.hid (T_87.out.trans (b88.mono T_87.out.size))
        clear b88 T_87
        obtain ⟨a3, c3, rfl⟩ := r3.shape
        have R3_0 := Lib.hid r3
        clear r3
        go_wp2_with fail
        refine (implCabinOf_c (.slice a3 l3.length c3) l3 s3 x3 _ R3_0.out (by omega)).mono ?_
        rintro e Y90 ⟨rfl, b90⟩
        have R3_91 := Lib.hid (R3_0.out.below b90 rfl)
        have T_91 := Lib.hid (T_89.out.trans (b90.mono T_89.out.size))
        clear b90 R3_0 T_89
        go_wp2_with fail
        refine (specCabinOf_c (.slice a3 l3.length c3) l3 s3 x3 _ R3_91.out (by omega)).mono ?_
        rintro e Y92 ⟨rfl, b92⟩
        have R3_93 := Lib.hid (R3_91.out.below b92 rfl)
        have T_93 := Lib.hid (T_91.out.trans (b92.mono T_91.out.size))
        clear b92 R3_91 T_91
        generalize cbV l3 s3 x3 = kv at *
        generalize cbOk l3 s3 x3 = ko at *
        have t0 : (kv == kv) = true := by simp
        have t1 : (ko == ko) = true := by simp
        go_wp2
        go_ret
        exact ⟨by simp, T_93.out⟩
      | true =>
        by_cases h0 : 0 < l2.length
        · skip
          obtain ⟨c1, c2, c3, c4⟩ := HAF.out rfl h0
          have u0 : decide ((0 : Int) < (l2.length : Int)) = true := decide_eq_true (by omega)
          have hnb := ndV_bd lr s2
          rw [c2] at EN
          rw [c1] at ER
          generalize ndV lr s2 = nn at *
          have tw : IntKind.i64.wrap (nn + 1) = nn + 1 := IntWalk.i64_in _ (by omega)
          have u1 : (nn + 1 != nn + 1) = false := by simp
          have u2 : decide (s2 < iv) = false := by simp; omega
          have c3i : (lf.length : Int) + (lr.length : Int) = (l2.length : Int) := by omega
          have tw2 : IntKind.i64.wrap ((lf.length : Int) + (lr.length : Int)) = (l2.length : Int) := by rw [c3i]; exact IntWalk.i64_in _ (by omega)
          have u3 : ((l2.length : Int) != (l2.length : Int)) = false := by simp
          clear c1 c2 HAF
          go_wp2_with fail
          refine (EN.out _ R2_87.out).mono ?_
          rintro e Y100 ⟨rfl, b100⟩
          have R2_101 := Lib.hid (R2_87.out.below b100 rfl)
          have Rg_101 := Lib.hid (Rg_87.out.below b100 rfl)
          have T_101 := Lib.hid (T_87.out.trans (b100.mono T_87.out.size))
          clear b100 R2_87 Rg_87 T_87
          go_wp2_with fail
          refine (ER.out _ Rg_101.out).mono ?_
          rintro e Y102 ⟨rfl, b102⟩
          have R2_103 := Lib.hid (R2_101.out.below b102 rfl)
          have Rg_103 := Lib.hid (Rg_101.out.below b102 rfl)
          have T_103 := Lib.hid (T_101.out.trans (b102.mono T_101.out.size))
          clear b102 R2_101 Rg_101 T_101
          go_wp2_with fail
          refine (EF.out _ R2_103.out).mono ?_
          rintro e Y104 ⟨vk, rfl, ok3, b104⟩
          have R2_105 := Lib.hid (R2_103.out.below b104 rfl)
          have Rg_105 := Lib.hid (Rg_103.out.below b104 rfl)
          have T_105 := Lib.hid (T_103.out.trans (b104.mono T_103.out.size))
          clear b104 R2_103 Rg_103 T_103
          obtain ⟨ak, ck, rfl⟩ := (Rs.of_own ok3).shape
          have Rk_0 := Lib.hid (Rd.of_own ok3)
          clear ok3
          clear EN ER EF
          clear R2_105 Rg_105 Rk_0
          clear t0 t00
          have HCode106 := Lib.hid (HC.out.below T_105.out)
          go_wp2_with fail
          refine (DrawCabinOf_any a len cap _ HCode106.out).mono ?_
          rintro e X106 ⟨v3, l3, s3, x3, rfl, r3, hl3, hs3, b106⟩
          clear HCode106
          have T_107 := Lib.hid (T_105.out.trans (b106.mono T_105.out.size))
          clear b106 T_105
          obtain ⟨a3, c3, rfl⟩ := r3.shape
          have R3_0 := Lib.hid r3
          clear r3
          go_wp2_with fail
          refine (implCabinOf_c (.slice a3 l3.length c3) l3 s3 x3 _ R3_0.out (by omega)).mono ?_
          rintro e Y108 ⟨rfl, b108⟩
          have R3_109 := Lib.hid (R3_0.out.below b108 rfl)
          have T_109 := Lib.hid (T_107.out.trans (b108.mono T_107.out.size))
          clear b108 R3_0 T_107
          go_wp2_with fail
          refine (specCabinOf_c (.slice a3 l3.length c3) l3 s3 x3 _ R3_109.out (by omega)).mono ?_
          rintro e Y110 ⟨rfl, b110⟩
          have R3_111 := Lib.hid (R3_109.out.below b110 rfl)
          have T_111 := Lib.hid (T_109.out.trans (b110.mono T_109.out.size))
          clear b110 R3_109 T_109
          generalize cbV l3 s3 x3 = kv at *
          generalize cbOk l3 s3 x3 = ko at *
          have t0 : (kv == kv) = true := by simp
          have t1 : (ko == ko) = true := by simp
          go_wp2
          go_ret
          exact ⟨by simp, T_111.out⟩
        · skip
          clear R2_87 Rg_87
          have u0 : decide ((0 : Int) < (l2.length : Int)) = false := decide_eq_false (by omega)
          clear HAF EN EF ER
          clear t0 t00
          have HCode94 := Lib.hid (HC.out.below T_87.out)
          go_wp2_with fail
          refine (DrawCabinOf_any a len cap _ HCode94.out).mono ?_
          rintro e X94 ⟨v3, l3, s3, x3, rfl, r3, hl3, hs3, b94⟩
          clear HCode94
          have T_95 := Lib.hid (T_87.out.trans (b94.mono T_87.out.size))
          clear b94 T_87
          obtain ⟨a3, c3, rfl⟩ := r3.shape
          have R3_0 := Lib.hid r3
          clear r3
          go_wp2_with fail
          refine (implCabinOf_c (.slice a3 l3.length c3) l3 s3 x3 _ R3_0.out (by omega)).mono ?_
          rintro e Y96 ⟨rfl, b96⟩
          have R3_97 := Lib.hid (R3_0.out.below b96 rfl)
          have T_97 := Lib.hid (T_95.out.trans (b96.mono T_95.out.size))
          clear b96 R3_0 T_95
          go_wp2_with fail
          refine (specCabinOf_c (.slice a3 l3.length c3) l3 s3 x3 _ R3_97.out (by omega)).mono ?_
          rintro e Y98 ⟨rfl, b98⟩
          have R3_99 := Lib.hid (R3_97.out.below b98 rfl)
          have T_99 := Lib.hid (T_97.out.trans (b98.mono T_97.out.size))
          clear b98 R3_97 T_97
          generalize cbV l3 s3 x3 = kv at *
          generalize cbOk l3 s3 x3 = ko at *
          have t0 : (kv == kv) = true := by simp
          have t1 : (ko == ko) = true := by simp
          go_wp2
          go_ret
          exact ⟨by simp, T_99.out⟩
end Go.Proofs.Ytkjdkfoeolcnkaa
