/- Queues with groups: spec.l13Needed, CabinsNeeded, CabinOf, EmptySeats. Condition: sizes. -/
import Derived.Test.YtkjdkfoeolcnkaaQuM
namespace Go.Proofs.Ytkjdkfoeolcnkaa
open Go.RowKit
set_option linter.unusedVariables false
set_option maxRecDepth 100000 in
set_option maxHeartbeats 2000000 in
theorem l13Needed_c (v : Value) (l : List Gro) (s : Int) (w : World) (hr : Rs w v l.length (gros l)) (ha : asQ l s = true) :
    Calls Try.prog 53 #[v, .int .i64 s] w fun e w' => e = .returned (.int .i64 (ndV l s)) ∧ Below w.heap.size w w' := by
  have E0 := Lib.hid (l13Cabins_c v l s w hr ha)
  have HMX := Lib.hid (mx13_nd ha)
  have hl12 := is_len (as_is ha)
  have HCB : Hid (∀ i, i < l.length → 0 ≤ (cb13 (szQ l) (qkQ l) l.length s i : Int) ∧ (cb13 (szQ l) (qkQ l) l.length s i : Int) ≤ 12) := Lib.hid (fun i hi => by
    have h1 := (cb13_is (qk := qkQ l) (as_fit ha) hi).2
    have h2 := (nd13_is (qk := qkQ l) (as_fit ha)).2
    omega)
  have HAT := Lib.hid (fun i (hi : i < l.length) => cbL_at (s := s) hi)
  have HLN := Lib.hid (cbL_len l s)
  obtain ⟨f, hf⟩ : ∃ f : Nat → Int, f = fun i => (cb13 (szQ l) (qkQ l) l.length s i : Int) := ⟨_, rfl⟩
  have hfi : ∀ i, (cb13 (szQ l) (qkQ l) l.length s i : Int) = f i := fun i => by rw [hf]
  simp only [hfi] at HCB HAT HMX
  rw [show (fun i => f i) = f from rfl] at HMX
  have HBD : Hid (∀ k, k ≤ l.length → 0 ≤ mx13 f k ∧ mx13 f k ≤ 13) := Lib.hid (fun k hk => by
    induction k with
    | zero => simp [mx13]
    | succ k ih =>
      have h1 := ih (by omega)
      have h2 := HCB.out k (by omega)
      rw [mx13]
      split <;> omega)
  have HSU : Hid (∀ k, mx13 f (k + 1) = if f k + 1 < mx13 f k then mx13 f k else f k + 1) := Lib.hid (fun k => rfl)
  clear hf hfi ha
  obtain ⟨va, vc, hva⟩ := hr.shape
  clear hr
  subst hva
  generalize ndV l s = N at *
  generalize cbL l s = CL at *
  go_enter Try.func53, Try.ntmps53
  go_wp2_with fail
  refine (E0.out).mono ?_
  rintro e w1 ⟨g, rfl, o1, b1⟩
  have HB1 := Lib.hid b1
  rw [← HLN.out] at o1 HBD HMX HCB HAT hl12
  obtain ⟨ga, gb, gc, gd, hg, hga, hgt⟩ := (Rd.of_own o1).formR
  have HGA := Lib.hid hga
  have HGT := Lib.hid hgt
  subst hg
  clear o1 b1 hga hgt HLN
  go_wp2
  go_loopw [6, 7] (fun mm i wr => ∃ k : Nat, k ≤ CL.length ∧ i = .int .i64 k ∧ mm = .int .i64 (mx13 f k) ∧ wr = w1) (fun _ i _ => CL.length - (intOf i).toNat)
  case atStart => exact ⟨0, by omega, rfl, by first | rfl | trivial, by first | rfl | trivial⟩
  case round =>
    obtain ⟨k, hk, rfl, rfl, rfl⟩ := hrel
    by_cases hlt : k < CL.length
    · obtain ⟨rfl, hla, hlm⟩ := HGA.out (by omega)
      have c0 := HGT.out k hlt
      rw [HAT.out k hlt] at c0
      obtain ⟨f1, f2⟩ := HCB.out k hlt
      obtain ⟨m1, m2⟩ := HBD.out k hk
      have HS := Lib.hid (HSU.out k)
      have HM := Lib.hid (fun W => most9_c (mx13 f k) (f k + 1) W)
      generalize f k = F at *
      generalize mx13 f k = M at *
      go_wp2_with fail
      refine (HM.out _).mono ?_
      rintro e w2 ⟨rfl, rfl⟩
      go_wp2
      go_roundw
      case rel => exact ⟨k + 1, by omega, by go_num, by rw [HS.out], by first | rfl | trivial⟩
      case measure => simp [intOf]; omega
    · obtain rfl : k = CL.length := by omega
      go_wp2
      go_ret
      exact ⟨ret_i13 HMX.out, HB1.out⟩
set_option maxRecDepth 100000 in
set_option maxHeartbeats 2000000 in
theorem specCabinsNeeded_c (v : Value) (l : List Gro) (s : Int) (w : World) (hr : Rs w v l.length (gros l)) (hn : l.length ≤ 1048576) :
    Calls Try.prog 17 #[v, .int .i64 s] w fun e w' => e = .returned (.tuple #[.int .i64 (ndV l s), .bool (asQ l s)]) ∧ Below w.heap.size w w' := by
  have E0 := Lib.hid (l13Asked_c v l s w hr hn)
  have E1 := Lib.hid (fun h => l13Needed_c v l s w hr h)
  have HNO : Hid (asQ l s = false → ndV l s = 0) := Lib.hid (fun h => by unfold ndV; rw [h]; rfl)
  obtain ⟨va, vc, hva⟩ := hr.shape
  clear hr
  generalize ndV l s = R at *
  generalize asQ l s = b at *
  subst hva
  go_enter Try.func17, Try.ntmps17
  go_wp2_with fail
  refine (E0.out).mono ?_
  rintro e w1 ⟨rfl, rfl⟩
  cases b with
  | false =>
    have HR := Lib.hid (HNO.out rfl).symm
    go_wp2
    go_ret2
    exact ⟨ret_ib9 HR.out rfl, Below.refl _ _⟩
  | true =>
    go_wp2_with fail
    refine (E1.out (by trivial)).mono ?_
    rintro e w2 ⟨rfl, b2⟩
    go_wp2
    go_ret2
    exact ⟨rfl, b2⟩
set_option maxRecDepth 100000 in
set_option maxHeartbeats 2000000 in
theorem specEmptySeats_c (v : Value) (l : List Gro) (s : Int) (w : World) (hr : Rs w v l.length (gros l)) (hn : l.length ≤ 1048576) :
    Calls Try.prog 19 #[v, .int .i64 s] w fun e w' => e = .returned (.tuple #[.int .i64 (emV l s), .bool (asQ l s)]) ∧ Below w.heap.size w w' := by
  have E0 := Lib.hid (l13Asked_c v l s w hr hn)
  have E1 := Lib.hid (fun h => l13Needed_c v l s w hr h)
  have E2 : Hid (asQ l s = true → ∀ W, Below w.heap.size w W → _) := Lib.hid (fun h W (hb : Below w.heap.size w W) => l13People_c v l W (hr.below hb rfl) (as_is h))
  have HPP : Hid (asQ l s = true → ppV l = peK l l.length) := Lib.hid (fun h => by unfold ppV; rw [as_is h]; rfl)
  have HEM := Lib.hid (em_val (l := l) (s := s))
  have HEN := Lib.hid (em_no (l := l) (s := s))
  have HSS := Lib.hid (as_s (l := l) (s := s))
  have HND := Lib.hid (ndV_bd l s)
  obtain ⟨va, vc, hva⟩ := hr.shape
  clear hr
  generalize emV l s = R at *
  generalize ndV l s = N at *
  generalize asQ l s = b at *
  generalize ppV l = PP at *
  generalize peK l l.length = PK at *
  subst hva
  go_enter Try.func19, Try.ntmps19
  go_wp2_with fail
  refine (E0.out).mono ?_
  rintro e w1 ⟨rfl, rfl⟩
  cases b with
  | false =>
    have HR := Lib.hid (HEN.out rfl).symm
    go_wp2
    go_ret2
    exact ⟨ret_ib9 HR.out rfl, Below.refl _ _⟩
  | true =>
    obtain ⟨m1, m2, m3, m4, m5⟩ := HEM.out (by trivial)
    obtain ⟨n1, n2⟩ := HSS.out (by trivial)
    obtain ⟨n3, n4⟩ := HND.out
    have hp := HPP.out (by trivial)
    subst hp
    have HM1 := Lib.hid m1
    clear m1
    have tw : IntKind.i64.wrap (N * s) = N * s := IntWalk.i64_in _ (by omega)
    go_wp2_with fail
    refine (E1.out (by trivial)).mono ?_
    rintro e w2 ⟨rfl, b2⟩
    have HB2 := Lib.hid b2
    clear b2
    go_wp2_with fail
    refine (E2.out (by trivial) _ HB2.out).mono ?_
    rintro e w3 ⟨rfl, rfl⟩
    go_wp2
    go_ret2
    exact ⟨ret_ib9 (by rw [← HM1.out]) rfl, HB2.out⟩
set_option maxRecDepth 100000 in
set_option maxHeartbeats 2000000 in
theorem specCabinOf_c (v : Value) (l : List Gro) (s x : Int) (w : World) (hr : Rs w v l.length (gros l)) (hn : l.length ≤ 1048576) :
    Calls Try.prog 30 #[v, .int .i64 s, .int .i64 x] w fun e w' => e = .returned (.tuple #[.int .i64 (cbV l s x), .bool (cbOk l s x)]) ∧ Below w.heap.size w w' := by
  have E0 := Lib.hid (l13Asked_c v l s w hr hn)
  have E1 := Lib.hid (fun h => l13Cabins_c v l s w hr h)
  have E2 := Lib.hid (fun W => l1In_c x 0 ((l.length : Int) - 1) W)
  have HOK : Hid (cbOk l s x = (asQ l s && inR x 0 ((l.length : Int) - 1))) := Lib.hid rfl
  have HNO : Hid (cbOk l s x = false → cbV l s x = 0) := Lib.hid (fun h => by unfold cbV; rw [h]; rfl)
  have HYES : Hid (cbOk l s x = true → ∃ i : Nat, x = (i : Int) ∧ i < l.length ∧ cbV l s x = (cbL l s).getD i 0) := Lib.hid (fun h => by
    have h' := h
    unfold cbOk at h'
    rw [Bool.and_eq_true, inR_iff] at h'
    obtain ⟨_, h1, h2⟩ := h'
    refine ⟨x.toNat, by omega, by omega, ?_⟩
    rw [cbL_at (by omega)]
    unfold cbV
    rw [h, if_pos rfl])
  have HLN := Lib.hid (cbL_len l s)
  obtain ⟨va, vc, hva⟩ := hr.shape
  clear hr
  generalize cbV l s x = R at *
  generalize cbOk l s x = ok at *
  generalize asQ l s = b at *
  generalize inR x 0 ((l.length : Int) - 1) = bi at *
  generalize cbL l s = CL at *
  subst hva
  go_enter Try.func30, Try.ntmps30
  go_wp2_with fail
  refine (E0.out).mono ?_
  rintro e w1 ⟨rfl, rfl⟩
  cases b with
  | false =>
    have hok : ok = false := HOK.out
    subst hok
    have HR := Lib.hid (HNO.out rfl).symm
    go_wp2
    go_ret2
    exact ⟨ret_ib9 HR.out rfl, Below.refl _ _⟩
  | true =>
    go_wp2_with fail
    refine (E2.out _).mono ?_
    rintro e w2 ⟨rfl, rfl⟩
    cases bi with
    | false =>
      have hok : ok = false := HOK.out
      subst hok
      have HR := Lib.hid (HNO.out rfl).symm
      go_wp2
      go_ret2
      exact ⟨ret_ib9 HR.out rfl, Below.refl _ _⟩
    | true =>
      have hok : ok = true := HOK.out
      subst hok
      obtain ⟨i, rfl, hi, hR'⟩ := HYES.out rfl
      have hR := Lib.hid hR'
      clear hR'
      go_wp2_with fail
      refine (E1.out (by trivial)).mono ?_
      rintro e w3 ⟨g, rfl, o3, b3⟩
      have HB3 := Lib.hid b3
      clear b3
      rcases own_form o3 with ⟨h0, _⟩ | ⟨gg, cg, rfl, _, _, _, _⟩
      · omega
      · have c3 := (o3.cellAt i (by omega)).trans (int_at (by rw [HLN.out]; exact hi))
        rw [← hR.out] at c3
        clear o3
        go_wp2
        go_ret2
        exact ⟨rfl, HB3.out⟩
end Go.Proofs.Ytkjdkfoeolcnkaa
