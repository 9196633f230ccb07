/- Queues with groups: spec.LeastCabins and SplitGroups. Condition: sizes. -/
import Derived.Test.YtkjdkfoeolcnkaaQuO
import Derived.Test.YtkjdkfoeolcnkaaQuJ
namespace Go.Proofs.Ytkjdkfoeolcnkaa
open Go.RowKit
set_option linter.unusedVariables false
set_option maxRecDepth 100000 in
set_option maxHeartbeats 4000000 in
theorem specLeastCabins_c (v : Value) (l : List Gro) (s : Int) (w : World) (hr : Rs w v l.length (gros l)) (hn : l.length ≤ 1048576) :
    Calls Try.prog 37 #[v, .int .i64 s] w fun e w' => e = .returned (.tuple #[.int .i64 (lcV l s), .bool (lcOk l s)]) ∧ Below w.heap.size w w' := by
  obtain ⟨i0, hi, hz0, hz1, hz2⟩ := info_parts Try.infoIntR
  have E0 := Lib.hid (l13Asked_c v l s w hr hn)
  have HNO := Lib.hid (lc_no (l := l) (s := s))
  have HOK : Hid (lcOk l s = (asQ l s && decide (l.length ≤ 8))) := Lib.hid rfl
  have HYES := Lib.hid (lc_yes (l := l) (s := s))
  have HLV : Hid (lcOk l s = true → lcV l s = (lcK s (zsQ l) : Int)) := Lib.hid (fun h => by unfold lcV; rw [h]; rfl)
  have HR := Lib.hid (fun W (h : Below w.heap.size w W) => hr.below h rfl)
  obtain ⟨va, vc, hva⟩ := hr.shape
  clear hr
  subst hva
  generalize asQ l s = b at *
  generalize lcOk l s = ok at *
  cases b with
  | false =>
    have hok : ok = false := HOK.out
    subst hok
    have HV := Lib.hid (HNO.out rfl).symm
    go_enter Try.func37, Try.ntmps37
    go_wp2_with fail
    refine (E0.out).mono ?_
    rintro e w1 ⟨rfl, rfl⟩
    go_wp2
    go_ret2
    exact ⟨ret_ib9 HV.out rfl, Below.refl _ _⟩
  | true =>
    by_cases h8 : l.length ≤ 8
    · have hok : ok = true := by rw [HOK.out]; simp [h8]
      subst hok
      obtain ⟨_, y2, y3, y4⟩ := HYES.out rfl
      have hfit : ∀ g, g ∈ zsQ l → g ≤ s := fun g hg => by
        unfold zsQ at hg
        obtain ⟨x, hx, rfl⟩ := List.mem_map.1 hg
        exact (y4 x hx).2
      obtain ⟨hlc, hlcl⟩ := lcK_is hfit
      have hN8 : lcK s (zsQ l) ≤ 8 := by
        have : (zsQ l).length = l.length := by simp [zsQ]
        omega
      have HONE : Hid (∀ k, (∀ j, j < k → pkS (List.replicate j s) (zsQ l) = false) → pkS (List.replicate k s) (zsQ l) = true → k = lcK s (zsQ l)) := Lib.hid (fun k h1 h2 => lc_one ⟨(pk_iff _ _).1 h2, fun j hj hf => by
        have h := (pk_iff _ _).2 hf
        rw [h1 j hj] at h
        cases h⟩ hlc)
      have HLT : Hid (∀ k, k ≤ lcK s (zsQ l) → pkS (List.replicate k s) (zsQ l) = false → k < lcK s (zsQ l)) := Lib.hid (fun k h1 h2 => by
        by_cases e : k = lcK s (zsQ l)
        · rw [e, (pk_iff _ _).2 hlc.1] at h2; cases h2
        · omega)
      have HPK : Hid (∀ k W u, k ≤ 8 → Below w.heap.size w W → Rd W u (intVs (List.replicate k s)) → Calls Try.prog 73 #[.slice va l.length vc, .int .i64 0, u] W fun e w' => e = .returned (.bool (pkS (List.replicate k s) (zsQ l))) ∧ Below W.heap.size W w') := Lib.hid (fun k W u hk hW hu => l13Pack_c l (fun x hx => by have := y4 x hx; omega) y3 l.length 0 _ u (List.replicate k s) W (by omega) (HR.out W hW) hu (fun y hy => by rw [(List.mem_replicate.1 hy).2]; omega) (by rw [List.length_replicate]; exact hk))
      have HV := Lib.hid (HLV.out rfl).symm
      clear y4 hfit hlc hlcl HYES HLV
      generalize lcV l s = RV at *
      generalize lcK s (zsQ l) = N at *
      go_enter Try.func37, Try.ntmps37
      go_wp2_with fail
      refine (E0.out).mono ?_
      rintro e w1 ⟨rfl, rfl⟩
      go_wp2
      go_loopw [6] (fun o wr => ∃ k : Nat, k ≤ N ∧ Hid (wr.ownsRow w1.heap.size 3 1 o k (intVs (List.replicate k s))) ∧ Hid (∀ j, j < k → pkS (List.replicate j s) (zsQ l) = false) ∧ Hid (Below w1.heap.size w1 wr)) (fun o _ => N - sl13 o)
      case atStart => exact ⟨0, by omega, Lib.hid (World.ownsRow_made w1 #[] 0 (Nat.le_refl _) (by decide) rfl), Lib.hid (fun j h => by omega), Lib.hid ((Below.refl _ _).alloc (Nat.le_refl _) _)⟩
      case round =>
        obtain ⟨k, hk, hown, hno, hbel⟩ := hrel
        have hbs := hbel.out.size
        have HC := Lib.hid (HPK.out k wr _ (by omega) hbel.out (Rd.of_own hown.out))
        have H1 := Lib.hid (HONE.out k hno.out)
        have H2 := Lib.hid (HLT.out k hk)
        have HNX : Hid (pkS (List.replicate k s) (zsQ l) = false → ∀ j, j < k + 1 → pkS (List.replicate j s) (zsQ l) = false) := Lib.hid (fun h j hj => by
          by_cases e : j = k
          · subst e; exact h
          · exact hno.out j (by omega))
        have HREP : Hid (intVs (List.replicate (k + 1) s) = intVs (List.replicate k s) ++ [.int .i64 s]) := Lib.hid (by rw [List.replicate_succ', iv_one])
        generalize pkS (List.replicate k s) (zsQ l) = pb at *
        obtain ⟨xa, xc, hx⟩ := (Rs.of_own hown.out).shape
        subst hx
        go_wp2_with fail
        refine (HC.out).mono ?_
        rintro e w2 ⟨rfl, b2⟩
        have HB2 := Lib.hid (hbel.out.trans (b2.mono hbs))
        have HO2 := Lib.hid (own_below hown.out b2)
        have hs2 := HB2.out.size
        clear b2
        cases pb with
        | true =>
          have hkN := H1.out rfl
          subst hkN
          go_wp2
          go_ret2
          exact ⟨ret_ib9 HV.out rfl, HB2.out⟩
        | false =>
          have hkN := H2.out rfl
          have HN2 := Lib.hid (HNX.out rfl)
          go_wp2_with (at_builtin; go_loud (refine wpList_append_any _ rfl _ _ 31 rfl w1.heap.size 3 i0 (.int .i64 0) 1 8 Try.underlying31 hi hz0 hz1 hz2 rfl (by decide) _ _ _ rfl (HO2.out.alloc _) (some ⟨w2.heap.size, 0, none⟩) 1 1 [.int .i64 s] rfl rfl (fun _ => ⟨_, rfl, cell_one_new _ _ _⟩) (by simp [Value.oneCell']) (by unfold maxLen; omega) (by omega) (by simp; omega) ?_; intro v3 w3 hown3 hgrow3 _; obtain ⟨va3, vc3, hv3⟩ := (Rs.of_own hown3).shape; subst hv3; have HO3 := Lib.hid hown3; have HB3 := Lib.hid ((HB2.out.alloc hs2 _).grown hgrow3 (by simp; omega) (fun y hy => (HO2.out.lt y hy).1)); clear hown3 hgrow3))
          go_roundw
          case rel => exact ⟨k + 1, by omega, Lib.hid (by rw [HREP.out]; exact HO3.out), HN2, HB3⟩
          case measure => simp [sl13]; omega
    · have hok : ok = false := by rw [HOK.out]; simp [h8]
      subst hok
      have HV := Lib.hid (HNO.out rfl).symm
      go_enter Try.func37, Try.ntmps37
      go_wp2_with fail
      refine (E0.out).mono ?_
      rintro e w1 ⟨rfl, rfl⟩
      go_wp2
      go_ret2
      exact ⟨ret_ib9 HV.out rfl, Below.refl _ _⟩
end Go.Proofs.Ytkjdkfoeolcnkaa
