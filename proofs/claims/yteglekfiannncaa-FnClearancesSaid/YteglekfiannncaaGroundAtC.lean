/- The ground's height at a place: the program's answer. Condition: sizes. -/
import Derived.Test.YteglekfiannncaaClearMath
namespace Go.Proofs.Yteglekfiannncaa
open Go.RowKit
set_option linter.unusedVariables false
set_option maxRecDepth 100000 in
set_option maxHeartbeats 4000000 in
theorem groundAt_c (v : Value) (g : List GP) (p : Int) (w : World) (hr : Rs w v g.length (gps g)) (hg : GAt g p (grN g p)) :
    Calls Try.prog 85 #[v, .int .i64 p] w fun e w' => e = .returned (.agg #[.int .i64 (gRaw g (grN g p) p), .int .i64 (gLen g (grN g p))]) ∧ Below w.heap.size w w' := by
  have hgr := gRaw_bd hg
  have hgl := gLen_bd hg
  have hlt := hg.lt
  have h8 := hg.eight
  have hlo := hg.lo
  have hhi := hg.hi
  have ha0 := hg.a0
  have ha1 := hg.a1
  have hh0 := hg.h0
  have hh1 := hg.h1
  have HLe : Hid (∀ j, j < grN g p → (gth g (j + 1)).a < p) := Lib.hid (fun j hj => grN_least hj)
  have HE := Lib.hid (gRaw_eq g (grN g p) p)
  have hLd : (gth g (grN g p + 1)).a - (gth g (grN g p)).a = gLen g (grN g p) := rfl
  obtain ⟨a, oa, ca, rfl, hla, hm, hs⟩ := hr.at_GP (by omega)
  have HA := Lib.hid hs
  clear hr hs hg
  generalize grN g p = z at *
  generalize hR : gRaw g z p = R at *
  generalize hLn : gLen g z = Ln at *
  clear hR hLn
  have HC := Lib.hid (fun i (hi : i < g.length) => HA.out.below ((Below.refl w.heap.size w).alloc (Nat.le_refl _) (.cells #[.int .i64 0, .int .i64 0] 109)) hla i hi)
  go_enter Try.func85, Try.ntmps85
  go_wp2_with fail
  go_loop [5] (fun i => ∃ k : Nat, k ≤ z ∧ i = .int .i64 ((k : Int) + 1)) (fun i => g.length - (intOf i).toNat)
  case atStart => exact ⟨0, by omega, rfl⟩
  case round =>
    obtain ⟨k, hk, rfl⟩ := hrel
    obtain ⟨c0, _⟩ := HC.out (k + 1) (by omega)
    have hi1 : k + 1 < g.length := by omega
    obtain ⟨p1, p2, p3⟩ := succ_in k (by omega)
    have hi2 : (k : Int) + 1 < (g.length : Int) := by omega
    by_cases hlt1 : k < z
    · have hx := HLe.out k hlt1
      clear hhi HE hLd
      generalize (gth g (k + 1)).a = B at *
      go_wp2
      go_round
      case rel => exact ⟨k + 1, by omega, by go_num⟩
      case measure => simp [intOf]; omega
    · obtain rfl : k = z := by omega
      obtain ⟨d0, d1⟩ := HC.out k (by omega)
      obtain ⟨_, c1⟩ := HC.out (k + 1) (by omega)
      have s1 : IntKind.i64.wrap ((gth g (k + 1)).a - (gth g k).a) = Ln := by rw [hLd]; exact IntWalk.i64_in _ (by omega)
      have m1 := absMul (x := (gth g (k + 1)).h - (gth g k).h) (A := 2000) (y := p - (gth g k).a) (B := 3000) (by omega) (by omega) (by omega) (by omega)
      have m2 := mulBd (A := 2000) (B := 3000) hh0.1 hh0.2 (by omega : 0 ≤ Ln) hgl.2
      have s2 : IntKind.i64.wrap ((gth g (k + 1)).h - (gth g k).h) = (gth g (k + 1)).h - (gth g k).h := IntWalk.i64_in _ (by omega)
      have s3 : IntKind.i64.wrap (p - (gth g k).a) = p - (gth g k).a := IntWalk.i64_in _ (by omega)
      have s4 : IntKind.i64.wrap (((gth g (k + 1)).h - (gth g k).h) * (p - (gth g k).a)) = ((gth g (k + 1)).h - (gth g k).h) * (p - (gth g k).a) := IntWalk.i64_in _ (by omega)
      have s5 : IntKind.i64.wrap ((gth g k).h * Ln) = (gth g k).h * Ln := IntWalk.i64_in _ (by omega)
      have s6 : IntKind.i64.wrap ((gth g k).h * Ln + ((gth g (k + 1)).h - (gth g k).h) * (p - (gth g k).a)) = R := by rw [HE.out]; exact IntWalk.i64_in _ (by omega)
      clear hLd m1 m2 HE HLe HC
      have hi0 : k < g.length := by omega
      have p4 : IntKind.i64.wrap ((k : Int) + 1 - 1) = (k : Int) := by rw [show (k : Int) + 1 - 1 = (k : Int) by omega]; exact IntWalk.i64_in _ (by omega)
      have p5 : IntKind.i64.wrap (k : Int) = (k : Int) := IntWalk.i64_in _ (by omega)
      have p6 : (k : Int) < (g.length : Int) := by omega
      generalize (gth g (k + 1)).a = B at *
      generalize (gth g k).a = A at *
      generalize (gth g (k + 1)).h = J at *
      generalize (gth g k).h = H at *
      go_wp2_with fail
      go_region_held3 (fun w' => w'.cell? ⟨a, oa + k * 2, none⟩ = some (.int .i64 A) ∧ w'.cell? ⟨a, oa + k * 2 + 1, none⟩ = some (.int .i64 H) ∧ w'.cell? ⟨a, oa + (k + 1) * 2, none⟩ = some (.int .i64 B) ∧ w'.cell? ⟨a, oa + (k + 1) * 2 + 1, none⟩ = some (.int .i64 J)) (go_keep) (fail)
      all_goals clear p1 p2 p3 p4 p5
      all_goals (go_wp2_with fail)
      all_goals refine bodyPost_ret (v := .agg #[.int .i64 R, .int .i64 Ln]) (by simp [results, Try.results85, go_sem]) rfl ⟨rfl, ?_⟩
      all_goals repeat (first | with_reducible exact Below.refl _ _ | with_reducible refine Below.alloc ?_ (by simp; try omega) _ | with_reducible refine below_drewN ?_ _ | with_reducible refine Below.drew ?_)
end Go.Proofs.Yteglekfiannncaa
