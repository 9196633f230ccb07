/- Clearances: the specification's answers. Condition: sizes. -/
import Derived.Test.YteglekfiannncaaClearMath
import Derived.Test.YteglekfiannncaaGroundS
namespace Go.Proofs.Yteglekfiannncaa
open Go.RowKit
set_option linter.unusedVariables false
/-- The sizes of what makes a clearance. -/
theorem c0_bd {C L G wd : Int} (hC : 0 ≤ C ∧ C ≤ 12000000) (hL : 0 < L ∧ L ≤ 3000) (hG : 0 ≤ G ∧ G ≤ 12000000) (hw : 0 < wd ∧ wd ≤ 3000) :
    (0 ≤ C * wd ∧ C * wd ≤ 36000000000) ∧ (0 ≤ G * L ∧ G * L ≤ 36000000000) ∧ (0 < L * wd ∧ L * wd ≤ 9000000) := by
  have m1 := mulBd (A := 12000000) (B := 3000) hC.1 hC.2 (by omega : 0 ≤ wd) hw.2
  have m2 := mulBd (A := 12000000) (B := 3000) hG.1 hG.2 (by omega : 0 ≤ L) hL.2
  have m3 := mulBd (A := 3000) (B := 3000) (by omega : 0 ≤ L) hL.2 (by omega : 0 ≤ wd) hw.2
  have m4 := Int.mul_pos hL.1 hw.1
  omega
theorem cR_bd {n d T WE : Int} (hn : -36000000000 ≤ n ∧ n ≤ 36000000000) (hd : 0 < d ∧ d ≤ 9000000) (hT : 0 < T ∧ T ≤ 200000) (hW : 0 ≤ WE ∧ WE ≤ 1800000000) :
    (-7200000000000000 ≤ n * T ∧ n * T ≤ 7200000000000000) ∧ (0 ≤ WE * d ∧ WE * d ≤ 16200000000000000) ∧ (0 < d * T ∧ d * T ≤ 1800000000000) := by
  have m1 := absMul (A := 36000000000) (B := 200000) hn.1 hn.2 (by omega : 0 ≤ T) hT.2
  have m2 := mulBd (A := 1800000000) (B := 9000000) hW.1 hW.2 (by omega : 0 ≤ d) hd.2
  have m3 := mulBd (A := 9000000) (B := 200000) (by omega : 0 ≤ d) hd.2 (by omega : 0 ≤ T) hT.2
  have m4 := Int.mul_pos hd.1 hT.1
  omega
/-- The clearance's raw fraction is small and its denominator positive. -/
theorem cR_ok {l : List Sup} {r : Rp} {g : List GP} {p : Int} (ho : sgOk l r p = true) (hg : IsG l g) :
    (-23400000000000000 ≤ cRn l r g p ∧ cRn l r g p ≤ 23400000000000000) ∧ (0 < cRd l r g p ∧ cRd l r g p ≤ 1800000000000) := by
  obtain ⟨hon, hw, hp⟩ := sgOk_yes ho
  have h := onAt hon
  have h1 := chRaw_bd h.line h.lt h.lo h.hi
  have h2 := slen_bd h.line h.lt
  have ga := gAt hg hon
  have h3 := gRaw_bd ga
  have h4 := gLen_bd ga
  have h5 := (xyOk h).bd
  obtain ⟨q1, q2, q3⟩ := c0_bd h1 h2 h3 h4
  have m := mulBd (A := 200) (B := 9000000) (by omega : 0 ≤ r.w) hw.2 h5.1 h5.2
  have r1 := rN_bd (n := c0N l g p) (d := c0D l g p) (B := 36000000000) q3.1 (by unfold c0N; omega) (by unfold c0N; omega)
  have r2 := rD_pos (n := c0N l g p) (d := c0D l g p) q3.1
  have r3 := rD_le (n := c0N l g p) (d := c0D l g p) q3.1
  have r4 : c0D l g p ≤ 9000000 := q3.2
  obtain ⟨k1, k2, k3⟩ := cR_bd r1 ⟨r2, by omega⟩ (T := 2 * r.p) (by omega) m
  unfold cRn cRd
  omega
set_option maxRecDepth 100000 in
set_option maxHeartbeats 4000000 in
theorem l4Clear_c (v0 : Value) (l : List Sup) (r : Rp) (v1 : Value) (g : List GP) (p : Int) (w : World) (hr0 : Rs w v0 l.length (sups l)) (hn : l.length ≤ 1048576) (hr1 : Rs w v1 g.length (gps g)) (hng : g.length ≤ 1048576) (ho : sgOk l r p = true) (hg : IsG l g) :
    Calls Try.prog 79 #[v0, .agg #[.int .i64 r.w, .int .i64 r.p], v1, .int .i64 p] w fun e w' => e = .returned (.tuple #[.int .i64 (cRn l r g p), .int .i64 (cRd l r g p)]) ∧ Below w.heap.size w w' := by
  obtain ⟨hon, hw, hp⟩ := sgOk_yes ho
  have HX := Lib.hid (fun W h => box_Rp w r 26 _ rfl W h)
  have HR := Lib.hid (hr0.below ((Below.refl _ _).alloc (Nat.le_refl _) (.cells #[.int .i64 r.w, .int .i64 r.p] 26)) rfl)
  have HB0 : Hid (Below w.heap.size w (w.alloc (.cells #[.int .i64 r.w, .int .i64 r.p] 26))) := Lib.hid ((Below.refl _ _).alloc (Nat.le_refl _) _)
  have h := onAt hon
  have HCh := Lib.hid (fun W hW => l2Chord_c v0 l p W hW h)
  have HPa := Lib.hid (fun W hW => l4Parts_c v0 l p W hW hon)
  have hC := chRaw_bd h.line h.lt h.lo h.hi
  have hL := slen_bd h.line h.lt
  have ga := gAt hg hon
  have hG := gRaw_bd ga
  have hW := gLen_bd ga
  have hxy := xyOk h
  have hx0 := hxy.x0
  have hy0 := hxy.y0
  have hsm := hxy.sum
  have hE := hxy.bd
  obtain ⟨q1, q2, q3⟩ := c0_bd hC hL hG hW
  have m := mulBd (A := 200) (B := 9000000) (by omega : 0 ≤ r.w) hw.2 hE.1 hE.2
  have m0 := mulBd (A := 200) (B := 3000) (by omega : 0 ≤ r.w) hw.2 hx0 (by omega)
  have r1 := rN_bd (n := c0N l g p) (d := c0D l g p) (B := 36000000000) q3.1 (by unfold c0N; omega) (by unfold c0N; omega)
  have r2 := rD_pos (n := c0N l g p) (d := c0D l g p) q3.1
  have r3 := rD_le (n := c0N l g p) (d := c0D l g p) q3.1
  have r4 : c0D l g p ≤ 9000000 := q3.2
  obtain ⟨k1, k2, k3⟩ := cR_bd r1 ⟨r2, by omega⟩ (T := 2 * r.p) (by omega) m
  have eN : c0N l g p = chRaw l (spanN l p) p * gLen g (grN g p) - gRaw g (grN g p) p * slen l (spanN l p) := rfl
  have eD : c0D l g p = slen l (spanN l p) * gLen g (grN g p) := rfl
  have eR : cRn l r g p = rN (c0N l g p) (c0D l g p) * (2 * r.p) - r.w * (pX l p * pY l p) * rD (c0N l g p) (c0D l g p) := rfl
  have eS : cRd l r g p = rD (c0N l g p) (c0D l g p) * (2 * r.p) := rfl
  have HRed := Lib.hid (fun W => l2Reduce_g (c0N l g p) (c0D l g p) W (by rw [eN]; omega) (by rw [eN]; omega) q3.1 (by rw [eD]; omega))
  have HLe : Hid (∀ j, j < grN g p → (gth g (j + 1)).a < p) := Lib.hid (fun j hj => grN_least hj)
  have hLd : (gth g (grN g p + 1)).a - (gth g (grN g p)).a = gLen g (grN g p) := rfl
  have hRd : (gth g (grN g p)).h * ((gth g (grN g p + 1)).a - p) + (gth g (grN g p + 1)).h * (p - (gth g (grN g p)).a) = gRaw g (grN g p) p := rfl
  have hlt := ga.lt
  have h8 := ga.eight
  have hlo := ga.lo
  have hhi := ga.hi
  have ha0 := ga.a0
  have ha1 := ga.a1
  have hh0 := ga.h0
  have hh1 := ga.h1
  have u1 := mulB hh0 (y := (gth g (grN g p + 1)).a - p) (by omega)
  have u2 := mulB hh1 (y := p - (gth g (grN g p)).a) (by omega)
  obtain ⟨a, oa, ca, rfl, hla, hm, hs⟩ := hr1.at_GP (by omega)
  have HA := Lib.hid hs
  generalize cRn l r g p = RN at *
  generalize cRd l r g p = RD at *
  generalize c0N l g p = CN at *
  generalize c0D l g p = CD at *
  clear hr0 hr1 hs ga hg ho hon h hxy
  generalize grN g p = z at *
  generalize gRaw g z p = G at *
  generalize gLen g z = Ln at *
  generalize chRaw l (spanN l p) p = C at *
  generalize slen l (spanN l p) = L at *
  generalize pX l p = X at *
  generalize pY l p = Y at *
  have a1 : r.w * X * Y = r.w * (X * Y) := Int.mul_assoc _ _ _
  generalize r.w * (X * Y) = WE at *
  generalize rN CN CD = N1 at *
  generalize rD CN CD = D1 at *
  have a2 : N1 * 2 * r.p = N1 * (2 * r.p) := Int.mul_assoc _ _ _
  have a3 : D1 * 2 * r.p = D1 * (2 * r.p) := Int.mul_assoc _ _ _
  generalize hNP : N1 * (2 * r.p) = NP at *
  generalize hDP : D1 * (2 * r.p) = DP at *
  have s1 : IntKind.i64.wrap (C * Ln) = C * Ln := IntWalk.i64_in _ (by omega)
  have s2 : IntKind.i64.wrap (G * L) = G * L := IntWalk.i64_in _ (by omega)
  have s3 : IntKind.i64.wrap (C * Ln - G * L) = CN := by rw [← eN]; exact IntWalk.i64_in _ (by omega)
  have s4 : IntKind.i64.wrap (L * Ln) = CD := by rw [← eD]; exact IntWalk.i64_in _ (by omega)
  have s5 : IntKind.i64.wrap (N1 * 2) = N1 * 2 := IntWalk.i64_in _ (by omega)
  have s6 : IntKind.i64.wrap (N1 * 2 * r.p) = NP := by rw [a2]; exact IntWalk.i64_in _ (by omega)
  have s7 : IntKind.i64.wrap (r.w * X) = r.w * X := IntWalk.i64_in _ (by omega)
  have s8 : IntKind.i64.wrap (r.w * X * Y) = WE := by rw [a1]; exact IntWalk.i64_in _ (by omega)
  have s9 : IntKind.i64.wrap (WE * D1) = WE * D1 := IntWalk.i64_in _ (by omega)
  have s10 : IntKind.i64.wrap (NP - WE * D1) = RN := by rw [eR]; exact IntWalk.i64_in _ (by omega)
  have s11 : IntKind.i64.wrap (D1 * 2) = D1 * 2 := IntWalk.i64_in _ (by omega)
  have s12 : IntKind.i64.wrap (D1 * 2 * r.p) = RD := by rw [a3, ← eS]; exact IntWalk.i64_in _ (by omega)
  clear a1 a2 a3 hNP hDP q1 q2 q3 m m0 r1 r2 r3 r4 k1 k2 k3 hE hx0 hy0 hsm eN eD eR eS hC hL hG hW
  go_enter Try.func79, Try.ntmps79
  go_wp2_with fail
  refine (HCh.out _ HR.out).mono ?_
  rintro e w1 ⟨rfl, b1⟩
  have HR1 := Lib.hid (HR.out.below b1 rfl)
  go_wp2_with fail
  refine (HPa.out _ HR1.out).mono ?_
  rintro e w2 ⟨rfl, d2⟩
  have hb2 := Drew.below_trans b1 d2
  obtain ⟨k0, k1⟩ := HX.out w2 (by simpa using hb2)
  have B2 := Lib.hid (HB0.out.trans (hb2.mono HB0.out.size))
  have hz2 : w.heap.size < w2.heap.size := by have := hb2.size; simp at this; omega
  have HC := Lib.hid (fun i (hi : i < g.length) => HA.out.below B2.out hla i hi)
  have hla2 : a < w2.heap.size := by omega
  clear d2 b1 hb2 HR HR1 HX HB0 HCh HPa
  go_wp2_with fail
  go_loop [14] (fun i => ∃ k : Nat, k ≤ z ∧ i = .int .i64 (k : Int)) (fun i => g.length - (intOf i).toNat)
  case atStart => exact ⟨0, by omega, rfl⟩
  case round =>
    obtain ⟨k, hk, rfl⟩ := hrel
    obtain ⟨c0, _⟩ := HC.out (k + 1) (by omega)
    have hi1 : k + 1 < g.length := by omega
    obtain ⟨p1, p2, p3⟩ := succ_in k (by omega)
    have hi2 : (k : Int) + 1 < (g.length : Int) := by omega
    by_cases hlt1 : k < z
    · have hx := HLe.out k hlt1
      clear hhi hLd hRd u1 u2
      generalize (gth g (k + 1)).a = B at *
      go_wp2
      go_round
      case rel => exact ⟨k + 1, by omega, by go_num⟩
      case measure => simp [intOf]; omega
    · obtain rfl : k = z := by omega
      obtain ⟨d0, d1⟩ := HC.out k (by omega)
      obtain ⟨_, c1⟩ := HC.out (k + 1) (by omega)
      have t1 : IntKind.i64.wrap ((gth g (k + 1)).a - (gth g k).a) = Ln := by rw [hLd]; exact IntWalk.i64_in _ (by omega)
      have t2 : IntKind.i64.wrap ((gth g (k + 1)).a - p) = (gth g (k + 1)).a - p := IntWalk.i64_in _ (by omega)
      have t3 : IntKind.i64.wrap (p - (gth g k).a) = p - (gth g k).a := IntWalk.i64_in _ (by omega)
      have t4 : IntKind.i64.wrap ((gth g k).h * ((gth g (k + 1)).a - p)) = (gth g k).h * ((gth g (k + 1)).a - p) := IntWalk.i64_in _ (by omega)
      have t5 : IntKind.i64.wrap ((gth g (k + 1)).h * (p - (gth g k).a)) = (gth g (k + 1)).h * (p - (gth g k).a) := IntWalk.i64_in _ (by omega)
      have t6 : IntKind.i64.wrap ((gth g k).h * ((gth g (k + 1)).a - p) + (gth g (k + 1)).h * (p - (gth g k).a)) = G := by rw [hRd]; rw [← hRd]; exact IntWalk.i64_in _ (by omega)
      clear hLd hRd u1 u2 HLe HC
      have hi0 : k < g.length := by omega
      have p6 : (k : Int) < (g.length : Int) := by omega
      generalize (gth g (k + 1)).a = B at *
      generalize (gth g k).a = A at *
      generalize (gth g (k + 1)).h = J at *
      generalize (gth g k).h = H at *
      go_wp2_with fail
      go_region_held3 (fun w' => w'.cell? ⟨a, oa + k * 2, none⟩ = some (.int .i64 A) ∧ w'.cell? ⟨a, oa + k * 2 + 1, none⟩ = some (.int .i64 H) ∧ w'.cell? ⟨a, oa + (k + 1) * 2, none⟩ = some (.int .i64 B) ∧ w'.cell? ⟨a, oa + (k + 1) * 2 + 1, none⟩ = some (.int .i64 J)) (go_keep) (fail)
      all_goals clear p1 p2 p3
      all_goals (go_wp2_with fail)
      all_goals refine (HRed.out _).mono ?_
      all_goals rintro e w9 ⟨rfl, ⟨n9, rfl⟩⟩
      all_goals (go_wp2_with fail; go_quiet (fail); go_wp2; go_ret2)
      all_goals refine ⟨rfl, ?_⟩
      all_goals refine Below.trans B2.out (Below.mono (B := w2.heap.size) ?_ B2.out.size)
      all_goals repeat (first | with_reducible exact Below.refl _ _ | with_reducible refine Below.alloc ?_ (by simp; try omega) _ | with_reducible refine below_drewN ?_ _ | with_reducible refine Below.drew ?_)
end Go.Proofs.Yteglekfiannncaa
