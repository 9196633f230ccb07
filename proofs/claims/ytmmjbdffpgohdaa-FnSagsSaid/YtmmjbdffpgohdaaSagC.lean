/- The sag, with and without a load: the program's and the specification's answer as one function. Condition: sizes. -/
import Derived.Test.YtmmjbdffpgohdaaPartsC
namespace Go.Proofs.Ytmmjbdffpgohdaa
open Go.RowKit
set_option linter.unusedVariables false
theorem rats_lit2 {W : World} {a b c d : Int} {t : TypeId} {g : Nat} (hg : g = W.heap.size) : Rs (W.alloc (.cells #[.int .i64 a, .int .i64 b, .int .i64 c, .int .i64 d] t)) (.slice (some ⟨g, 0, none⟩) 2 2) 2 (rats [⟨a, b⟩, ⟨c, d⟩]) := by
  subst hg
  exact Rs.of_own (base := 0) (e := t) (size := 2) (World.ownsRow_lit W #[.int .i64 a, .int .i64 b, .int .i64 c, .int .i64 d] 2 (Nat.zero_le _) (by unfold maxLen; omega) rfl)
theorem rats_lit3 {W : World} {a b c d e f : Int} {t : TypeId} {g : Nat} (hg : g = W.heap.size) : Rs (W.alloc (.cells #[.int .i64 a, .int .i64 b, .int .i64 c, .int .i64 d, .int .i64 e, .int .i64 f] t)) (.slice (some ⟨g, 0, none⟩) 3 3) 3 (rats [⟨a, b⟩, ⟨c, d⟩, ⟨e, f⟩]) := by
  subst hg
  exact Rs.of_own (base := 0) (e := t) (size := 2) (World.ownsRow_lit W #[.int .i64 a, .int .i64 b, .int .i64 c, .int .i64 d, .int .i64 e, .int .i64 f] 3 (Nat.zero_le _) (by unfold maxLen; omega) rfl)
theorem rats_lit2a {W : World} {a b c d : Int} {t : TypeId} {g : Nat} {o : Obj} (hg : g = W.heap.size) : Rs ((W.alloc (.cells #[.int .i64 a, .int .i64 b, .int .i64 c, .int .i64 d] t)).alloc o) (.slice (some ⟨g, 0, none⟩) 2 2) 2 (rats [⟨a, b⟩, ⟨c, d⟩]) :=
  (rats_lit2 hg).below ((Below.refl _ _).alloc (Nat.le_refl _) o) rfl
theorem rats_lit3a {W : World} {a b c d e f : Int} {t : TypeId} {g : Nat} {o : Obj} (hg : g = W.heap.size) : Rs ((W.alloc (.cells #[.int .i64 a, .int .i64 b, .int .i64 c, .int .i64 d, .int .i64 e, .int .i64 f] t)).alloc o) (.slice (some ⟨g, 0, none⟩) 3 3) 3 (rats [⟨a, b⟩, ⟨c, d⟩, ⟨e, f⟩]) :=
  (rats_lit3 hg).below ((Below.refl _ _).alloc (Nat.le_refl _) o) rfl
/-- The box that was made ahead of a call, behind it. -/
theorem box_after {X W' : World} {x y : Value} {t : TypeId} {g : Nat} (hg : X.heap[g]? = some (.cells #[x, y] t (0, 0))) (h : Below X.heap.size X W') :
    W'.cell? ⟨g, 0, none⟩ = some x ∧ W'.cell? ⟨g, 1, none⟩ = some y ∧ W'.frozen? ⟨g, 0, none⟩ = false ∧ W'.frozen? ⟨g, 1, none⟩ = false := by
  have K := (h.block g ((Array.getElem?_eq_some_iff.1 hg).1)).trans hg
  have p0 := cell_of_row W' g 0 _ _ _ K
  have p1 := cell_of_row W' g 1 _ _ _ K
  have m0 := frozen_of_row W' g 0 _ _ K
  have m1 := frozen_of_row W' g 1 _ _ K
  simp at p0 p1
  exact ⟨p0, p1, m0, m1⟩
theorem old_alloc {W : World} {o o' : Obj} {g : Nat} (h : W.heap[g]? = some o) : (W.alloc o').heap[g]? = some o := by
  have hl := (Array.getElem?_eq_some_iff.1 h).1
  exact (((Below.refl W.heap.size W).alloc (Nat.le_refl _) o').block g hl).trans h
theorem new_alloc {W : World} {o : Obj} {g : Nat} (hg : g = W.heap.size) : (W.alloc o).heap[g]? = some o := by subst hg; exact heap_alloc_new W o
theorem asz (W : World) (o : Obj) : W.heap.size + 1 = (W.alloc o).heap.size := by simp
theorem asz' (W : World) (n : Nat) (o : Obj) : W.heap.size + 1 = ((W.drewN n).alloc o).heap.size := by simp
theorem old_drewN {W : World} {o : Obj} {g n : Nat} (h : W.heap[g]? = some o) : (W.drewN n).heap[g]? = some o := h
theorem ret3 {a b c d : Int} {p q : Bool} (h : a = c) (g : b = d) (k : p = q) : Ending.returned (.tuple #[.int .i64 a, .int .i64 b, .bool p]) = .returned (.tuple #[.int .i64 c, .int .i64 d, .bool q]) := by rw [h, g, k]
theorem ld_no {l : List Sup} {r : Rp} {p q : Int} (h : ldOk l r p q = false) : ldN l r p q = 0 ∧ ldD l r p q = 0 := by simp [ldN, ldD, h]
theorem sg_no {l : List Sup} {r : Rp} {p : Int} (h : sgOk l r p = false) : sgN l r p = 0 ∧ sgD l r p = 0 := by simp [sgN, sgD, h]
set_option maxRecDepth 100000 in
set_option maxHeartbeats 4000000 in
theorem implLoadedSag_c (v : Value) (l : List Sup) (r : Rp) (p q : Int) (w : World) (hr : Rs w v l.length (sups l)) (hn : l.length ≤ 1048576) (hp : (Lit.int .i64 p).wf = true) (hq0 : (Lit.int .i64 q).wf = true) :
    Calls Try.prog 8 #[v, .agg #[.int .i64 r.w, .int .i64 r.p], .int .i64 p, .int .i64 q] w fun e w' => e = .returned (.tuple #[.int .i64 (ldN l r p q), .int .i64 (ldD l r p q), .bool (ldOk l r p q)]) ∧ Below w.heap.size w w' := by
  have HP := Lib.hid hp
  have hD : ldOk l r p q = (onL l p && isR r && inR q 0 20000) := rfl
  have E1 := Lib.hid (fun W => implIsRope_c r W)
  have E2 := Lib.hid (fun W => within_c q 0 20000 W)
  have HX := Lib.hid (fun W h => box_Rp w r 26 _ rfl W h)
  have HR := Lib.hid (hr.below ((Below.refl _ _).alloc (Nat.le_refl _) (.cells #[.int .i64 r.w, .int .i64 r.p] 26)) rfl)
  have HB0 : Hid (Below w.heap.size w (w.alloc (.cells #[.int .i64 r.w, .int .i64 r.p] 26))) := Lib.hid ((Below.refl _ _).alloc (Nat.le_refl _) _)
  clear hp
  by_cases hok : ldOk l r p q = true
  · skip
    have hok' := hok
    rw [hD, Bool.and_eq_true, Bool.and_eq_true] at hok'
    obtain ⟨⟨ho, hR⟩, hq⟩ := hok'
    have HOn := onAt ho
    have h3 : spanOf l p = ((spanN l p : Nat) : Int) := by simp [spanOf, ho]
    have HO := Lib.hid (And.intro h3 ho)
    rw [hR] at E1
    rw [hq] at E2
    have hRb := (isR_iff r).1 hR
    have hqb := (inR_iff q 0 20000).1 hq
    have HOK := Lib.hid hok
    have hxy := xyOk HOn
    have hE := hxy.bd
    have hs0 := hxy.s0
    have hs1 := hxy.s1
    have hlt := HOn.lt
    have h8 := HOn.line.eight
    have HL := Lib.hid HOn.line
    have HON := Lib.hid HOn
    have HV : Hid (ldN l r p q = rN (r.w * (pX l p * pY l p) * slen l (spanN l p) + 2 * q * (pX l p * pY l p)) (2 * r.p * slen l (spanN l p)) ∧ ldD l r p q = rD (r.w * (pX l p * pY l p) * slen l (spanN l p) + 2 * q * (pX l p * pY l p)) (2 * r.p * slen l (spanN l p))) := Lib.hid ⟨by simp [ldN, hok, ldRaw], by simp [ldD, hok, ldRaw]⟩
    have HDP := Lib.hid (fun W hW => distancesProduct_c v l p W hW HOn)
    have HSL := Lib.hid (fun W hW => spanLength_c v l (spanN l p) W hW HOn.line hlt)
    clear hok hD ho hR hq HOn h3 hxy
    generalize spanN l p = z at *
    generalize slen l z = S at *
    generalize pX l p * pY l p = E at *
    have m1 := mulBd (A := 200) (B := 9000000) (by omega : 0 ≤ r.w) hRb.1.2 hE.1 hE.2
    have m2 := mulBd (A := 20000) (B := 9000000) (by omega : 0 ≤ q) hqb.2 hE.1 hE.2
    have m3 := mulBd (A := 3000) (B := 100000) (by omega : 0 ≤ S) hs1 (by omega : 0 ≤ r.p) hRb.2.2
    have m4 := Int.mul_pos hs0 (by omega : 0 < r.p)
    have HFI := Lib.hid (fine2 (a := r.w * E) (b := 2 * r.p) (c := q * E) (d := S * r.p) 1800000000 200000 180000000000 300000000 (by omega) (by omega) (by omega) (by omega) (by omega) (by omega) (by omega) (by omega) (by omega))
    have HSU := Lib.hid (sum2 (r.w * E) (2 * r.p) (q * E) (S * r.p) (by omega) m4)
    have HEQ := Lib.hid (ld_sum (w := r.w) (p := r.p) (q := q) (e := E) (s := S) (by omega) hs0)
    have HSum : Hid (∀ W v', Rs W v' 2 (rats [⟨r.w * E, 2 * r.p⟩, ⟨q * E, S * r.p⟩]) → Calls Try.prog 62 #[v'] W fun e w' => e = .returned (.agg #[.int .i64 (ldN l r p q), .int .i64 (ldD l r p q)]) ∧ Below W.heap.size W w') := Lib.hid (fun W v' h => by
      have := sumOf_c v' [⟨r.w * E, 2 * r.p⟩, ⟨q * E, S * r.p⟩] W h (by simp) HFI.out
      rw [HSU.out, HEQ.out.1, HEQ.out.2, ← HV.out.1, ← HV.out.2] at this
      exact this)
    clear HFI HSU HEQ HV
    have s1 : IntKind.i64.wrap (r.w * E) = r.w * E := IntWalk.i64_in _ (by omega)
    have s2 : IntKind.i64.wrap (2 * r.p) = 2 * r.p := IntWalk.i64_in _ (by omega)
    have s3 : IntKind.i64.wrap (q * E) = q * E := IntWalk.i64_in _ (by omega)
    have s4 : IntKind.i64.wrap (S * r.p) = S * r.p := IntWalk.i64_in _ (by omega)
    go_enter Try.func8, Try.ntmps8
    go_wp2_with fail
    refine (implSpanAt_c _ l p _ HR.out hn HP.out).mono ?_
    rw [HO.out.1, HO.out.2]
    rintro e w1 ⟨rfl, b1⟩
    have HR1 := Lib.hid (HR.out.below b1 rfl)
    have B1 := Lib.hid (HB0.out.trans (b1.mono HB0.out.size))
    have HX1 := Lib.hid (fun W (h : Below w1.heap.size w1 W) => HX.out W ((show Below (w.heap.size + 1) _ w1 by simpa using b1).trans (h.mono (by have := b1.size; simpa using this))))
    have hz1 : w.heap.size < w1.heap.size := by have := b1.size; simp at this; omega
    clear b1 HR HX HB0
    obtain ⟨k0, k1⟩ := HX1.out w1 (Below.refl _ _)
    go_wp2_with fail
    refine (E1.out _).mono ?_
    rintro e w2 ⟨rfl, b2⟩
    go_wp2_with fail
    refine (E2.out _).mono ?_
    rintro e w3 ⟨rfl, rfl⟩
    have HR2 := Lib.hid (HR1.out.below b2 rfl)
    have B2 := Lib.hid (B1.out.trans (b2.mono B1.out.size))
    have HX2 := Lib.hid (fun W (h : Below w3.heap.size w3 W) => HX1.out W (b2.trans (h.mono b2.size)))
    have hz2 : w.heap.size < w3.heap.size := by have := b2.size; omega
    clear b2 HR1 HX1 B1 k0 k1 hz1
    go_wp2_with fail
    refine (HDP.out _ HR2.out).mono ?_
    rintro e w4 ⟨rfl, d4⟩
    have HR4 := Lib.hid (d4.rs HR2.out)
    have B4 := Lib.hid (Drew.below_trans B2.out d4)
    have HX4 := Lib.hid (fun W (h : Below w4.heap.size w4 W) => HX2.out W ((d4.below _).trans (h.mono (by rw [d4.size]; exact Nat.le_refl _))))
    have hz4 : w.heap.size < w4.heap.size := by rw [d4.size]; exact hz2
    have hz5 : w.heap.size ≠ w4.heap.size + 1 := by omega
    clear d4 HR2 HX2 B2 hz2
    obtain ⟨k0, k1⟩ := HX4.out w4 (Below.refl _ _)
    go_wp2_with fail
    go_region_held3 (fun w' => w'.cell? ⟨w.heap.size, 0, none⟩ = some (.int .i64 r.w) ∧ w'.cell? ⟨w.heap.size, 1, none⟩ = some (.int .i64 r.p)) (first | go_keep | exact HX4.out _ ((t6.setCell (Nat.le_succ _) _).setCell (Nat.le_succ _) _) | exact HX4.out _ ((t6.setCell (Nat.le_refl _) _).setCell (Nat.le_refl _) _))
      (first
        | (go_at_call 63; refine (HSL.out _ (HR4.out.below ?_ rfl)).mono ?_; (first | exact (Below.refl _ _).drew | exact ((Below.refl _ _).alloc (Nat.le_refl _) _).drew); rintro e w5 ⟨rfl, ⟨n5, rfl⟩⟩)
        | (go_at_call 62; refine (HSum.out _ _ ?_).mono ?_; (first | exact rats_lit2 (by simp) | exact rats_lit2a (by simp)); rintro e w6 ⟨rfl, b6⟩; have t6 : Below w4.heap.size w4 w6 := Below.trans (by repeat (first | exact below_drewN (Below.refl _ _) _ | exact Below.refl _ _ | refine Below.alloc ?_ (by simp) _ | refine below_drewN ?_ _)) (b6.mono (by simp; try omega)); obtain ⟨k5, k6⟩ := HX4.out w6 t6; (first | (have ub : w6.cell? ⟨w4.heap.size + 1, 0, none⟩ = some (.int .i64 0) ∧ w6.cell? ⟨w4.heap.size + 1, 1, none⟩ = some (.int .i64 0) ∧ w6.frozen? ⟨w4.heap.size + 1, 0, none⟩ = false ∧ w6.frozen? ⟨w4.heap.size + 1, 1, none⟩ = false := (by first | exact box_after (new_alloc (asz _ _)) b6 | exact box_after (new_alloc (asz' _ _ _)) b6 | fail); obtain ⟨u0, u1, u2, u3⟩ := ub) | (have ub : w6.cell? ⟨w4.heap.size, 0, none⟩ = some (.int .i64 0) ∧ w6.cell? ⟨w4.heap.size, 1, none⟩ = some (.int .i64 0) ∧ w6.frozen? ⟨w4.heap.size, 0, none⟩ = false ∧ w6.frozen? ⟨w4.heap.size, 1, none⟩ = false := (by first | exact box_after (old_alloc (new_alloc rfl)) b6 | fail); obtain ⟨u0, u1, u2, u3⟩ := ub) | (have ub : w6.cell? ⟨w4.heap.size, 0, none⟩ = some (.int .i64 0) ∧ w6.cell? ⟨w4.heap.size, 1, none⟩ = some (.int .i64 0) ∧ w6.frozen? ⟨w4.heap.size, 0, none⟩ = false ∧ w6.frozen? ⟨w4.heap.size, 1, none⟩ = false := (by first | exact box_after (old_alloc (old_drewN (new_alloc rfl))) b6 | fail); obtain ⟨u0, u1, u2, u3⟩ := ub) | skip))
        | fail)
    all_goals have T6 := Lib.hid (B4.out.trans (t6.mono B4.out.size))
    all_goals have hz6 : w.heap.size ≤ w4.heap.size + 1 := by omega
    all_goals have hz7 : w.heap.size ≤ w4.heap.size := by omega
    all_goals clear b6 t6 k0 k1 k5 k6 s1 s2 s3 s4 HX4 HR4 B4 HSum HSL HDP HL HON m1 m2 m3 m4
    all_goals (go_wp2_with fail; go_quiet (fail); go_wp2; go_ret3)
    all_goals refine ⟨by rw [HOK.out]; rfl, ?_⟩
    all_goals first | exact below_drewN (T6.out.alloc T6.out.size _) _ | exact below_drewN ((T6.out.setCell hz6 _).setCell hz6 _) _ | exact below_drewN ((T6.out.setCell hz7 _).setCell hz7 _) _
  · have hf : ldOk l r p q = false := by simpa using hok
    obtain ⟨e1, e2⟩ := ld_no hf
    rw [e1, e2, hf]
    rw [hf] at hD
    have HD := Lib.hid hD.symm
    clear hok e1 e2 hf hD
    have HSP : Hid (∃ x, spanOf l p = x) := Lib.hid ⟨_, rfl⟩
    have HBE := Lib.hid (fun W => implSpanAt_c v l p W)
    cases ho : onL l p with
    | false =>
      rw [ho] at HBE
      clear E1 E2 HX HD
      generalize spanOf l p = sp at *
      go_enter Try.func8, Try.ntmps8
      go_wp2_with fail
      refine (HBE.out _ HR.out hn HP.out).mono ?_
      rintro e w1 ⟨rfl, b1⟩
      go_wp2
      go_ret3
      exact ⟨rfl, HB0.out.trans (b1.mono HB0.out.size)⟩
    | true =>
      rw [ho] at HBE HD
      generalize spanOf l p = sp at *
      cases hi : isR r with
      | false =>
        rw [hi] at E1
        clear E2 HD
        go_enter Try.func8, Try.ntmps8
        go_wp2_with fail
        refine (HBE.out _ HR.out hn HP.out).mono ?_
        rintro e w1 ⟨rfl, b1⟩
        obtain ⟨k0, k1⟩ := HX.out w1 (by simpa using b1)
        go_wp2_with fail
        refine (E1.out _).mono ?_
        rintro e w2 ⟨rfl, b2⟩
        go_wp2
        go_ret3
        have h1 := HB0.out.trans (b1.mono HB0.out.size)
        exact ⟨rfl, h1.trans (b2.mono h1.size)⟩
      | true =>
        rw [hi] at E1 HD
        have hq : inR q 0 20000 = false := by simpa using HD.out
        rw [hq] at E2
        clear HD
        go_enter Try.func8, Try.ntmps8
        go_wp2_with fail
        refine (HBE.out _ HR.out hn HP.out).mono ?_
        rintro e w1 ⟨rfl, b1⟩
        obtain ⟨k0, k1⟩ := HX.out w1 (by simpa using b1)
        go_wp2_with fail
        refine (E1.out _).mono ?_
        rintro e w2 ⟨rfl, b2⟩
        go_wp2_with fail
        refine (E2.out _).mono ?_
        rintro e w3 ⟨rfl, rfl⟩
        go_wp2
        go_ret3
        have h1 := HB0.out.trans (b1.mono HB0.out.size)
        exact ⟨rfl, h1.trans (b2.mono h1.size)⟩
set_option maxHeartbeats 1000000 in
theorem implSagAt_c (v : Value) (l : List Sup) (r : Rp) (p : Int) (w : World) (hr : Rs w v l.length (sups l)) (hn : l.length ≤ 1048576) (hp : (Lit.int .i64 p).wf = true) :
    Calls Try.prog 12 #[v, .agg #[.int .i64 r.w, .int .i64 r.p], .int .i64 p] w fun e w' => e = .returned (.tuple #[.int .i64 (sgN l r p), .int .i64 (sgD l r p), .bool (sgOk l r p)]) ∧ Below w.heap.size w w' := by
  obtain ⟨z1, z2, z3⟩ := ld_zero l r p
  have HR := Lib.hid (hr.below ((Below.refl _ _).alloc (Nat.le_refl _) (.cells #[.int .i64 r.w, .int .i64 r.p] 26)) rfl)
  have HB0 : Hid (Below w.heap.size w (w.alloc (.cells #[.int .i64 r.w, .int .i64 r.p] 26))) := Lib.hid ((Below.refl _ _).alloc (Nat.le_refl _) _)
  have HC := Lib.hid (fun W hW => implLoadedSag_c v l r p 0 W hW hn hp rfl)
  rw [z1, z2, z3] at HC
  clear hr hp z1 z2 z3
  generalize sgN l r p = N at *
  generalize sgD l r p = D at *
  generalize sgOk l r p = B at *
  go_enter Try.func12, Try.ntmps12
  go_wp2_with fail
  refine (HC.out _ HR.out).mono ?_
  rintro e w1 ⟨rfl, b1⟩
  go_wp2
  go_ret3
  exact ⟨rfl, HB0.out.trans (b1.mono HB0.out.size)⟩
end Go.Proofs.Ytmmjbdffpgohdaa
