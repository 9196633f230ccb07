/- spec.NextWind. Condition: none. -/
import Derived.Test.YtoamhbobcpljpaaWndE
import Derived.Test.YtoamhbobcpljpaaBlk2
namespace Go.Proofs.Ytoamhbobcpljpaa
open Go.RowKit
set_option linter.unusedVariables false
theorem l12Next_c (r : Wru) (s : Wst) (v : Int) (w : World) (hv : wsV r s = true) :
    Calls Try.prog 66 #[.agg #[.int .i64 r.a, .int .i64 r.b, .int .i64 r.c, .int .i64 r.d], .agg #[.int .i64 s.l, .int .i64 s.c], .int .i64 v] w fun e w' => e = .returned (.agg #[.int .i64 (wnx r s v).l, .int .i64 (wnx r s v).c]) ∧ Below w.heap.size w w' := by
  obtain ⟨L, C⟩ := s
  obtain ⟨_, hs⟩ := (wsV_iff _ _).1 hv
  have hL : L = 0 ∨ L = 1 ∨ L = 2 := by simp only [] at hs; omega
  rcases hL with rfl | rfl | rfl
  · exact l12Next_0 r C v w hv
  · exact l12Next_1 r C v w hv
  · exact l12Next_2 r C v w hv
theorem ret_sb {s t : Wst} {a b : Bool} (h : s = t) (g : a = b) : Ending.returned (.tuple #[.agg #[.int .i64 s.l, .int .i64 s.c], .bool a]) = .returned (.tuple #[.agg #[.int .i64 t.l, .int .i64 t.c], .bool b]) := by rw [h, g]
set_option maxRecDepth 100000 in
set_option maxHeartbeats 4000000 in
theorem specNextWind_c (r : Wru) (s : Wst) (v : Int) (w : World) :
    Calls Try.prog 24 #[.agg #[.int .i64 r.a, .int .i64 r.b, .int .i64 r.c, .int .i64 r.d], .agg #[.int .i64 s.l, .int .i64 s.c], .int .i64 v] w fun e w' => e = .returned (.tuple #[.agg #[.int .i64 (nxR r s v).l, .int .i64 (nxR r s v).c], .bool (nxOk r s v)]) ∧ Below w.heap.size w w' := by
  have HN := Lib.hid (nx_no (r := r) (s := s) (v := v))
  have HY := Lib.hid (nx_yes (r := r) (s := s) (v := v))
  have hd : nxOk r s v = (wsV r s && inR v 0 60) := rfl
  have E0 := Lib.hid (fun W => l12State_c r s W)
  have E1 := Lib.hid (fun W => l12Vote_c v W)
  have E2 : Hid (wsV r s = true → ∀ W, Calls Try.prog 66 #[.agg #[.int .i64 r.a, .int .i64 r.b, .int .i64 r.c, .int .i64 r.d], .agg #[.int .i64 s.l, .int .i64 s.c], .int .i64 v] W fun e w' => e = .returned (.agg #[.int .i64 (wnx r s v).l, .int .i64 (wnx r s v).c]) ∧ Below W.heap.size W w') := Lib.hid (fun h W => l12Next_c r s v W h)
  generalize nxR r s v = A at *
  generalize wnx r s v = D at *
  generalize nxOk r s v = b at *
  have HD := Lib.hid hd
  clear hd
  generalize wsV r s = b1 at *
  generalize inR v 0 60 = b2 at *
  have K0 := Lib.hid (three_new w (.cells #[.int .i64 r.a, .int .i64 r.b, .int .i64 r.c, .int .i64 r.d] 25) (.cells #[.int .i64 s.l, .int .i64 s.c] 27) (.int .i64 0) (.int .i64 0) 27)
  have HC : Hid (∀ W, Below (w.heap.size + 3) (((w.alloc (.cells #[.int .i64 r.a, .int .i64 r.b, .int .i64 r.c, .int .i64 r.d] 25)).alloc (.cells #[.int .i64 s.l, .int .i64 s.c] 27)).alloc (.cells #[.int .i64 0, .int .i64 0] 27)) W → _) := Lib.hid (fun W h => box_rs w r s 25 27 W (((Below.refl _ _).alloc (by simp) _).trans (h.mono (by omega))))
  have HT0 := Lib.hid (l12_below3 w (.cells #[.int .i64 r.a, .int .i64 r.b, .int .i64 r.c, .int .i64 r.d] 25) (.cells #[.int .i64 s.l, .int .i64 s.c] 27) (.cells #[.int .i64 0, .int .i64 0] 27))
  have hs0 : (((w.alloc (.cells #[.int .i64 r.a, .int .i64 r.b, .int .i64 r.c, .int .i64 r.d] 25)).alloc (.cells #[.int .i64 s.l, .int .i64 s.c] 27)).alloc (.cells #[.int .i64 0, .int .i64 0] 27)).heap.size = w.heap.size + 3 := by simp
  go_enter Try.func24, Try.ntmps24
  go_wp2_with fail
  generalize ((w.alloc (.cells #[.int .i64 r.a, .int .i64 r.b, .int .i64 r.c, .int .i64 r.d] 25)).alloc (.cells #[.int .i64 s.l, .int .i64 s.c] 27)).alloc (.cells #[.int .i64 0, .int .i64 0] 27) = W0 at *
  refine (E0.out _).mono ?_
  rintro e w1 ⟨rfl, t1⟩
  have T1 := Lib.hid (HT0.out.trans (t1.mono (by omega)))
  have K1 := blk_keep K0.out t1 (by omega)
  have HK1 := Lib.hid K1
  have hz1 := t1.size
  cases b1 with
  | false =>
    obtain ⟨p0, p1⟩ := blk_cell2 HK1.out
    obtain ⟨m0, m1⟩ := blk_froz2 HK1.out
    obtain ⟨z0, z1⟩ := blk_cell2 (blk_all2 (x := .int .i64 (0)) (y := .int .i64 (0)) HK1.out)
    have Z0 := Lib.hid z0
    have Z1 := Lib.hid z1
    clear z0 z1
    clear K1
    go_wp2
    refine bodyPost_ret (v := .tuple #[.agg #[.int .i64 0, .int .i64 0], .bool false]) (by simp [results, Try.results24, go_sem, Z0.out, Z1.out]) rfl ⟨ret_sb (s := ⟨0, 0⟩) (by rw [HN.out (by rw [HD.out]; rfl)]) (by rw [HD.out]; rfl), ?_⟩
    exact below_all2 T1.out (by omega) _ _
  | true =>
    have HR := Lib.hid (E2.out rfl)
    clear E2
    obtain ⟨⟨c0, c1, c2, c3⟩, d0, d1⟩ := HC.out w1 (by rw [← hs0]; exact t1)
    clear HC
    go_wp2_with fail
    refine (E1.out _).mono ?_
    rintro e w2 ⟨rfl, rfl⟩
    cases b2 with
    | false =>
      obtain ⟨p0, p1⟩ := blk_cell2 HK1.out
      obtain ⟨m0, m1⟩ := blk_froz2 HK1.out
      obtain ⟨z0, z1⟩ := blk_cell2 (blk_all2 (x := .int .i64 (0)) (y := .int .i64 (0)) HK1.out)
      have Z0 := Lib.hid z0
      have Z1 := Lib.hid z1
      clear z0 z1
      clear K1
      go_wp2
      refine bodyPost_ret (v := .tuple #[.agg #[.int .i64 0, .int .i64 0], .bool false]) (by simp [results, Try.results24, go_sem, Z0.out, Z1.out]) rfl ⟨ret_sb (s := ⟨0, 0⟩) (by rw [HN.out (by rw [HD.out]; rfl)]) (by rw [HD.out]; rfl), ?_⟩
      exact below_all2 T1.out (by omega) _ _
    | true =>
      clear K1
      go_wp2_with fail
      refine (HR.out _).mono ?_
      rintro e w3 ⟨rfl, t3⟩
      have T3 := Lib.hid (T1.out.trans (t3.mono T1.out.size))
      have HK3 := Lib.hid (blk_keep HK1.out t3 (by omega))
      clear t3 c0 c1 c2 c3 d0 d1
      obtain ⟨p0, p1⟩ := blk_cell2 HK3.out
      obtain ⟨m0, m1⟩ := blk_froz2 HK3.out
      obtain ⟨z0, z1⟩ := blk_cell2 (blk_all2 (x := .int .i64 (D.l)) (y := .int .i64 (D.c)) HK3.out)
      have Z0 := Lib.hid z0
      have Z1 := Lib.hid z1
      clear z0 z1
      go_wp2
      refine bodyPost_ret (v := .tuple #[.agg #[.int .i64 D.l, .int .i64 D.c], .bool true]) (by simp [results, Try.results24, go_sem, Z0.out, Z1.out]) rfl ⟨ret_sb (by rw [HY.out (by rw [HD.out]; rfl)]) (by rw [HD.out]; rfl), ?_⟩
      exact below_all2 T3.out (by omega) _ _
end Go.Proofs.Ytoamhbobcpljpaa
