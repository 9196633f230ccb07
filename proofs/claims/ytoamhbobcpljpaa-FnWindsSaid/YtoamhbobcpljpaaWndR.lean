/- Lists of votes, and impl.RunWind. Condition: sizes. -/
import Derived.Test.YtoamhbobcpljpaaWndG
import Derived.Test.YtoamhbobcpljpaaProfK
namespace Go.Proofs.Ytoamhbobcpljpaa
open Go.RowKit
set_option linter.unusedVariables false
set_option maxRecDepth 100000 in
set_option maxHeartbeats 2000000 in
theorem l12Votes_c (v : Value) (l : List Int) (w : World) (hr : Rd w v (intVs l)) (hn : l.length ≤ 1048576) :
    Calls Try.prog 56 #[v] w fun e w' => e = .returned (.bool (vtL l)) ∧ Below w.heap.size w w' := by
  obtain ⟨ao, a, oa, ca, rfl, hao, hat⟩ := hr.formR
  have HA := Lib.hid hao
  have HL := Lib.hid hat
  clear hr hao hat
  go_enter Try.func56, Try.ntmps56
  go_wp2
  go_loopw [3] (fun i wr => ∃ k : Nat, k ≤ l.length ∧ i = .int .i64 k ∧ Hid (Below w.heap.size w wr) ∧ Hid (∀ j, j < k → inR (l.getD j 0) 0 60 = true)) (fun i _ => l.length - (intOf i).toNat)
  case atStart => exact ⟨0, by omega, rfl, Lib.hid (Below.refl _ _), Lib.hid (fun j h => by omega)⟩
  case round =>
    obtain ⟨k, hk, rfl, hbel, hno⟩ := hrel
    by_cases hlt : k < l.length
    · obtain ⟨rfl, hla, hlm⟩ := HA.out (by omega)
      have c0 := (HL.out.below hbel.out hla) k hlt
      have HIS := Lib.hid (fun h : inR (l.getD k 0) 0 60 = false => vtL_bad hlt h)
      have HNO : Hid (inR (l.getD k 0) 0 60 = true → ∀ j, j < k + 1 → inR (l.getD j 0) 0 60 = true) := Lib.hid (fun h j hj => by
        by_cases e : j = k
        · subst e; exact h
        · exact hno.out j (by omega))
      generalize l.getD k 0 = D at *
      go_wp2_with fail
      refine (l12Vote_c D _).mono ?_
      rintro e w1 ⟨rfl, rfl⟩
      cases hst : inR D 0 60 with
      | false =>
        have HX := Lib.hid (HIS.out hst).symm
        clear hst
        go_wp2
        go_ret
        exact ⟨ret_b HX.out, hbel.out⟩
      | true =>
        have HN2 := Lib.hid (HNO.out hst)
        clear hst
        go_wp2
        go_roundw
        case rel => exact ⟨k + 1, by omega, by go_num, hbel, HN2⟩
        case measure => simp [intOf]; omega
    · obtain rfl : k = l.length := by omega
      by_cases h5 : l.length ≤ 50
      · have t5 : decide ((l.length : Int) ≤ 50) = true := by simp; omega
        have HX : Hid (true = vtL l) := Lib.hid (vtL_good h5 hno.out).symm
        clear h5
        go_wp2
        go_ret
        exact ⟨ret_b HX.out, hbel.out⟩
      · have t5 : decide ((l.length : Int) ≤ 50) = false := by simp; omega
        have HX : Hid (false = vtL l) := Lib.hid (vtL_long (by omega)).symm
        clear h5
        go_wp2
        go_ret
        exact ⟨ret_b HX.out, hbel.out⟩
theorem ret_lsb {g : Value} {s t : Wst} {a b : Bool} (h : s = t) (k : a = b) : Ending.returned (.tuple #[g, .agg #[.int .i64 s.l, .int .i64 s.c], .bool a]) = .returned (.tuple #[g, .agg #[.int .i64 t.l, .int .i64 t.c], .bool b]) := by rw [h, k]
theorem grown_all2 (w : World) (b : Nat) (x y : Value) : w.grownBy ((w.setCell ⟨b, 0, none⟩ x).setCell ⟨b, 1, none⟩ y) (some b) := (grown_put w ⟨b, 0, none⟩ x).trans (grown_put _ ⟨b, 1, none⟩ y)
theorem own_none {w : World} {B P : Nat} (hP : P = w.heap.size) (h : B ≤ P) : (w.alloc (.cells #[] 3)).ownsRow B 3 1 (.slice (some ⟨P, 0, none⟩) 0 0) ([] : List Int).length (intVs []) := by
  subst hP
  exact World.ownsRow_made w #[] 0 h (by decide) rfl
theorem zero_end {w0 w1 : World} {Q : Nat} (hK : w1.heap[Q]? = some (.cells #[.int .i64 0, .int .i64 0] 27)) (hb : Below w0.heap.size w0 w1) (hQ : w0.heap.size ≤ Q) :
    (((w1.setCell ⟨Q, 0, none⟩ (.int .i64 0)).setCell ⟨Q, 1, none⟩ (.int .i64 0)).alloc (.cells #[] 3)).cell? ⟨Q, 0, none⟩ = some (.int .i64 0) ∧ (((w1.setCell ⟨Q, 0, none⟩ (.int .i64 0)).setCell ⟨Q, 1, none⟩ (.int .i64 0)).alloc (.cells #[] 3)).cell? ⟨Q, 1, none⟩ = some (.int .i64 0) ∧
    (((w1.setCell ⟨Q, 0, none⟩ (.int .i64 0)).setCell ⟨Q, 1, none⟩ (.int .i64 0)).alloc (.cells #[] 3)).ownsRow w0.heap.size 3 1 (.slice (some ⟨w1.heap.size, 0, none⟩) 0 0) ([] : List Int).length (intVs []) ∧ Below w0.heap.size w0 (((w1.setCell ⟨Q, 0, none⟩ (.int .i64 0)).setCell ⟨Q, 1, none⟩ (.int .i64 0)).alloc (.cells #[] 3)) := by
  have h1 := blk_stay (o' := .cells #[] 3) (blk_all2 (x := .int .i64 0) (y := .int .i64 0) hK)
  have h2 := blk_cell2 h1
  have h3 := below_all2 hb hQ (.int .i64 0) (.int .i64 0)
  exact ⟨h2.1, h2.2, own_none (by simp) hb.size, h3.alloc h3.size _⟩
theorem zero_end1 {w0 w1 : World} {Q : Nat} {o : Obj} (hK : w1.heap[Q]? = some (.cells #[.int .i64 0, .int .i64 0] 27)) (hb : Below w0.heap.size w0 w1) (hQ : w0.heap.size ≤ Q) :
    ((((w1.alloc o).alloc (.cells #[] 3)).setCell ⟨Q, 0, none⟩ (.int .i64 0)).setCell ⟨Q, 1, none⟩ (.int .i64 0)).cell? ⟨Q, 0, none⟩ = some (.int .i64 0) ∧ ((((w1.alloc o).alloc (.cells #[] 3)).setCell ⟨Q, 0, none⟩ (.int .i64 0)).setCell ⟨Q, 1, none⟩ (.int .i64 0)).cell? ⟨Q, 1, none⟩ = some (.int .i64 0) ∧
    ((((w1.alloc o).alloc (.cells #[] 3)).setCell ⟨Q, 0, none⟩ (.int .i64 0)).setCell ⟨Q, 1, none⟩ (.int .i64 0)).ownsRow w0.heap.size 3 1 (.slice (some ⟨w1.heap.size + 1, 0, none⟩) 0 0) ([] : List Int).length (intVs []) ∧ Below w0.heap.size w0 ((((w1.alloc o).alloc (.cells #[] 3)).setCell ⟨Q, 0, none⟩ (.int .i64 0)).setCell ⟨Q, 1, none⟩ (.int .i64 0)) := by
  have h2 := blk_cell2 (blk_all2 (x := .int .i64 0) (y := .int .i64 0) (blk_stay (o' := .cells #[] 3) (blk_stay (o' := o) hK)))
  have h4 := hb.alloc hb.size o
  have hl := blk_lt hK
  have h5 := own_none (w := w1.alloc o) (B := w0.heap.size) (P := w1.heap.size + 1) (by simp) (by have := hb.size; omega)
  exact ⟨h2.1, h2.2, own_by h5 (grown_all2 _ Q _ _) (fun e => by simp [Value.ownBlock] at e; omega), below_all2 (h4.alloc h4.size _) hQ _ _⟩
/-- a block of a rule's four cells -/
theorem blk_cell4 {w : World} {b : Nat} {x y z u : Value} {t : TypeId} (h : w.heap[b]? = some (.cells #[x, y, z, u] t (0, 0))) :
    w.cell? ⟨b, 0, none⟩ = some x ∧ w.cell? ⟨b, 1, none⟩ = some y ∧ w.cell? ⟨b, 2, none⟩ = some z ∧ w.cell? ⟨b, 3, none⟩ = some u := by
  have h0 := cell_of_row w b 0 _ _ _ h
  have h1 := cell_of_row w b 1 _ _ _ h
  have h2 := cell_of_row w b 2 _ _ _ h
  have h3 := cell_of_row w b 3 _ _ _ h
  simp at h0 h1 h2 h3
  exact ⟨h0, h1, h2, h3⟩
theorem one_new (w : World) (x y z u : Value) (o2 o3 : Obj) (t : TypeId) : (((w.alloc (.cells #[x, y, z, u] t)).alloc o2).alloc o3).heap[w.heap.size]? = some (.cells #[x, y, z, u] t (0, 0)) := blk_stay (blk_stay (heap_alloc_new w _))

set_option maxRecDepth 100000 in
set_option maxHeartbeats 4000000 in
theorem implRunWind_c (r : Wru) (s : Wst) (v : Value) (l : List Int) (w : World) (hr : Rd w v (intVs l)) (hn : l.length ≤ 1048576) :
    Calls Try.prog 16 #[.agg #[.int .i64 r.a, .int .i64 r.b, .int .i64 r.c, .int .i64 r.d], .agg #[.int .i64 s.l, .int .i64 s.c], v] w fun e w' => ∃ g, e = .returned (.tuple #[g, .agg #[.int .i64 (rnS r s l).l, .int .i64 (rnS r s l).c], .bool (rnOk r s l)]) ∧ w'.ownsRow w.heap.size 3 1 g (rnL r s l).length (intVs (rnL r s l)) ∧ Below w.heap.size w w' := by
  obtain ⟨i0, hi, hy0, hy1, hy2⟩ := info_parts Try.infoIntR
  have HN := Lib.hid (rn_no (r := r) (s := s) (l := l))
  have HY := Lib.hid (rn_yes (r := r) (s := s) (l := l))
  have hd : rnOk r s l = ((wrV r && wsX r s) && vtL l) := rfl
  have E0 := Lib.hid (fun W => implIsWindRule_c r W)
  have E1 := Lib.hid (fun W h => isWindState_c r s W h)
  have HD := Lib.hid hd
  obtain ⟨ao, a, oa, ca, rfl, hao, hat⟩ := hr.formR
  have HA := Lib.hid hao
  have HL := Lib.hid hat
  clear hr hao hat hd
  cases hb0 : wrV r with
  | false =>
    have HO : Hid (rnOk r s l = false) := Lib.hid (by rw [HD.out, hb0]; rfl)
    rw [hb0] at E0
    clear hb0 E1
    have K0 := Lib.hid (three_new w (.cells #[.int .i64 r.a, .int .i64 r.b, .int .i64 r.c, .int .i64 r.d] 25) (.cells #[.int .i64 s.l, .int .i64 s.c] 27) (.int .i64 0) (.int .i64 0) 27)
    have J0 := Lib.hid (two_new w (.cells #[.int .i64 r.a, .int .i64 r.b, .int .i64 r.c, .int .i64 r.d] 25) (.cells #[.int .i64 0, .int .i64 0] 27) (.int .i64 s.l) (.int .i64 s.c) 27)
    have HC : Hid (∀ W, Below (w.heap.size + 3) (((w.alloc (.cells #[.int .i64 r.a, .int .i64 r.b, .int .i64 r.c, .int .i64 r.d] 25)).alloc (.cells #[.int .i64 s.l, .int .i64 s.c] 27)).alloc (.cells #[.int .i64 0, .int .i64 0] 27)) W → _) := Lib.hid (fun W h => box_rs w r s 25 27 W (((Below.refl _ _).alloc (by simp) _).trans (h.mono (by omega))))
    have R0 := Lib.hid (one_new w (.int .i64 r.a) (.int .i64 r.b) (.int .i64 r.c) (.int .i64 r.d) (.cells #[.int .i64 s.l, .int .i64 s.c] 27) (.cells #[.int .i64 0, .int .i64 0] 27) 25)
    have HT0 := Lib.hid (l12_below3 w (.cells #[.int .i64 r.a, .int .i64 r.b, .int .i64 r.c, .int .i64 r.d] 25) (.cells #[.int .i64 s.l, .int .i64 s.c] 27) (.cells #[.int .i64 0, .int .i64 0] 27))
    have hs0 : (((w.alloc (.cells #[.int .i64 r.a, .int .i64 r.b, .int .i64 r.c, .int .i64 r.d] 25)).alloc (.cells #[.int .i64 s.l, .int .i64 s.c] 27)).alloc (.cells #[.int .i64 0, .int .i64 0] 27)).heap.size = w.heap.size + 3 := by simp
    go_enter Try.func16, Try.ntmps16
    go_wp2_with fail
    generalize ((w.alloc (.cells #[.int .i64 r.a, .int .i64 r.b, .int .i64 r.c, .int .i64 r.d] 25)).alloc (.cells #[.int .i64 s.l, .int .i64 s.c] 27)).alloc (.cells #[.int .i64 0, .int .i64 0] 27) = W0 at *
    refine (E0.out _).mono ?_
    rintro e w1 ⟨rfl, t1⟩
    have T1 := Lib.hid (HT0.out.trans (t1.mono (by omega)))
    have HU1 := Lib.hid t1
    have hz1 := t1.size
    have K1 := Lib.hid (blk_keep K0.out t1 (by omega))
    have J1 := Lib.hid (blk_keep J0.out t1 (by omega))
    have R1 := Lib.hid (blk_keep R0.out t1 (by omega))
    obtain ⟨p0, p1⟩ := blk_cell2 K1.out
    obtain ⟨m0, m1⟩ := blk_froz2 K1.out
    have hlt2 := blk_lt K1.out
    obtain ⟨z0, z1, ow, bw⟩ := zero_end (Q := w.heap.size + 1 + 1) K1.out (T1.out) (by omega)
    have Z0 := Lib.hid z0
    have Z1 := Lib.hid z1
    have OW := Lib.hid ow
    have BW := Lib.hid bw
    clear z0 z1 ow bw
    go_wp2
    refine bodyPost_ret (v := .tuple #[.slice (some ⟨w1.heap.size, 0, none⟩) 0 0, .agg #[.int .i64 0, .int .i64 0], .bool false]) (by simp [results, Try.results16, go_sem, Z0.out, Z1.out]) rfl ⟨_, ret_lsb (s := ⟨0, 0⟩) (by rw [(HN.out HO.out).2]) (HO.out).symm, ?_, ?_⟩
    · rw [(HN.out HO.out).1]; exact OW.out
    · exact BW.out
  | true =>
    rw [hb0] at E0
    have K0 := Lib.hid (three_new w (.cells #[.int .i64 r.a, .int .i64 r.b, .int .i64 r.c, .int .i64 r.d] 25) (.cells #[.int .i64 s.l, .int .i64 s.c] 27) (.int .i64 0) (.int .i64 0) 27)
    have J0 := Lib.hid (two_new w (.cells #[.int .i64 r.a, .int .i64 r.b, .int .i64 r.c, .int .i64 r.d] 25) (.cells #[.int .i64 0, .int .i64 0] 27) (.int .i64 s.l) (.int .i64 s.c) 27)
    have HC : Hid (∀ W, Below (w.heap.size + 3) (((w.alloc (.cells #[.int .i64 r.a, .int .i64 r.b, .int .i64 r.c, .int .i64 r.d] 25)).alloc (.cells #[.int .i64 s.l, .int .i64 s.c] 27)).alloc (.cells #[.int .i64 0, .int .i64 0] 27)) W → _) := Lib.hid (fun W h => box_rs w r s 25 27 W (((Below.refl _ _).alloc (by simp) _).trans (h.mono (by omega))))
    have R0 := Lib.hid (one_new w (.int .i64 r.a) (.int .i64 r.b) (.int .i64 r.c) (.int .i64 r.d) (.cells #[.int .i64 s.l, .int .i64 s.c] 27) (.cells #[.int .i64 0, .int .i64 0] 27) 25)
    have HT0 := Lib.hid (l12_below3 w (.cells #[.int .i64 r.a, .int .i64 r.b, .int .i64 r.c, .int .i64 r.d] 25) (.cells #[.int .i64 s.l, .int .i64 s.c] 27) (.cells #[.int .i64 0, .int .i64 0] 27))
    have hs0 : (((w.alloc (.cells #[.int .i64 r.a, .int .i64 r.b, .int .i64 r.c, .int .i64 r.d] 25)).alloc (.cells #[.int .i64 s.l, .int .i64 s.c] 27)).alloc (.cells #[.int .i64 0, .int .i64 0] 27)).heap.size = w.heap.size + 3 := by simp
    go_enter Try.func16, Try.ntmps16
    go_wp2_with fail
    generalize ((w.alloc (.cells #[.int .i64 r.a, .int .i64 r.b, .int .i64 r.c, .int .i64 r.d] 25)).alloc (.cells #[.int .i64 s.l, .int .i64 s.c] 27)).alloc (.cells #[.int .i64 0, .int .i64 0] 27) = W0 at *
    refine (E0.out _).mono ?_
    rintro e w1 ⟨rfl, t1⟩
    have T1 := Lib.hid (HT0.out.trans (t1.mono (by omega)))
    have HU1 := Lib.hid t1
    have hz1 := t1.size
    have K1 := Lib.hid (blk_keep K0.out t1 (by omega))
    have J1 := Lib.hid (blk_keep J0.out t1 (by omega))
    have R1 := Lib.hid (blk_keep R0.out t1 (by omega))
    obtain ⟨⟨c0, c1, c2, c3⟩, d0, d1⟩ := HC.out w1 (by rw [← hs0]; exact t1)
    go_wp2_with fail
    refine (E1.out _ hb0).mono ?_
    rintro e w2 ⟨rfl, t2⟩
    have T2 := Lib.hid (T1.out.trans (t2.mono T1.out.size))
    have K2 := Lib.hid (blk_keep K1.out t2 (blk_lt K1.out))
    have J2 := Lib.hid (blk_keep J1.out t2 (blk_lt J1.out))
    have R2 := Lib.hid (blk_keep R1.out t2 (blk_lt R1.out))
    have hz2 := t2.size
    clear t1 t2 c0 c1 c2 c3 d0 d1 HC K0 J0 R0 K1 J1 R1 HU1 E0 E1 T1
    cases hb1 : wsX r s with
    | false =>
      have HO : Hid (rnOk r s l = false) := Lib.hid (by rw [HD.out, hb0, hb1]; rfl)
      clear hb0 hb1
      obtain ⟨p0, p1⟩ := blk_cell2 K2.out
      obtain ⟨m0, m1⟩ := blk_froz2 K2.out
      have hlt2 := blk_lt K2.out
      obtain ⟨z0, z1, ow, bw⟩ := zero_end (Q := w.heap.size + 1 + 1) K2.out (T2.out) (by omega)
      have Z0 := Lib.hid z0
      have Z1 := Lib.hid z1
      have OW := Lib.hid ow
      have BW := Lib.hid bw
      clear z0 z1 ow bw
      go_wp2
      refine bodyPost_ret (v := .tuple #[.slice (some ⟨w2.heap.size, 0, none⟩) 0 0, .agg #[.int .i64 0, .int .i64 0], .bool false]) (by simp [results, Try.results16, go_sem, Z0.out, Z1.out]) rfl ⟨_, ret_lsb (s := ⟨0, 0⟩) (by rw [(HN.out HO.out).2]) (HO.out).symm, ?_, ?_⟩
      · rw [(HN.out HO.out).1]; exact OW.out
      · exact BW.out
    | true =>
      by_cases h5 : (50 : Int) < (l.length : Int)
      · have t5 : decide ((50 : Int) < (l.length : Int)) = true := by simpa using h5
        have HO : Hid (rnOk r s l = false) := Lib.hid (by rw [HD.out, vtL_long (by omega), Bool.and_false])
        clear hb0 hb1 h5
        obtain ⟨p0, p1⟩ := blk_cell2 K2.out
        obtain ⟨m0, m1⟩ := blk_froz2 K2.out
        have hlt2 := blk_lt K2.out
        obtain ⟨z0, z1, ow, bw⟩ := zero_end (Q := w.heap.size + 1 + 1) K2.out (T2.out) (by omega)
        have Z0 := Lib.hid z0
        have Z1 := Lib.hid z1
        have OW := Lib.hid ow
        have BW := Lib.hid bw
        clear z0 z1 ow bw
        go_wp2
        refine bodyPost_ret (v := .tuple #[.slice (some ⟨w2.heap.size, 0, none⟩) 0 0, .agg #[.int .i64 0, .int .i64 0], .bool false]) (by simp [results, Try.results16, go_sem, Z0.out, Z1.out]) rfl ⟨_, ret_lsb (s := ⟨0, 0⟩) (by rw [(HN.out HO.out).2]) (HO.out).symm, ?_, ?_⟩
        · rw [(HN.out HO.out).1]; exact OW.out
        · exact BW.out
      · have t5 : decide ((50 : Int) < (l.length : Int)) = false := by simpa using h5
        have h50 : l.length ≤ 50 := by omega
        have HV : Hid (wsV r s = true) := Lib.hid (by unfold wsV; rw [hb0, hb1]; rfl)
        clear hb0 hb1 h5
        go_wp2
        go_loopw [9, 33] (fun o i wr => ∃ k : Nat, k ≤ l.length ∧ i = .int .i64 k ∧ wr.ownsRow (w.heap.size + 3) 3 1 o (lvK r s l k).length (intVs (lvK r s l k)) ∧ Hid (Below w.heap.size w wr) ∧ Hid (∀ j, j < k → inR (l.getD j 0) 0 60 = true) ∧ Hid (wr.heap[w.heap.size]? = some (.cells #[.int .i64 r.a, .int .i64 r.b, .int .i64 r.c, .int .i64 r.d] 25)) ∧ Hid (wr.heap[w.heap.size + 1]? = some (.cells #[.int .i64 (stK r s l k).l, .int .i64 (stK r s l k).c] 27)) ∧ Hid (wr.heap[w.heap.size + 2]? = some (.cells #[.int .i64 0, .int .i64 0] 27)) ∧ w.heap.size + 3 ≤ wr.heap.size) (fun _ i _ => l.length - (intOf i).toNat)
        case atStart => exact ⟨0, by omega, rfl, own_none rfl (by omega), Lib.hid (T2.out.alloc T2.out.size _), Lib.hid (fun j h => by omega), Lib.hid (blk_stay R2.out), Lib.hid (by rw [stK_zero]; exact blk_stay J2.out), Lib.hid (blk_stay K2.out), by simp; omega⟩
        case round =>
          obtain ⟨k, hk, rfl, hown, hbel, hno, hR, hJ, hK, hsz⟩ := hrel
          by_cases hlt : k < l.length
          · obtain ⟨rfl, hla, hlm⟩ := HA.out (by omega)
            have c0 := (HL.out.below hbel.out hla) k hlt
            obtain ⟨r0, r1, r2, r3⟩ := blk_cell4 hR.out
            obtain ⟨s0, s1⟩ := blk_cell2 hJ.out
            have HST : Hid (stK r s l (k + 1) = wnx r (stK r s l k) (l.getD k 0)) := Lib.hid (stK_succ hlt)
            have HSV := Lib.hid (stK_ok l HV.out k)
            have HLV : Hid (lvK r s l (k + 1) = lvK r s l k ++ [(wnx r (stK r s l k) (l.getD k 0)).l]) := Lib.hid (by rw [lvK_succ, stK_succ hlt])
            have HIS := Lib.hid (fun h : inR (l.getD k 0) 0 60 = false => vtL_bad hlt h)
            have HNO : Hid (inR (l.getD k 0) 0 60 = true → ∀ j, j < k + 1 → inR (l.getD j 0) 0 60 = true) := Lib.hid (fun h j hj => by
              by_cases e : j = k
              · subst e; exact h
              · exact hno.out j (by omega))
            have hlen : (lvK r s l k).length = k := lvK_len r s l k
            generalize l.getD k 0 = D at *
            generalize stK r s l k = st at *
            have HWN := Lib.hid (fun h => nx_yes (r := r) (s := st) (v := D) h)
            generalize wnx r st D = st' at *
            generalize lvK r s l k = lv at *
            have hlv : lv.length ≤ 50 := by omega
            clear hlen
            have HOW := Lib.hid hown
            clear hown
            go_wp2_with fail
            refine (implNextWind_c r st D _).mono ?_
            rintro e w5 ⟨rfl, t5'⟩
            have T5 := Lib.hid (hbel.out.trans (t5'.mono hbel.out.size))
            have K5 := Lib.hid (blk_keep hK.out t5' (blk_lt hK.out))
            have J5 := Lib.hid (blk_keep hJ.out t5' (blk_lt hJ.out))
            have R5 := Lib.hid (blk_keep hR.out t5' (blk_lt hR.out))
            have O5 := Lib.hid (owns_below HOW.out t5')
            have hz5 := t5'.size
            clear t5' r0 r1 r2 r3 s0 s1 c0
            cases hst : inR D 0 60 with
            | false =>
              have HO : Hid (rnOk r s l = false) := Lib.hid (by rw [HD.out, HIS.out hst, Bool.and_false])
              have hnk : nxOk r st D = false := by unfold nxOk; rw [hst, Bool.and_false]
              have hnr := nx_no hnk
              rw [hnk, hnr]
              simp only []
              clear hst hnk hnr
              obtain ⟨p0, p1⟩ := blk_cell2 K5.out
              obtain ⟨m0, m1⟩ := blk_froz2 K5.out
              have hlt2 := blk_lt K5.out
              have KB : ((w5.alloc (.cells #[.int .i64 0, .int .i64 0] 27)).alloc (.cells #[] 3)).heap[w.heap.size + 1 + 1]? = some (.cells #[.int .i64 0, .int .i64 0] 27 (0, 0)) := blk_stay (blk_stay K5.out)
              obtain ⟨e0, e1⟩ := blk_cell2 KB
              obtain ⟨f0, f1⟩ := blk_froz2 KB
              clear KB
              obtain ⟨z0, z1, ow, bw⟩ := zero_end1 (Q := w.heap.size + 1 + 1) (o := .cells #[.int .i64 0, .int .i64 0] 27) K5.out (T5.out) (by omega)
              have Z0 := Lib.hid z0
              have Z1 := Lib.hid z1
              have OW := Lib.hid ow
              have BW := Lib.hid bw
              clear z0 z1 ow bw
              go_wp2
              refine bodyPost_ret (v := .tuple #[.slice (some ⟨w5.heap.size + 1, 0, none⟩) 0 0, .agg #[.int .i64 0, .int .i64 0], .bool false]) (by simp [results, Try.results16, go_sem, Z0.out, Z1.out]) rfl ⟨_, ret_lsb (s := ⟨0, 0⟩) (by rw [(HN.out HO.out).2]) (HO.out).symm, ?_, ?_⟩
              · rw [(HN.out HO.out).1]; exact OW.out
              · exact BW.out
            | true =>
              have hnk : nxOk r st D = true := by unfold nxOk; rw [hst, HSV.out]; rfl
              have hnr : nxR r st D = st' := HWN.out hnk
              have HN2 := Lib.hid (HNO.out hst)
              rw [hnk, hnr]
              clear hst hnk hnr
              obtain ⟨p0, p1⟩ := blk_cell2 J5.out
              obtain ⟨m0, m1⟩ := blk_froz2 J5.out
              have hlt2 := blk_lt J5.out
              have J6 : Hid ((((w5.setCell ⟨w.heap.size + 1, 0, none⟩ (.int .i64 st'.l)).setCell ⟨w.heap.size + 1, 1, none⟩ (.int .i64 st'.c)).alloc (.cells #[.int .i64 st'.l, .int .i64 st'.c] 27)).heap[w.heap.size + 1]? = some (.cells #[.int .i64 st'.l, .int .i64 st'.c] 27)) := Lib.hid (blk_stay (blk_all2 J5.out))
              have K6 : Hid ((((w5.setCell ⟨w.heap.size + 1, 0, none⟩ (.int .i64 st'.l)).setCell ⟨w.heap.size + 1, 1, none⟩ (.int .i64 st'.c)).alloc (.cells #[.int .i64 st'.l, .int .i64 st'.c] 27)).heap[w.heap.size + 2]? = some (.cells #[.int .i64 0, .int .i64 0] 27)) := Lib.hid (blk_stay ((blk_other2 (by omega)).trans K5.out))
              have R6 : Hid ((((w5.setCell ⟨w.heap.size + 1, 0, none⟩ (.int .i64 st'.l)).setCell ⟨w.heap.size + 1, 1, none⟩ (.int .i64 st'.c)).alloc (.cells #[.int .i64 st'.l, .int .i64 st'.c] 27)).heap[w.heap.size]? = some (.cells #[.int .i64 r.a, .int .i64 r.b, .int .i64 r.c, .int .i64 r.d] 25)) := Lib.hid (blk_stay ((blk_other2 (by omega)).trans R5.out))
              have O6 : Hid ((((w5.setCell ⟨w.heap.size + 1, 0, none⟩ (.int .i64 st'.l)).setCell ⟨w.heap.size + 1, 1, none⟩ (.int .i64 st'.c)).alloc (.cells #[.int .i64 st'.l, .int .i64 st'.c] 27)).ownsRow (w.heap.size + 3) 3 1 u9 lv.length (intVs lv)) := Lib.hid ((own_by O5.out (grown_all2 _ _ _ _) (fun e => by have := (O5.out.lt _ e).1; omega)).alloc _)
              have T6 : Hid (Below w.heap.size w (((w5.setCell ⟨w.heap.size + 1, 0, none⟩ (.int .i64 st'.l)).setCell ⟨w.heap.size + 1, 1, none⟩ (.int .i64 st'.c)).alloc (.cells #[.int .i64 st'.l, .int .i64 st'.c] 27))) := Lib.hid (by
                have h := below_all2 T5.out (b := w.heap.size + 1) (by omega) (.int .i64 st'.l) (.int .i64 st'.c)
                exact h.alloc h.size _)
              have hs6 : w.heap.size + 3 ≤ (((w5.setCell ⟨w.heap.size + 1, 0, none⟩ (.int .i64 st'.l)).setCell ⟨w.heap.size + 1, 1, none⟩ (.int .i64 st'.c)).alloc (.cells #[.int .i64 st'.l, .int .i64 st'.c] 27)).heap.size := by simp; omega
              go_upto_region 11 with fail
              generalize ((w5.setCell ⟨w.heap.size + 1, 0, none⟩ (.int .i64 st'.l)).setCell ⟨w.heap.size + 1, 1, none⟩ (.int .i64 st'.c)).alloc (.cells #[.int .i64 st'.l, .int .i64 st'.c] 27) = w6 at *
              clear p0 p1 m0 m1 hlt2
              obtain ⟨p0, p1⟩ := blk_cell2 J6.out
              have ho6 := O6.out
              go_wp2_with (at_builtin; (refine wpList_append_own _ rfl _ _ 28 rfl (w.heap.size + 3) 3 i0 (.int .i64 0) 1 8 Try.underlying28 hi hy0 hy1 hy2 rfl (by decide) _ _ _ rfl (ho6.alloc _) ⟨w6.heap.size, 0, none⟩ 1 1 [.int .i64 st'.l] rfl rfl (cell_one_new _ _ _) (by simp [Value.oneCell']) (by unfold maxLen; omega) (by omega) (by simp; omega) ?_; intro v' w7 hown' hgrow _))
              have hne := fun j hj => (ho6.lt j hj).1
              go_roundw
              case rel => exact ⟨k + 1, by omega, by go_num, by rw [HLV.out]; simpa [intVs] using hown', Lib.hid ((T6.out.alloc T6.out.size _).grown hgrow (by simp; omega) (fun j hj => by have := hne j hj; omega)), HN2, Lib.hid ((hgrow.block _ (by have := blk_lt R6.out; simp; omega) (fun e => by have := hne _ (by exact e.symm); omega)).trans (blk_stay R6.out)), Lib.hid (by rw [HST.out]; exact (hgrow.block _ (by have := blk_lt J6.out; simp; omega) (fun e => by have := hne _ (by exact e.symm); omega)).trans (blk_stay J6.out)), Lib.hid ((hgrow.block _ (by have := blk_lt K6.out; simp; omega) (fun e => by have := hne _ (by exact e.symm); omega)).trans (blk_stay K6.out)), by have h := hgrow.size; simp at h; omega⟩
              case measure => simp [intOf]; omega
          · obtain rfl : k = l.length := by omega
            have HO : Hid (rnOk r s l = true) := Lib.hid (by
              have hv := HV.out
              unfold wsV at hv
              rw [HD.out, hv, vtL_good h50 hno.out]; rfl)
            have hYL := (HY.out HO.out).1
            have hYS := (HY.out HO.out).2
            obtain ⟨s0, s1⟩ := blk_cell2 hJ.out
            obtain ⟨p0, p1⟩ := blk_cell2 hK.out
            obtain ⟨m0, m1⟩ := blk_froz2 hK.out
            have HOW := Lib.hid (own_mono (own_by hown (grown_all2 wr (w.heap.size + 2) (.int .i64 (stK r s l l.length).l) (.int .i64 (stK r s l l.length).c)) (fun e => by have := (hown.lt _ e).1; omega)) (by omega : w.heap.size ≤ w.heap.size + 3))
            obtain ⟨z0, z1⟩ := blk_cell2 (blk_all2 (x := .int .i64 (stK r s l l.length).l) (y := .int .i64 (stK r s l l.length).c) hK.out)
            have Z0 := Lib.hid z0
            have Z1 := Lib.hid z1
            have HL1 := Lib.hid hYL
            have HS1 := Lib.hid hYS
            clear z0 z1 hown hYL hYS
            generalize stK r s l l.length = st at *
            go_wp2
            go_region
            go_wp2
            refine bodyPost_ret (v := .tuple #[u9, .agg #[.int .i64 st.l, .int .i64 st.c], .bool true]) (by simp [results, Try.results16, go_sem, Z0.out, Z1.out]) rfl ⟨_, ret_lsb HS1.out.symm HO.out.symm, ?_, ?_⟩
            · rw [HL1.out]; exact HOW.out.drew
            · exact (below_all2 hbel.out (b := w.heap.size + 2) (by omega) _ _).drew
end Go.Proofs.Ytoamhbobcpljpaa
