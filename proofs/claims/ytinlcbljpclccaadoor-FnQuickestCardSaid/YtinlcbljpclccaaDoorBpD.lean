/- The program: how many can enter, how many events there are. Condition: sizes. -/
import Derived.Test.YtinlcbljpclccaaDoorBpC
import Derived.Test.YtinlcbljpclccaaDoorBoQ
import Derived.Deep.DeepCutAuto
namespace Go.Proofs.YtinlcbljpclccaaDoor
open Go.RowKit
set_option linter.unusedVariables false
theorem ret_meB {a c : Int} {x y : Bool} (h : a = c) (k : x = y) : Ending.returned (.tuple #[.int .i64 a, .bool x]) = .returned (.tuple #[.int .i64 c, .bool y]) := by rw [h, k]
set_option maxRecDepth 100000 in
set_option maxHeartbeats 2000000 in
theorem implMostEntering_c (p : Plt) (w : World) :
    Calls Tryd.prog 12 #[.agg #[.int .i64 p.d, .int .i64 p.s, .int .i64 p.i, .int .i64 p.w, .bool p.l, .int .i64 p.g]] w fun x w' => x = .returned (.tuple #[.int .i64 (meR p), .bool (plV p)]) ∧ Below w.heap.size w w' := by
  have E0 := Lib.hid (fun W => implIsPlatform_c p W)
  have E1 := Lib.hid (fun (h : plV p = true) (c : Int) W => implStepV_c p ⟨kEnter, c⟩ W h)
  have HM := Lib.hid (fun (h : plV p = true) (c : Int) => me_step h c)
  have HBD := Lib.hid (fun h : plV p = true => And.intro (entP_bd h).1 (ent_le h))
  have HA : Hid (meR p = if plV p then entP p else 0) := Lib.hid rfl
  have J0 := Lib.hid (heap_alloc_new w (.cells #[.int .i64 p.d, .int .i64 p.s, .int .i64 p.i, .int .i64 p.w, .bool p.l, .int .i64 p.g] 25))
  have HT0 := Lib.hid ((Below.refl w.heap.size w).alloc (Nat.le_refl _) (.cells #[.int .i64 p.d, .int .i64 p.s, .int .i64 p.i, .int .i64 p.w, .bool p.l, .int .i64 p.g] 25))
  have hs0 : (w.alloc (.cells #[.int .i64 p.d, .int .i64 p.s, .int .i64 p.i, .int .i64 p.w, .bool p.l, .int .i64 p.g] 25)).heap.size = w.heap.size + 1 := by simp
  generalize meR p = A at *
  generalize entP p = E at *
  generalize plV p = b at *
  go_enter Tryd.func12, Tryd.ntmps12
  go_wp2_with fail
  generalize w.alloc (.cells #[.int .i64 p.d, .int .i64 p.s, .int .i64 p.i, .int .i64 p.w, .bool p.l, .int .i64 p.g] 25) = W0 at *
  refine (E0.out _).mono ?_
  rintro x w1 ⟨rfl, t1⟩
  have T1 := Lib.hid (HT0.out.trans (t1.mono (by omega)))
  have J1 := Lib.hid (blk_keep J0.out t1 (by omega))
  have hz1 := t1.size
  clear t1 J0 HT0
  cases b with
  | false =>
    go_wp2
    go_ret2
    exact ⟨by rw [HA.out]; rfl, T1.out⟩
  | true =>
    have HAr : Hid ((E : Int) = A) := Lib.hid (by rw [HA.out]; rfl)
    have E1r := Lib.hid (E1.out rfl)
    have HMr := Lib.hid (HM.out rfl)
    have HBr := Lib.hid (HBD.out rfl)
    clear E1 HM HBD HA E0
    go_wp2
    go_loopw [4] (fun c wr => ∃ n : Nat, c = .int .i64 (n : Int) ∧ n ≤ 16 ∧ Hid (E ≤ (n : Int)) ∧ Hid (wr.heap[w.heap.size]? = some (.cells #[.int .i64 p.d, .int .i64 p.s, .int .i64 p.i, .int .i64 p.w, .bool p.l, .int .i64 p.g] 25 (0, 0))) ∧ Hid (Below w.heap.size w wr)) (fun c _ => (intOf c).toNat)
    case atStart => exact ⟨16, rfl, by omega, Lib.hid HBr.out.2, J1, T1⟩
    case round =>
      obtain ⟨n, rfl, hn16, HE, J2, T2⟩ := hrel
      clear J1 T1 hz1
      have hbs := T2.out.size
      have hjP := blk_lt J2.out
      obtain ⟨c0, c1, c2, c3, c4, c5⟩ := blk_cell6 J2.out
      by_cases hn : 0 < n
      · have hni : (0 : Int) < (n : Int) := by omega
        have p1 : IntKind.i64.wrap ((n : Int) - 1) = ((n - 1 : Nat) : Int) := by rw [show (n : Int) - 1 = ((n - 1 : Nat) : Int) by omega]; exact IntWalk.i64_in _ (by omega)
        have E2 := Lib.hid (fun W => E1r.out (n : Int) W)
        have HM2 := Lib.hid (HMr.out (n : Int))
        generalize stR p ⟨kEnter, (n : Int)⟩ = S at *
        generalize stOk p ⟨kEnter, (n : Int)⟩ = sb at *
        go_wp2_with fail
        refine (E2.out _).mono ?_
        rintro x w3 ⟨rfl, t⟩
        have T3 := Lib.hid (T2.out.trans (t.mono (by omega)))
        have J3 := Lib.hid (blk_keep J2.out t (by omega))
        have hs3 := t.size
        have T4 := Lib.hid (T3.out.alloc T3.out.size (.cells #[.int .i64 S.d, .int .i64 S.s, .int .i64 S.i, .int .i64 S.w, .bool S.l, .int .i64 S.g] 25))
        have J4 := Lib.hid (blk_stay (o' := .cells #[.int .i64 S.d, .int .i64 S.s, .int .i64 S.i, .int .i64 S.w, .bool S.l, .int .i64 S.g] 25) J3.out)
        clear t c0 c1 c2 c3 c4 c5
        cases sb with
        | true =>
          have hA : Hid ((n : Int) = A) := Lib.hid (by have h := HM2.out; have h2 := HE.out; have h3 := HAr.out; have h4 : 1 ≤ (n : Int) ∧ (n : Int) ≤ E := by simpa using h.symm
                                                       omega)
          go_wp2
          go_ret2
          exact ⟨ret_meB hA.out rfl, T4.out⟩
        | false =>
          have hE : Hid (E ≤ ((n - 1 : Nat) : Int)) := Lib.hid (by have h := HM2.out; have h2 := HE.out; have h4 : 1 ≤ (n : Int) → E < (n : Int) := by simpa using h.symm
                                                                   omega)
          go_wp2
          go_roundw
          case rel => exact ⟨n - 1, by go_num, by omega, hE, J4, T4⟩
          case measure => simp [intOf]; omega
      · have hni : ¬ (0 : Int) < (n : Int) := by omega
        have hA : Hid ((n : Int) = A) := Lib.hid (by have h1 := HE.out; have h2 := HBr.out.1; have h3 := HAr.out; omega)
        clear c0 c1 c2 c3 c4 c5
        go_wp2
        go_ret2
        exact ⟨ret_meB hA.out rfl, T2.out⟩
end Go.Proofs.YtinlcbljpclccaaDoor
