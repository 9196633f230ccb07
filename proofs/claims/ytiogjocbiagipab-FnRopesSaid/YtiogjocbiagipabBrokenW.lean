/- The walks of spec.l3Broken and spec.l3Most. Condition: sizes. -/
import Derived.Test.YtiogjocbiagipabWinMath
import Derived.Test.YtiogjocbiagipabGoodW
namespace Go.Proofs.Ytiogjocbiagipab
open Go.RowKit
set_option linter.unusedVariables false
theorem win_val (fr len st : Int) (d : Dmg) : win fr len st d = (inR d.a fr (fr + len - 1) && (decide (st < 0) || d.s == st)) := rfl
set_option maxRecDepth 100000 in
set_option maxHeartbeats 4000000 in
theorem l3Broken_c (v : Value) (l : List Dmg) (fr len st : Int) (w : World) (hr : Rs w v l.length (dmgs l)) (hs : Srt l) (h1 : -100000 ≤ fr ∧ fr ≤ 100000) (h2 : -100000 ≤ len ∧ len ≤ 100000) :
    Calls Try.prog 61 #[v, .int .i64 fr, .int .i64 len, .int .i64 st] w fun e w' => e = .returned (.int .i64 (brk l fr len st)) ∧ Below w.heap.size w w' := by
  obtain ⟨ao, a, oa, ca, rfl, hao, hat⟩ := hr.form_Dmg
  have HA := Lib.hid hao
  have HL := Lib.hid hat
  have HS := Lib.hid hs
  have h15 := hs.len
  obtain ⟨X, hX⟩ : ∃ X, X = fr + len := ⟨_, rfl⟩
  obtain ⟨Y, hY⟩ : ∃ Y, Y = fr + len - 1 := ⟨_, rfl⟩
  have w1 : IntKind.i64.wrap (fr + len) = X := by rw [hX]; exact IntWalk.i64_in _ (by omega)
  have w2 : IntKind.i64.wrap (X - 1) = Y := by rw [hX, hY]; exact IntWalk.i64_in _ (by omega)
  have HWv : Hid (∀ d, win fr len st d = (inR d.a fr Y && (decide (st < 0) || d.s == st))) := Lib.hid (fun d => by rw [hY]; rfl)
  clear hr hao hat hs hX hY h1 h2
  go_enter Try.func61, Try.ntmps61
  go_wp2
  go_loopw [9, 10] (fun s i wr => ∃ k : Nat, k ≤ l.length ∧ i = .int .i64 k ∧ s = .int .i64 (sumW (win fr len st) (l.take k)) ∧ Hid (Below w.heap.size w wr)) (fun _ i _ => l.length - (intOf i).toNat)
  case atStart => exact ⟨0, Nat.zero_le _, rfl, by simp [sumW], Lib.hid (Below.refl _ _)⟩
  case round =>
    obtain ⟨k, hk, rfl, rfl, hbl⟩ := hrel
    have hszr := hbl.out.size
    by_cases hlt : k < l.length
    · obtain ⟨rfl, hla, hlm⟩ := HA.out (by omega)
      obtain ⟨c0, c1, c2⟩ := (HL.out.below hbl.out hla) k hlt
      have hlaw : a < wr.heap.size := by omega
      have hb1 := sumW_bd HS.out (win fr len st) k hk
      have hb2 := HS.out.bd k hlt
      have HT := Lib.hid (sumW_take (win fr len st) l k hlt)
      rw [HWv.out] at HT
      have E1 := Lib.hid (fun W => l1In_c (gth l k).a fr Y W)
      generalize gth l k = D at *
      generalize sumW (win fr len st) (l.take k) = S at *
      have w3 : IntKind.i64.wrap (S + D.w) = S + D.w := IntWalk.i64_in _ (by omega)
      generalize inR D.a fr Y = B1 at *
      go_wp2_with fail
      refine (E1.out _).mono ?_
      rintro e w2 ⟨rfl, rfl⟩
      cases B1 with
      | false =>
        go_wp2
        go_roundw
        case rel => exact ⟨k + 1, by omega, by go_num, by rw [HT.out]; simp, Lib.hid (hbl.out.alloc hszr _)⟩
        case measure => simp [intOf]; omega
      | true =>
        by_cases hst : st < 0
        · have t1 : decide (st < 0) = true := by simpa using hst
          rw [t1] at HT
          go_wp2
          go_roundw
          case rel => exact ⟨k + 1, by omega, by go_num, by rw [HT.out]; simp, Lib.hid (hbl.out.alloc hszr _)⟩
          case measure => simp [intOf]; omega
        · have t1 : decide (st < 0) = false := by simpa using hst
          rw [t1] at HT
          cases hq : (D.s == st) with
          | true =>
            rw [hq] at HT
            go_wp2
            go_roundw
            case rel => exact ⟨k + 1, by omega, by go_num, by rw [HT.out]; simp, Lib.hid (hbl.out.alloc hszr _)⟩
            case measure => simp [intOf]; omega
          | false =>
            rw [hq] at HT
            go_wp2
            go_roundw
            case rel => exact ⟨k + 1, by omega, by go_num, by rw [HT.out]; simp, Lib.hid (hbl.out.alloc hszr _)⟩
            case measure => simp [intOf]; omega
    · obtain rfl : k = l.length := by omega
      go_wp2
      go_ret
      exact ⟨by rw [sumW_all]; rfl, hbl.out⟩
theorem ret_ii {a b c d : Int} (h : a = b) (g : c = d) : Ending.returned (.tuple #[.int .i64 a, .int .i64 c]) = .returned (.tuple #[.int .i64 b, .int .i64 d]) := by rw [h, g]
set_option maxRecDepth 100000 in
set_option maxHeartbeats 4000000 in
theorem l3Most_c (v : Value) (l : List Dmg) (len st : Int) (w : World) (hr : Rs w v l.length (dmgs l)) (hs : Srt l) (h2 : -100000 ≤ len ∧ len ≤ 100000) :
    Calls Try.prog 57 #[v, .int .i64 len, .int .i64 st] w fun e w' => e = .returned (.tuple #[.int .i64 (mst l len st l.length).1, .int .i64 (mst l len st l.length).2]) ∧ Below w.heap.size w w' := by
  have HR := Lib.hid hr
  obtain ⟨ao, a, oa, ca, rfl, hao, hat⟩ := hr.form_Dmg
  have HA := Lib.hid hao
  have HL := Lib.hid hat
  have HS := Lib.hid hs
  have H2 := Lib.hid h2
  have h15 := hs.len
  clear hr hao hat hs h2
  go_enter Try.func57, Try.ntmps57
  go_wp2
  go_loopw [8, 9, 10] (fun at_ m i wr => ∃ k : Nat, k ≤ l.length ∧ i = .int .i64 k ∧ at_ = .int .i64 (mst l len st k).1 ∧ m = .int .i64 (mst l len st k).2 ∧ Hid (Below w.heap.size w wr)) (fun _ _ i _ => l.length - (intOf i).toNat)
  case atStart => exact ⟨0, Nat.zero_le _, rfl, rfl, rfl, Lib.hid (Below.refl _ _)⟩
  case round =>
    obtain ⟨k, hk, rfl, rfl, rfl, hbl⟩ := hrel
    have hszr := hbl.out.size
    by_cases hlt : k < l.length
    · obtain ⟨rfl, hla, hlm⟩ := HA.out (by omega)
      obtain ⟨c0, _, _⟩ := (HL.out.below hbl.out hla) k hlt
      have hb2 := HS.out.bd k hlt
      have E1 := Lib.hid (l3Broken_c _ l (gth l k).a len st wr (HR.out.below hbl.out rfl) HS.out (by omega) H2.out)
      have HAt : Hid (∀ W, Below w.heap.size w W → W.cell? ⟨a, oa + k * 3, none⟩ = some (.int .i64 (gth l k).a)) := Lib.hid (fun W h => ((HL.out.below h hla) k hlt).1)
      by_cases hm : (mst l len st k).2 < brk l (gth l k).a len st
      · have HY := Lib.hid (mst_yes hm)
        generalize brk l (gth l k).a len st = N at *
        generalize (gth l k).a = A at *
        generalize (mst l len st k).2 = M at *
        generalize (mst l len st k).1 = M1 at *
        go_wp2_with fail
        refine E1.out.mono ?_
        rintro e w2 ⟨rfl, b2⟩
        have hb3 := Lib.hid (hbl.out.trans (b2.mono hszr))
        have c1 := HAt.out _ hb3.out
        clear c0 b2
        go_wp2
        go_roundw
        case rel => exact ⟨k + 1, by omega, by go_num, by rw [HY.out], by rw [HY.out], hb3⟩
        case measure => simp [intOf]; omega
      · have HY := Lib.hid (mst_no hm)
        generalize brk l (gth l k).a len st = N at *
        generalize (gth l k).a = A at *
        generalize hM : (mst l len st k).2 = M at *
        have HM := Lib.hid hM
        clear hM
        go_wp2_with fail
        refine E1.out.mono ?_
        rintro e w2 ⟨rfl, b2⟩
        have hb3 := Lib.hid (hbl.out.trans (b2.mono hszr))
        clear c0 b2
        go_wp2
        go_roundw
        case rel => exact ⟨k + 1, by omega, by go_num, by rw [HY.out], by rw [HY.out, HM.out], hb3⟩
        case measure => simp [intOf]; omega
    · obtain rfl : k = l.length := by omega
      go_wp2
      go_ret2
      exact ⟨rfl, hbl.out⟩
end Go.Proofs.Ytiogjocbiagipab
