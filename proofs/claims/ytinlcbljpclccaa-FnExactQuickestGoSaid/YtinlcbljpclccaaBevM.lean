/- Slices of impl.BoardEvent marked and looked at. Condition: sizes. -/
import Derived.Test.YtinlcbljpclccaaBevS
namespace Go.Proofs.Ytinlcbljpclccaa
open Go.RowKit
set_option linter.unusedVariables false
theorem mtx_Bev (m : Int) (k : Nat) (h : m = (k : Int)) (hk : k ≤ 1099511627776) (w : World) :
    Calls Try.prog 62 #[.int .i64 m] w fun e w' => e = .returned (.string (mt k)) ∧ Below w.heap.size w w' := by subst h; exact markText_any k hk w
theorem gb_Bev {w w' : World} {b : Nat} (h : Below w.heap.size w w') : w.grownBy w' (some b) := ⟨h.os, h.tape, h.output, h.size, fun k hk _ => h.block k hk⟩
theorem own_bBev {w w' : World} {B : Nat} {T : TypeId} {sz : Nat} {v : Value} {n : Nat} {xs : List Value} (h : w.ownsRow B T sz v n xs) (hb : Below w.heap.size w w') : w'.ownsRow B T sz v n xs := owns_below h hb
/-- The marks from k on. -/
def mkBev (k j : Nat) : Bev := ⟨mt (k + j * 2), (k : Int) + (j : Int) * 2 + 1⟩
def mksBev (k n : Nat) : List Bev := (List.range n).map (mkBev k)
theorem mksBev_len (k n : Nat) : (mksBev k n).length = n := by simp [mksBev]
theorem mksBev_succ (k j : Nat) : mksBev k (j + 1) = mksBev k j ++ [mkBev k j] := by simp [mksBev, List.range_succ]
theorem mksBev_at (k n j : Nat) (h : j < n) : gth (mksBev k n) j = mkBev k j := by simp [gth, mksBev, List.getD, h]
set_option maxHeartbeats 400000 in
theorem markBoardEventS_any (B k n : Nat) (v : Value) (xs : List Value) (w : World) (hk : k ≤ 8388608) (hn : n ≤ 8388608) (hB : B ≤ w.heap.size) (hown : w.ownsRow B 35 2 v n xs) :
    Calls Try.prog 44 #[v, .int .i64 (k : Int)] w fun e w' => e = .returned (.int .i64 ((k + n * 2 : Nat) : Int)) ∧ w'.ownsRow B 35 2 v n (bevs (mksBev k n)) ∧ w.grownBy w' v.ownBlock := by
  rcases owns_cases hown with ⟨rfl, rfl, a, cap, rfl⟩ | ⟨g, cap, rfl, hg, hgs, hpos, hnm, hl⟩
  · have HO := Lib.hid hown
    clear hown
    go_enter Try.func44, Try.ntmps44
    go_wp2
    refine wp_loop_rounds 1 ?_
    rw [rounds_succ]
    go_wp2
    go_ret
    exact ⟨rfl, HO.out, World.grownBy.refl _ _⟩
  · go_enter Try.func44, Try.ntmps44
    go_wp2
    go_loopw [1, 5] (fun kk i wr => ∃ j : Nat, j ≤ n ∧ i = .int .i64 j ∧ kk = .int .i64 ((k + j * 2 : Nat) : Int) ∧ wr.ownsRow B 35 2 (.slice (some ⟨g, 0, none⟩) n cap) n (bevs (mksBev k j) ++ xs.drop (j * 2)) ∧ w.grownBy wr (some g)) (fun _ i _ => n - (intOf i).toNat)
    case atStart => exact ⟨0, Nat.zero_le _, rfl, rfl, by simpa [mksBev, flat] using hown, World.grownBy.refl _ _⟩
    case round =>
      obtain ⟨j, hj, rfl, rfl, ho, hb⟩ := hrel
      by_cases hlt : j < n
      · have hp : (bevs (mksBev k j)).length = j * 2 := by rw [bevs_len, mksBev_len]
        have hu0 : j * 2 + 1 < (bevs (mksBev k j) ++ xs.drop (j * 2)).length := by simp [hp]; omega
        have HX : Hid ((((bevs (mksBev k j) ++ xs.drop (j * 2)).set (j * 2) (.string (mkBev k j).k)).set (j * 2 + 1) (.int .i64 (mkBev k j).c)) = bevs (mksBev k (j + 1)) ++ xs.drop ((j + 1) * 2)) := by
          rw [Hid, Bev_set _ _ _ _ _ hp (by omega), mksBev_succ, bevs_append, bevs_one]
        have hgr := (ho.lt g rfl).2
        have HG0 := Lib.hid hb
        have hoc := ho
        go_wp2_with (go_at_call 62; refine (mtx_Bev _ (k + j * 2) (by omega) (by omega) _).mono ?_; rintro e w1 ⟨rfl, hb1⟩; have ho1 := own_bBev hoc hb1; have k0 := (ho1.cellAt (j * 2) (by omega)).trans (List.getElem?_eq_getElem (by omega)); have k1 := (ho1.cellAt (j * 2 + 1) (by omega)).trans (List.getElem?_eq_getElem (by omega)); have f0 := ho1.frozenAt (j * 2); have f1 := ho1.frozenAt (j * 2 + 1))
        have q1 := ho1.stored (j * 2) (.string (mkBev k j).k)
        have q2 := q1.1.stored (j * 2 + 1) (.int .i64 (mkBev k j).c)
        have HG := Lib.hid (((HG0.out.trans (gb_Bev hb1)).trans q1.2).trans q2.2)
        have hst := q2.1
        rw [HX.out] at hst
        have HS := Lib.hid hst
        clear hst hp q1 q2
        go_roundw
        case rel =>
          refine ⟨j + 1, by omega, by go_num, by go_num, ?_, ?_⟩
          · have := HS.out
            simpa [mkBev] using this
          · have := HG.out
            simpa [mkBev] using this
        case measure => simp [intOf]; omega
      · obtain rfl : j = n := by omega
        go_wp2
        go_ret
        exact ⟨rfl, by rw [List.drop_of_length_le (by omega), List.append_nil] at ho; exact ho, hb⟩
set_option maxHeartbeats 400000 in
theorem heldBoardEventS_c (k n : Nat) (v : Value) (w : World) (hk : k ≤ 8388608) (hn : n ≤ 8388608) (hr : Rs w v n (bevs (mksBev k n))) :
    Calls Try.prog 45 #[v, .int .i64 (k : Int)] w fun e w' => e = .returned (.int .i64 ((k + n * 2 : Nat) : Int)) ∧ Below w.heap.size w w' := by
  by_cases h0 : n = 0
  · subst h0
    obtain ⟨a, ca, rfl⟩ := hr.zero
    clear hr
    go_enter Try.func45, Try.ntmps45
    go_wp2
    refine wp_loop_rounds 1 ?_
    rw [rounds_succ]
    go_wp2
    go_ret
    exact ⟨rfl, Below.refl _ _⟩
  · obtain ⟨a, oa, ca, rfl, hla, hcap, hm, hca⟩ := hr.pos h0
    have HA := Lib.hid hca
    clear hca hr h0
    go_enter Try.func45, Try.ntmps45
    go_wp2
    go_loopw [1, 5] (fun kk i wr => ∃ j : Nat, j ≤ n ∧ i = .int .i64 j ∧ kk = .int .i64 ((k + j * 2 : Nat) : Int) ∧ Below w.heap.size w wr) (fun _ i _ => n - (intOf i).toNat)
    case atStart => exact ⟨0, Nat.zero_le _, rfl, rfl, Below.refl _ _⟩
    case round =>
      obtain ⟨j, hj, rfl, rfl, hb⟩ := hrel
      by_cases hlt : j < n
      · obtain ⟨e0, e1⟩ := bevs_at (mksBev k n) j (by rw [mksBev_len]; exact hlt)
        rw [mksBev_at k n j hlt] at e0 e1
        have c0 : wr.cell? ⟨a, oa + j * 2, none⟩ = some (.string (mt (k + j * 2))) := (hb.cell (p := ⟨a, oa + j * 2, none⟩) hla).trans (HA.out _ _ e0)
        have c1 : wr.cell? ⟨a, oa + j * 2 + 1, none⟩ = some (.int .i64 ((k : Int) + (j : Int) * 2 + 1)) := (hb.cell (p := ⟨a, oa + j * 2 + 1, none⟩) hla).trans (HA.out _ _ e1)
        clear e0 e1
        have hgr : a < wr.heap.size := Nat.lt_of_lt_of_le hla hb.size
        go_wp2_with fail
        go_region_held3 (fun w' => w'.cell? ⟨a, oa + j * 2, none⟩ = some (.string (mt (k + j * 2)))) (go_keep)
          (first | (go_at_call 62; refine (mtx_Bev _ (k + j * 2) (by omega) (by omega) _).mono ?_; rintro e w1 ⟨rfl, hb1⟩; have g0 := (hb1.cell (p := ⟨a, oa + j * 2, none⟩) (by simp; omega)).trans c0; have g1 := (hb1.cell (p := ⟨a, oa + j * 2 + 1, none⟩) (by simp; omega)).trans c1))
        go_wp2
        go_roundw
        case rel => exact ⟨j + 1, by omega, by go_num, by go_num, hb.drew.trans (hb1.mono hb.size)⟩
        case measure => simp [intOf]; omega
      · obtain rfl : j = n := by omega
        go_wp2
        go_ret
        exact ⟨rfl, hb⟩
end Go.Proofs.Ytinlcbljpclccaa
