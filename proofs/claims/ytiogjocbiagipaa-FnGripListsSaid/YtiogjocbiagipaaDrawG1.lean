/- A drawn load, slope and cabin of a grip. Condition: sizes. -/
import Derived.Test.YtiogjocbiagipaaDrawKit
import Derived.Test.YtiogjocbiagipaaDrawGrps
import Derived.Test.YtiogjocbiagipaaGrpMath
namespace Go.Proofs.Ytiogjocbiagipaa
open Go.RowKit
set_option linter.unusedVariables false
/-- What drawing a number leaves. -/
def NmPost (B b k : Nat) (lo hi : Int) (w : World) (e : Ending) (w' : World) : Prop := ∃ q : Int, e = .returned (.int .i64 q) ∧ (lo ≤ q ∧ q ≤ hi) ∧ Cur B b (k + 4) w' ∧ w.grownBy w' (some b)
set_option maxRecDepth 100000 in
set_option maxHeartbeats 1000000 in
theorem load7_any (B b k : Nat) (w : World) (h : Cur B b k w) (hk : k ≤ 800000000) :
    Calls Try.prog 58 #[.pointer (some ⟨b, 0, none⟩)] w (NmPost B b k (99) 4001 w) := by
  have HC := Lib.hid h
  have hb := h.2.1
  clear h
  go_enter Try.func58, Try.ntmps58
  go_wp2_with fail
  refine (pick_any B b (k) 24 _ (HC.out.alloc _) (by omega) (by omega) (by omega)).mono ?_
  rintro e w1 ⟨rq, rfl, hr, hc, hg⟩
  have Cw1 := Lib.hid hc
  have Gw1 := Lib.hid hg
  have hsw1 := hg.size
  simp at hsw1
  clear hc hg
  obtain ⟨cq, nq, hn, t1, s1, s2⟩ := sel5 rq hr
  clear hr
  go_wp2_with fail
  refine (among_any B b (k + 2) w.heap.size nq _ ([100, 800, 800, 1500, 4000, 99, 4001].take nq) w1 Cw1.out (by omega) (by rw [List.length_take]; simp; omega) (by omega) (by omega) (by omega) (num_part w 3 [100, 800, 800, 1500, 4000, 99, 4001] nq _ rfl w1 b Gw1.out (by omega))).mono ?_
  rintro e w2 ⟨q, hx, rfl, hc, hg⟩
  have hbq : 99 ≤ q ∧ q ≤ 4001 := by have h := List.mem_of_mem_take hx; simp at h; omega
  have Cw2 := Lib.hid hc
  have Gw2 := Lib.hid (grown_trans (grown_trans (World.grownBy_alloc w (.cells #[.int .i64 100, .int .i64 800, .int .i64 800, .int .i64 1500, .int .i64 4000, .int .i64 99, .int .i64 4001] 3) (some b)) Gw1.out) hg)
  have hsw2 := hg.size
  clear hc hg hx hn t1 s1 s2 Cw1 Gw1
  go_wp2_with fail
  go_ret
  exact ⟨q, rfl, hbq, Cw2.out.mono (by omega), Gw2.out⟩
set_option maxRecDepth 100000 in
set_option maxHeartbeats 1000000 in
theorem slope7_any (B b k : Nat) (w : World) (h : Cur B b k w) (hk : k ≤ 800000000) :
    Calls Try.prog 62 #[.pointer (some ⟨b, 0, none⟩)] w (NmPost B b k (-1) 101 w) := by
  have HC := Lib.hid h
  have hb := h.2.1
  clear h
  go_enter Try.func62, Try.ntmps62
  go_wp2_with fail
  refine (pick_any B b (k) 24 _ (HC.out.alloc _) (by omega) (by omega) (by omega)).mono ?_
  rintro e w1 ⟨rq, rfl, hr, hc, hg⟩
  have Cw1 := Lib.hid hc
  have Gw1 := Lib.hid hg
  have hsw1 := hg.size
  simp at hsw1
  clear hc hg
  obtain ⟨cq, nq, hn, t1, s1, s2⟩ := sel5 rq hr
  clear hr
  go_wp2_with fail
  refine (among_any B b (k + 2) w.heap.size nq _ ([0, 1, 10, 35, 100, -1, 101].take nq) w1 Cw1.out (by omega) (by rw [List.length_take]; simp; omega) (by omega) (by omega) (by omega) (num_part w 3 [0, 1, 10, 35, 100, -1, 101] nq _ rfl w1 b Gw1.out (by omega))).mono ?_
  rintro e w2 ⟨q, hx, rfl, hc, hg⟩
  have hbq : -1 ≤ q ∧ q ≤ 101 := by have h := List.mem_of_mem_take hx; simp at h; omega
  have Cw2 := Lib.hid hc
  have Gw2 := Lib.hid (grown_trans (grown_trans (World.grownBy_alloc w (.cells #[.int .i64 0, .int .i64 1, .int .i64 10, .int .i64 35, .int .i64 100, .int .i64 (-1), .int .i64 101] 3) (some b)) Gw1.out) hg)
  have hsw2 := hg.size
  clear hc hg hx hn t1 s1 s2 Cw1 Gw1
  go_wp2_with fail
  go_ret
  exact ⟨q, rfl, hbq, Cw2.out.mono (by omega), Gw2.out⟩
set_option maxRecDepth 100000 in
set_option maxHeartbeats 1000000 in
theorem gripOf_any (B b k base : Nat) (v : Value) (l : List Grp) (w : World) (h : Cur B b k w) (hk : k ≤ 800000000) (ho : w.ownsRow base 25 5 v l.length (grps l)) (hbb : b < base) (hl : l.length ≤ 13) (hq : ∀ q, q < l.length → GrpB (gth l q)) :
    Calls Try.prog 67 #[.pointer (some ⟨b, 0, none⟩), v] w (NmPost B b k (-10) 200 w) := by
  have HC := Lib.hid h
  have hb := h.2.1
  obtain ⟨ao, a, oa, ca, rfl, hao, hat⟩ := own_at5 ho
  have HA := Lib.hid hao
  have HL := Lib.hid hat
  have HQ := Lib.hid hq
  clear h ho hao hat hq
  by_cases h0 : l.length = 0
  · have t0 : ((l.length : Int) == 0) = true := by simpa using h0
    clear h0
    go_enter Try.func67, Try.ntmps67
    go_wp2_with fail
    refine (among_any B b k w.heap.size 3 3 [0, 1, 50] _ (HC.out.alloc _) (by omega) rfl (by omega) (by omega) (by omega) (num_cells w 3 [0, 1, 50] _ rfl)).mono ?_
    rintro e w2 ⟨q, hx, rfl, hc, hg⟩
    have hbq : -10 ≤ q ∧ q ≤ 200 := by simp at hx; omega
    have C2 := Lib.hid hc
    have G2 := Lib.hid (grown_trans (World.grownBy_alloc w (.cells #[.int .i64 0, .int .i64 1, .int .i64 50] 3) (some b)) hg)
    clear hc hg hx
    go_wp2_with fail
    go_ret
    exact ⟨q, rfl, hbq, C2.out.mono (by omega), G2.out⟩
  · have t0 : ((l.length : Int) == 0) = false := by simpa using h0
    have hp : 0 < l.length := by omega
    clear h0
    go_enter Try.func67, Try.ntmps67
    go_wp2_with fail
    refine (one_any B b k 8 w HC.out (by omega) (by omega) (by omega)).mono ?_
    rintro e w1 ⟨u, rfl, hc, hg⟩
    have C1 := Lib.hid hc
    have G1 := Lib.hid hg
    have hs1 := hg.size
    clear hc hg HC
    cases u with
    | true =>
      go_wp2_with fail
      refine (among_any B b _ w1.heap.size 3 3 [0, 1, 50] _ (C1.out.alloc _) (by omega) rfl (by omega) (by omega) (by omega) (num_cells w1 3 [0, 1, 50] _ rfl)).mono ?_
      rintro e w2 ⟨q, hx, rfl, hc, hg⟩
      have hbq : -10 ≤ q ∧ q ≤ 200 := by simp at hx; omega
      have C2 := Lib.hid hc
      have G2 := Lib.hid (grown_trans G1.out (grown_trans (World.grownBy_alloc w1 (.cells #[.int .i64 0, .int .i64 1, .int .i64 50] 3) (some b)) hg))
      clear hc hg hx
      go_wp2_with fail
      go_ret
      exact ⟨q, rfl, hbq, C2.out.mono (by omega), G2.out⟩
    | false =>
      go_wp2_with fail
      refine (pick_any B b _ (l.length : Int) w1 C1.out (by omega) (by omega) (by omega)).mono ?_
      rintro e w2 ⟨r, rfl, hr, hc, hg⟩
      have hrl : r < l.length := by omega
      obtain ⟨rfl, haB, hla, hlm⟩ := HA.out hp
      have C2 := Lib.hid hc
      have G2 := Lib.hid (grown_trans G1.out hg)
      obtain ⟨c0, c1, c2, c3, c4⟩ := (HL.out.kept G2.out (by intro e; have := Option.some.inj e; omega)) r hrl
      obtain ⟨b1, _⟩ := HQ.out r hrl
      have i1 : (r : Int) < (l.length : Int) := by omega
      generalize (gth l r).i = Q at *
      clear hc hg hr c1 c2 c3 c4
      go_wp2_with fail
      go_ret
      exact ⟨Q, rfl, b1, C2.out.mono (by omega), G2.out⟩
end Go.Proofs.Ytiogjocbiagipaa
