/- The draws of the laws on profiles. Condition: sizes. -/
import Derived.Test.YtklfipmjdhkkiaaDrawProf
import Derived.Test.YtklfipmjdhkkiaaBig
namespace Go.Proofs.Ytklfipmjdhkkiaa
open Go.RowKit
set_option linter.unusedVariables false
def DpRow (w w' : World) (v : Value) (l : List Int) : Prop := w'.ownsRow w.heap.size 3 1 v l.length (intVs l) ∧ l.length ≤ 31
def DrawSpeedForPost (w : World) (e : Ending) (w' : World) : Prop := ∃ x0 x1 : Int, e = .returned (.tuple #[.int .i64 x0, .int .i64 x1]) ∧ (-1 ≤ x0 ∧ x0 ≤ 100001) ∧ (0 ≤ x1 ∧ x1 ≤ 21) ∧ Below w.heap.size w w'
set_option maxRecDepth 100000 in
set_option maxHeartbeats 2000000 in
theorem DrawSpeedFor_any (a : Option Addr) (len cap : Nat) (w : World) (h : ByteRow w a len) :
    Calls Try.prog 24 #[.slice a len cap] w (DrawSpeedForPost w) := by
  have HC := Lib.hid (cur_new (cap := cap) h 53)
  have HB0 := Lib.hid ((Below.refl w.heap.size w).alloc (Nat.le_refl _) (.cells #[.slice a len cap, .int .i64 0, .int .u64 0] 53))
  have hs0 : (w.alloc (.cells #[.slice a len cap, .int .i64 0, .int .u64 0] 53)).heap.size = w.heap.size + 1 := by simp
  clear h
  go_enter Try.func24, Try.ntmps24
  go_upto_region 2 with fail
  generalize hw0 : w.alloc (.cells #[.slice a len cap, .int .i64 0, .int .u64 0] 53) = w0 at *
  clear hw0
  have HS0 := Lib.hid hs0
  clear hs0
  go_wp2_with fail
  refine (among_any w.heap.size w.heap.size (0) w0.heap.size 9 9 [0, 1, 10, 100, 500, 2000, 100000, 100001, -1] _ (HC.out.alloc _) (by omega) rfl (by omega) (by omega) (by have := HS0.out; omega) (num_cells w0 3 [0, 1, 10, 100, 500, 2000, 100000, 100001, -1] _ rfl)).mono ?_
  rintro e w1 ⟨x0, hx, rfl, hc, hg0⟩
  have hb0 : -1 ≤ x0 ∧ x0 ≤ 100001 := by simp at hx; omega
  have hg := grown_trans (World.grownBy_alloc w0 (.cells #[.int .i64 0, .int .i64 1, .int .i64 10, .int .i64 100, .int .i64 500, .int .i64 2000, .int .i64 100000, .int .i64 100001, .int .i64 (-1)] 3) (some w.heap.size)) hg0
  clear hx hg0
  have C1 := Lib.hid hc
  have G1 := Lib.hid (hg)
  clear hc hg
  go_wp2_with fail
  refine (rate9_any w.heap.size w.heap.size (0 + 2) w1 C1.out (by omega)).mono ?_
  rintro e w2 ⟨x1, rfl, hb1, hc, hg⟩
  have C2 := Lib.hid hc
  have G2 := Lib.hid (grown_trans G1.out hg)
  clear hc hg G1 C1
  have hs0 := HS0.out
  have HB := Lib.hid (HB0.out.trans (grown_below G2.out (show w.heap.size ≤ w0.heap.size by omega) (fun k hk => by cases hk; omega)))
  go_wp2_with fail
  go_ret2
  exact ⟨x0, x1, rfl, hb0, hb1, HB.out⟩
def DrawStopWayPost (w : World) (e : Ending) (w' : World) : Prop := ∃ x0 x1 : Int, e = .returned (.tuple #[.int .i64 x0, .int .i64 x1]) ∧ (-1 ≤ x0 ∧ x0 ≤ 101) ∧ (0 ≤ x1 ∧ x1 ≤ 21) ∧ Below w.heap.size w w'
set_option maxRecDepth 100000 in
set_option maxHeartbeats 2000000 in
theorem DrawStopWay_any (a : Option Addr) (len cap : Nat) (w : World) (h : ByteRow w a len) :
    Calls Try.prog 28 #[.slice a len cap] w (DrawStopWayPost w) := by
  have HC := Lib.hid (cur_new (cap := cap) h 53)
  have HB0 := Lib.hid ((Below.refl w.heap.size w).alloc (Nat.le_refl _) (.cells #[.slice a len cap, .int .i64 0, .int .u64 0] 53))
  have hs0 : (w.alloc (.cells #[.slice a len cap, .int .i64 0, .int .u64 0] 53)).heap.size = w.heap.size + 1 := by simp
  clear h
  go_enter Try.func28, Try.ntmps28
  go_upto_region 2 with fail
  generalize hw0 : w.alloc (.cells #[.slice a len cap, .int .i64 0, .int .u64 0] 53) = w0 at *
  clear hw0
  have HS0 := Lib.hid hs0
  clear hs0
  go_wp2_with fail
  refine (speed9_any w.heap.size w.heap.size (0) w0 HC.out (by omega)).mono ?_
  rintro e w1 ⟨x0, rfl, hb0, hc, hg⟩
  have C1 := Lib.hid hc
  have G1 := Lib.hid (hg)
  clear hc hg
  go_wp2_with fail
  refine (rate9_any w.heap.size w.heap.size (0 + 2) w1 C1.out (by omega)).mono ?_
  rintro e w2 ⟨x1, rfl, hb1, hc, hg⟩
  have C2 := Lib.hid hc
  have G2 := Lib.hid (grown_trans G1.out hg)
  clear hc hg G1 C1
  have hs0 := HS0.out
  have HB := Lib.hid (HB0.out.trans (grown_below G2.out (show w.heap.size ≤ w0.heap.size by omega) (fun k hk => by cases hk; omega)))
  go_wp2_with fail
  go_ret2
  exact ⟨x0, x1, rfl, hb0, hb1, HB.out⟩
def DrawShortestToPost (w : World) (e : Ending) (w' : World) : Prop := ∃ x0 x1 x2 : Int, e = .returned (.tuple #[.int .i64 x0, .int .i64 x1, .int .i64 x2]) ∧ (-1 ≤ x0 ∧ x0 ≤ 101) ∧ (-1 ≤ x1 ∧ x1 ≤ 101) ∧ (0 ≤ x2 ∧ x2 ≤ 21) ∧ Below w.heap.size w w'
set_option maxRecDepth 100000 in
set_option maxHeartbeats 2000000 in
theorem DrawShortestTo_any (a : Option Addr) (len cap : Nat) (w : World) (h : ByteRow w a len) :
    Calls Try.prog 30 #[.slice a len cap] w (DrawShortestToPost w) := by
  have HC := Lib.hid (cur_new (cap := cap) h 53)
  have HB0 := Lib.hid ((Below.refl w.heap.size w).alloc (Nat.le_refl _) (.cells #[.slice a len cap, .int .i64 0, .int .u64 0] 53))
  have hs0 : (w.alloc (.cells #[.slice a len cap, .int .i64 0, .int .u64 0] 53)).heap.size = w.heap.size + 1 := by simp
  clear h
  go_enter Try.func30, Try.ntmps30
  go_upto_region 2 with fail
  generalize hw0 : w.alloc (.cells #[.slice a len cap, .int .i64 0, .int .u64 0] 53) = w0 at *
  clear hw0
  have HS0 := Lib.hid hs0
  clear hs0
  go_wp2_with fail
  refine (speed9_any w.heap.size w.heap.size (0) w0 HC.out (by omega)).mono ?_
  rintro e w1 ⟨x0, rfl, hb0, hc, hg⟩
  have C1 := Lib.hid hc
  have G1 := Lib.hid (hg)
  clear hc hg
  go_wp2_with fail
  refine (speed9_any w.heap.size w.heap.size (0 + 2) w1 C1.out (by omega)).mono ?_
  rintro e w2 ⟨x1, rfl, hb1, hc, hg⟩
  have C2 := Lib.hid hc
  have G2 := Lib.hid (grown_trans G1.out hg)
  clear hc hg G1 C1
  go_wp2_with fail
  refine (rate9_any w.heap.size w.heap.size (0 + 2 + 2) w2 C2.out (by omega)).mono ?_
  rintro e w3 ⟨x2, rfl, hb2, hc, hg⟩
  have C3 := Lib.hid hc
  have G3 := Lib.hid (grown_trans G2.out hg)
  clear hc hg G2 C2
  have hs0 := HS0.out
  have HB := Lib.hid (HB0.out.trans (grown_below G3.out (show w.heap.size ≤ w0.heap.size by omega) (fun k hk => by cases hk; omega)))
  go_wp2_with fail
  go_ret3
  exact ⟨x0, x1, x2, rfl, hb0, hb1, hb2, HB.out⟩
def DrawIsProfilePost (w : World) (e : Ending) (w' : World) : Prop := ∃ (v : Value) (l : List Int), e = .returned v ∧ DpRow w w' v l ∧ Below w.heap.size w w'
set_option maxRecDepth 100000 in
set_option maxHeartbeats 2000000 in
theorem DrawIsProfile_any (a : Option Addr) (len cap : Nat) (w : World) (h : ByteRow w a len) :
    Calls Try.prog 53 #[.slice a len cap] w (DrawIsProfilePost w) := by
  have HC := Lib.hid (cur_new (cap := cap) h 53)
  have HB0 := Lib.hid ((Below.refl w.heap.size w).alloc (Nat.le_refl _) (.cells #[.slice a len cap, .int .i64 0, .int .u64 0] 53))
  have hs0 : (w.alloc (.cells #[.slice a len cap, .int .i64 0, .int .u64 0] 53)).heap.size = w.heap.size + 1 := by simp
  clear h
  go_enter Try.func53, Try.ntmps53
  go_upto_region 2 with fail
  generalize hw0 : w.alloc (.cells #[.slice a len cap, .int .i64 0, .int .u64 0] 53) = w0 at *
  clear hw0
  go_wp2_with fail
  refine (profile9_any w.heap.size w.heap.size 0 w0 HC.out (by omega)).mono ?_
  rintro e w1 ⟨v, l, rfl, s1, hl⟩
  have S1 := Lib.hid s1
  clear s1 HC
  have HO := Lib.hid (own_mono S1.out.own (show w.heap.size ≤ w0.heap.size by omega))
  have HB := Lib.hid (HB0.out.trans (grown_below S1.out.gr (show w.heap.size ≤ w0.heap.size by omega) (fun k hk => by cases hk; omega)))
  clear S1
  go_wp2_with fail
  go_ret
  exact ⟨v, l, rfl, ⟨HO.out, hl⟩, HB.out⟩
def DrawDoubleWayPost (w : World) (e : Ending) (w' : World) : Prop := ∃ (v : Value) (l : List Int), e = .returned v ∧ DpRow w w' v l ∧ Below w.heap.size w w'
set_option maxRecDepth 100000 in
set_option maxHeartbeats 2000000 in
theorem DrawDoubleWay_any (a : Option Addr) (len cap : Nat) (w : World) (h : ByteRow w a len) :
    Calls Try.prog 33 #[.slice a len cap] w (DrawDoubleWayPost w) := by
  have HH := Lib.hid h
  clear h
  go_enter Try.func33, Try.ntmps33
  go_wp2_with fail
  refine (DrawIsProfile_any a len cap w HH.out).mono ?_
  rintro e w1 ⟨v, l, rfl, o1, b1⟩
  have HO := Lib.hid o1
  have HB := Lib.hid b1
  clear o1 b1
  go_wp2_with fail
  go_ret
  exact ⟨v, l, rfl, HO.out, HB.out⟩
def DrawSmoothProfilePost (w : World) (e : Ending) (w' : World) : Prop := ∃ (v : Value) (l : List Int), e = .returned v ∧ DpRow w w' v l ∧ Below w.heap.size w w'
set_option maxRecDepth 100000 in
set_option maxHeartbeats 2000000 in
theorem DrawSmoothProfile_any (a : Option Addr) (len cap : Nat) (w : World) (h : ByteRow w a len) :
    Calls Try.prog 20 #[.slice a len cap] w (DrawSmoothProfilePost w) := by
  have HH := Lib.hid h
  clear h
  go_enter Try.func20, Try.ntmps20
  go_wp2_with fail
  refine (DrawIsProfile_any a len cap w HH.out).mono ?_
  rintro e w1 ⟨v, l, rfl, o1, b1⟩
  have HO := Lib.hid o1
  have HB := Lib.hid b1
  clear o1 b1
  go_wp2_with fail
  go_ret
  exact ⟨v, l, rfl, HO.out, HB.out⟩
def DrawDoesKeepPost (w : World) (e : Ending) (w' : World) : Prop := ∃ (v : Value) (l : List Int) (x : Int), e = .returned (.tuple #[v, .int .i64 x]) ∧ DpRow w w' v l ∧ (0 ≤ x ∧ x ≤ 21) ∧ Below w.heap.size w w'
set_option maxRecDepth 100000 in
set_option maxHeartbeats 2000000 in
theorem DrawDoesKeep_any (a : Option Addr) (len cap : Nat) (w : World) (h : ByteRow w a len) :
    Calls Try.prog 18 #[.slice a len cap] w (DrawDoesKeepPost w) := by
  have HC := Lib.hid (cur_new (cap := cap) h 53)
  have HB0 := Lib.hid ((Below.refl w.heap.size w).alloc (Nat.le_refl _) (.cells #[.slice a len cap, .int .i64 0, .int .u64 0] 53))
  have hs0 : (w.alloc (.cells #[.slice a len cap, .int .i64 0, .int .u64 0] 53)).heap.size = w.heap.size + 1 := by simp
  clear h
  go_enter Try.func18, Try.ntmps18
  go_upto_region 2 with fail
  generalize hw0 : w.alloc (.cells #[.slice a len cap, .int .i64 0, .int .u64 0] 53) = w0 at *
  clear hw0
  go_wp2_with fail
  refine (profile9_any w.heap.size w.heap.size 0 w0 HC.out (by omega)).mono ?_
  rintro e w1 ⟨v, l, rfl, s1, hl⟩
  have S1 := Lib.hid s1
  clear s1 HC
  go_wp2_with fail
  refine (rate9_any w.heap.size w.heap.size (0 + 100) w1 S1.out.cur (by omega)).mono ?_
  rintro e w2 ⟨x, rfl, hx, hc, hg⟩
  have S2 := Lib.hid (S1.out.call hc hg)
  clear S1 hc hg
  have HO := Lib.hid (own_mono S2.out.own (show w.heap.size ≤ w0.heap.size by omega))
  have HB := Lib.hid (HB0.out.trans (grown_below S2.out.gr (show w.heap.size ≤ w0.heap.size by omega) (fun k hk => by cases hk; omega)))
  clear S2
  go_wp2_with fail
  go_ret2
  exact ⟨v, l, x, rfl, ⟨HO.out, hl⟩, hx, HB.out⟩
def DrawFastestUnderPost (w : World) (e : Ending) (w' : World) : Prop := ∃ (v : Value) (l : List Int) (f x : Int), e = .returned (.tuple #[v, .int .i64 f, .int .i64 x]) ∧ DpRow w w' v l ∧ Below w.heap.size w w'
set_option maxRecDepth 100000 in
set_option maxHeartbeats 2000000 in
theorem DrawFastestUnder_any (a : Option Addr) (len cap : Nat) (w : World) (h : ByteRow w a len) :
    Calls Try.prog 9 #[.slice a len cap] w (DrawFastestUnderPost w) := by
  have HC := Lib.hid (cur_new (cap := cap) h 53)
  have HB0 := Lib.hid ((Below.refl w.heap.size w).alloc (Nat.le_refl _) (.cells #[.slice a len cap, .int .i64 0, .int .u64 0] 53))
  have hs0 : (w.alloc (.cells #[.slice a len cap, .int .i64 0, .int .u64 0] 53)).heap.size = w.heap.size + 1 := by simp
  clear h
  go_enter Try.func9, Try.ntmps9
  go_upto_region 2 with fail
  generalize hw0 : w.alloc (.cells #[.slice a len cap, .int .i64 0, .int .u64 0] 53) = w0 at *
  clear hw0
  go_wp2_with fail
  refine (profile9_any w.heap.size w.heap.size 0 w0 HC.out (by omega)).mono ?_
  rintro e w1 ⟨v, l, rfl, s1, hl⟩
  have S1 := Lib.hid s1
  clear s1 HC
  go_wp2_with fail
  refine (speed9_any w.heap.size w.heap.size (0 + 100) w1 S1.out.cur (by omega)).mono ?_
  rintro e w2 ⟨f, rfl, hf, hc, hg⟩
  have S2 := Lib.hid (S1.out.call hc hg)
  clear S1 hc hg
  obtain ⟨va, vc, rfl⟩ := (Rs.of_own S2.out.own).shape
  by_cases h0 : 0 < l.length
  · obtain ⟨g, gc, hve, hwg, hgw, hgc, hgm⟩ := StI.shape S2.out h0
    simp only [Value.slice.injEq] at hve
    obtain ⟨rfl, _, rfl⟩ := hve
    have t0 : (0 : Int) < (l.length : Int) := by omega
    go_wp2_with fail
    refine (one_any w.heap.size w.heap.size (0 + 100 + 2) 2 w2 S2.out.cur (by omega) (by omega) (by omega)).mono ?_
    rintro e w3 ⟨p, rfl, hc, hg⟩
    have S3 := Lib.hid (S2.out.call hc hg)
    clear S2 hc hg
    cases p with
    | false =>
      go_wp2_with fail
      refine (rate9_any w.heap.size w.heap.size (0 + 100 + 2 + 2) _ S3.out.cur (by omega)).mono ?_
      rintro e w5 ⟨x, rfl, hx, hc, hg⟩
      have S5 := Lib.hid (S3.out.call hc hg)
      clear S3 hc hg
      have HO := Lib.hid (own_mono S5.out.own (show w.heap.size ≤ w0.heap.size by omega))
      have HB := Lib.hid (HB0.out.trans (grown_below S5.out.gr (show w.heap.size ≤ w0.heap.size by omega) (fun k hk => by cases hk; omega)))
      clear S5
      go_wp2_with fail
      go_ret3
      exact ⟨_, l, f, x, rfl, ⟨HO.out, hl⟩, HB.out⟩
    | true =>
      have c0 := (S3.out.own.cellAt 0 (by omega)).trans (int_at (l := l) (by omega))
      have E1 := Lib.hid (fun W => least9_c f (l.getD 0 0) W)
      generalize l.getD 0 0 = X at *
      obtain ⟨F, hF⟩ : ∃ F, (if f < X then f else X) = F := ⟨_, rfl⟩
      rw [hF] at E1
      clear hF
      go_wp2_with fail
      refine (E1.out _).mono ?_
      rintro e w4 ⟨rfl, rfl⟩
      clear c0
      go_wp2_with fail
      refine (rate9_any w.heap.size w.heap.size (0 + 100 + 2 + 2) _ S3.out.cur (by omega)).mono ?_
      rintro e w5 ⟨x, rfl, hx, hc, hg⟩
      have S5 := Lib.hid (S3.out.call hc hg)
      clear S3 hc hg
      have HO := Lib.hid (own_mono S5.out.own (show w.heap.size ≤ w0.heap.size by omega))
      have HB := Lib.hid (HB0.out.trans (grown_below S5.out.gr (show w.heap.size ≤ w0.heap.size by omega) (fun k hk => by cases hk; omega)))
      clear S5
      go_wp2_with fail
      go_ret3
      exact ⟨_, l, F, x, rfl, ⟨HO.out, hl⟩, HB.out⟩
  · have t0 : ¬ (0 : Int) < (l.length : Int) := by omega
    have t1 : decide ((0 : Int) < (l.length : Int)) = false := decide_eq_false t0
    have t2 : l.length = 0 := by omega
    have T2 := Lib.hid t2
    clear t2 h0
    have S3 := S2
    clear S2
    go_wp2_with fail
    refine (rate9_any w.heap.size w.heap.size (0 + 100 + 2) _ S3.out.cur (by omega)).mono ?_
    rintro e w5 ⟨x, rfl, hx, hc, hg⟩
    have S5 := Lib.hid (S3.out.call hc hg)
    clear S3 hc hg
    have HO := Lib.hid (own_mono S5.out.own (show w.heap.size ≤ w0.heap.size by omega))
    have HB := Lib.hid (HB0.out.trans (grown_below S5.out.gr (show w.heap.size ≤ w0.heap.size by omega) (fun k hk => by cases hk; omega)))
    clear S5
    go_wp2_with fail
    go_ret3
    exact ⟨_, l, f, x, rfl, ⟨HO.out, hl⟩, HB.out⟩

def DrawJoinProfilesPost (w : World) (e : Ending) (w' : World) : Prop := ∃ (v : Value) (l : List Int) (u : Value) (m : List Int), e = .returned (.tuple #[v, u]) ∧ DpRow w w' v l ∧ DpRow w w' u m ∧ Below w.heap.size w w'
set_option maxRecDepth 100000 in
set_option maxHeartbeats 2000000 in
theorem DrawJoinProfiles_any (a : Option Addr) (len cap : Nat) (w : World) (h : ByteRow w a len) :
    Calls Try.prog 14 #[.slice a len cap] w (DrawJoinProfilesPost w) := by
  have HC := Lib.hid (cur_new (cap := cap) h 53)
  have HB0 := Lib.hid ((Below.refl w.heap.size w).alloc (Nat.le_refl _) (.cells #[.slice a len cap, .int .i64 0, .int .u64 0] 53))
  have hs0 : (w.alloc (.cells #[.slice a len cap, .int .i64 0, .int .u64 0] 53)).heap.size = w.heap.size + 1 := by simp
  clear h
  go_enter Try.func14, Try.ntmps14
  go_upto_region 2 with fail
  generalize hw0 : w.alloc (.cells #[.slice a len cap, .int .i64 0, .int .u64 0] 53) = w0 at *
  clear hw0
  go_wp2_with fail
  refine (profile9_any w.heap.size w.heap.size 0 w0 HC.out (by omega)).mono ?_
  rintro e w1 ⟨v, l, rfl, s1, hl⟩
  have S1 := Lib.hid s1
  clear s1 HC
  go_wp2_with fail
  refine (profile9_any w.heap.size w.heap.size (0 + 100) w1 S1.out.cur (by omega)).mono ?_
  rintro e w2 ⟨u, m, rfl, s2, hm⟩
  have S2 := Lib.hid s2
  have SA0 := Lib.hid (S1.out.call s2.cur s2.gr)
  have hs1 := S1.out.size
  have HLT := Lib.hid (fun j hj => (S1.out.own.lt j hj).2)
  clear s2 S1
  obtain ⟨va, vc, rfl⟩ := (Rs.of_own SA0.out.own).shape
  obtain ⟨ua, uc, rfl⟩ := (Rs.of_own S2.out.own).shape
  have SA := SA0
  have SB := S2
  clear SA0 S2
  by_cases h0 : 0 < l.length
  · have t0 : (0 : Int) < (l.length : Int) := by omega
    by_cases h1 : 0 < m.length
    · have t1 : (0 : Int) < (m.length : Int) := by omega
      obtain ⟨g, gc, hve, hwg, hgw, hgc, hgm⟩ := StI.shape SA.out h0
      simp only [Value.slice.injEq] at hve
      obtain ⟨rfl, _, rfl⟩ := hve
      obtain ⟨g2, gc2, hve, hwg2, hgw2, hgc2, hgm2⟩ := StI.shape SB.out h1
      simp only [Value.slice.injEq] at hve
      obtain ⟨rfl, _, rfl⟩ := hve
      go_wp2_with fail
      refine (one_any w.heap.size w.heap.size (0 + 100 + 100) 5 w2 SB.out.cur (by omega) (by omega) (by omega)).mono ?_
      rintro e w3 ⟨p, rfl, hc, hg⟩
      have SA3 := Lib.hid (SA.out.call hc hg)
      have SB3 := Lib.hid (SB.out.call hc hg)
      clear SA SB hc hg
      have SA := SA3
      have SB := SB3
      clear SA3 SB3
      cases p with
      | true =>
        have HOA := Lib.hid (own_mono SA.out.own (show w.heap.size ≤ w0.heap.size by omega))
        have HOB := Lib.hid (own_mono SB.out.own (show w.heap.size ≤ w1.heap.size by omega))
        have HB := Lib.hid (HB0.out.trans (grown_below SA.out.gr (show w.heap.size ≤ w0.heap.size by omega) (fun k hk => by cases hk; omega)))
        clear SA SB
        go_wp2_with fail
        go_ret2
        exact ⟨_, l, _, m, rfl, ⟨HOA.out, hl⟩, ⟨HOB.out, hm⟩, HB.out⟩
      | false =>
        have hg1 := HLT.out g rfl
        have hgne : g ≠ g2 := by omega
        have c1 := (SA.out.own.cellAt (l.length - 1) (by omega)).trans (int_at (l := l) (by omega))
        have c0 := (SB.out.own.cellAt 0 (by omega)).trans (int_at (l := m) (by omega))
        have f0 := SB.out.own.frozenAt 0
        obtain ⟨p1, p2, p3⟩ := pred_in l.length (by omega) (by omega)
        generalize l.getD (l.length - 1) 0 = X at *
        have q1 := SB.out.own.stored 0 (.int .i64 X)
        have q2 := q1.1
        rw [iv_set] at q2
        have SB2 := Lib.hid (St.app SB.out q2 q1.2)
        have HOA := Lib.hid (own_mono (SA.out.own.kept q1.2 (.inr (by simp [Value.ownBlock]; exact hgne))) (show w.heap.size ≤ w0.heap.size by omega))
        have HOB := Lib.hid (own_mono q2 (show w.heap.size ≤ w1.heap.size by omega))
        have HB := Lib.hid (Below.trans (HB0.out.trans (grown_below SA.out.gr (show w.heap.size ≤ w0.heap.size by omega) (fun k hk => by cases hk; omega))) ((Below.refl w.heap.size w3).setCell (p := ⟨g2, 0, none⟩) (show w.heap.size ≤ g2 by omega) (.int .i64 X)))
        have t3 : (l.length : Int) - 1 < (l.length : Int) := by omega
        have t4 : (1 : Int) ≤ (l.length : Int) := by omega
        clear SA SB SB2 q1 q2
        go_wp2
        go_ret2
        exact ⟨_, l, _, m.set 0 X, rfl, ⟨HOA.out, hl⟩, ⟨by rw [List.length_set]; exact HOB.out, by rw [List.length_set]; exact hm⟩, HB.out⟩
    · have t1 : ¬ (0 : Int) < (m.length : Int) := by omega
      have t2 : decide ((0 : Int) < (m.length : Int)) = false := decide_eq_false t1
      have T1 := Lib.hid h1
      clear h1
      have HOA := Lib.hid (own_mono SA.out.own (show w.heap.size ≤ w0.heap.size by omega))
      have HOB := Lib.hid (own_mono SB.out.own (show w.heap.size ≤ w1.heap.size by omega))
      have HB := Lib.hid (HB0.out.trans (grown_below SA.out.gr (show w.heap.size ≤ w0.heap.size by omega) (fun k hk => by cases hk; omega)))
      clear SA SB
      go_wp2_with fail
      go_ret2
      exact ⟨_, l, _, m, rfl, ⟨HOA.out, hl⟩, ⟨HOB.out, hm⟩, HB.out⟩
  · have t0 : ¬ (0 : Int) < (l.length : Int) := by omega
    have t2 : decide ((0 : Int) < (l.length : Int)) = false := decide_eq_false t0
    have T1 := Lib.hid h0
    clear h0
    have HOA := Lib.hid (own_mono SA.out.own (show w.heap.size ≤ w0.heap.size by omega))
    have HOB := Lib.hid (own_mono SB.out.own (show w.heap.size ≤ w1.heap.size by omega))
    have HB := Lib.hid (HB0.out.trans (grown_below SA.out.gr (show w.heap.size ≤ w0.heap.size by omega) (fun k hk => by cases hk; omega)))
    clear SA SB
    go_wp2_with fail
    go_ret2
    exact ⟨_, l, _, m, rfl, ⟨HOA.out, hl⟩, ⟨HOB.out, hm⟩, HB.out⟩
end Go.Proofs.Ytklfipmjdhkkiaa
