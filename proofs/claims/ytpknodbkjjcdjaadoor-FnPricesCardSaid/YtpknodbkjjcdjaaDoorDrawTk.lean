/- The draws of the laws on tickets. Condition: sizes. -/
import Derived.Test.YtpknodbkjjcdjaaDoorDrawKit
import Derived.Test.YtpknodbkjjcdjaaDoorDrawTiks
import Derived.Test.YtpknodbkjjcdjaaDoorCurOne
import Derived.Deep.RegionHeld3
namespace Go.Proofs.YtpknodbkjjcdjaaDoor
open Go.RowKit
set_option linter.unusedVariables false
theorem Cur.drewD {B b k : Nat} {w : World} (h : Cur B b k w) (n : Nat) : Cur B b k (w.drewN n) := h.grown (row := none) (grown_drew w n none) (fun j hj => by cases hj)
theorem Cur.drewT {B b k : Nat} {w : World} (h : Cur B b k w) : Cur B b k w.drew := h.grown (row := none) ⟨rfl, rfl, rfl, Nat.le_refl _, fun _ _ _ => rfl⟩ (fun j hj => by cases hj)
theorem gr_drewT {w W : World} {row : Option Nat} (h : w.grownBy W row) : w.grownBy W.drew row := grown_trans h ⟨rfl, rfl, rfl, Nat.le_refl _, fun _ _ _ => rfl⟩
theorem lit_cells {W : World} {t : TypeId} {l : List Int} {cs : Array Value} {g : Nat} (hcs : cs = (l.map (Value.int .i64)).toArray) (h : W.heap[g]? = some (.cells cs t (0, 0))) :
    ∀ (i : Nat) (hi : i < l.length), W.cell? ⟨g, i, none⟩ = some (.int .i64 l[i]) := by
  intro i hi
  subst hcs
  simp [World.cell?, h, hi]
theorem nalD {W : World} {o : Obj} {g : Nat} (hg : g = W.heap.size) : (W.alloc o).heap[g]? = some o := by subst hg; exact heap_alloc_new W o
theorem odrewD {W : World} {o : Obj} {g n : Nat} (h : W.heap[g]? = some o) : (W.drewN n).heap[g]? = some o := h
theorem odrewD1 {W : World} {o : Obj} {g : Nat} (h : W.heap[g]? = some o) : W.drew.heap[g]? = some o := h
theorem sel8 (r : Nat) (hr : (r : Int) < 24) : ∃ c n : Nat, (8 ≤ n ∧ n ≤ 10) ∧ Int.tdiv (r : Int) 11 = (c : Int) ∧ IntKind.i64.wrap (c : Int) = (c : Int) ∧ IntKind.i64.wrap (8 + (c : Int)) = (n : Int) := by
  refine ⟨r / 11, 8 + r / 11, by omega, by rw [Int.tdiv_eq_ediv_of_nonneg (by omega)]; omega, IntWalk.i64_in _ (by omega), ?_⟩
  rw [IntWalk.i64_in _ (by omega)]
  omega
/-- What drawing a number leaves. -/
def NmPost (B b k : Nat) (w : World) (e : Ending) (w' : World) : Prop := ∃ q : Int, e = .returned (.int .i64 q) ∧ Cur B b (k + 4) w' ∧ w.grownBy w' (some b)
set_option maxRecDepth 100000 in
set_option maxHeartbeats 1000000 in
theorem day11_any (B b k : Nat) (w : World) (h : Cur B b k w) (hk : k ≤ 800000000) :
    Calls Tryd.prog 60 #[.pointer (some ⟨b, 0, none⟩)] w (NmPost B b k w) := by
  have HC := Lib.hid h
  have hb := h.2.1
  clear h
  go_enter Tryd.func60, Tryd.ntmps60
  go_wp2_with fail
  refine (pick_any B b (k) 24 _ (HC.out.alloc _) (by omega) (by omega) (by omega)).mono ?_
  rintro e w1 ⟨rq, rfl, hr, hc, hg⟩
  have Cw1 := Lib.hid hc
  have Gw1 := Lib.hid hg
  have hsw1 := hg.size
  simp at hsw1
  clear hc hg
  obtain ⟨cq, nq, hn, t1, s1, s2⟩ := sel8 rq hr
  clear hr
  go_wp2_with fail
  refine (among_any B b (k + 2) w.heap.size nq _ ([0, 10, 10, 11, 12, 374, 375, 999, -1, 1000].take nq) w1 Cw1.out (by omega) (by rw [List.length_take]; simp; omega) (by omega) (by omega) (by omega) (num_part w 3 [0, 10, 10, 11, 12, 374, 375, 999, -1, 1000] nq _ rfl w1 b Gw1.out (by omega))).mono ?_
  rintro e w2 ⟨q, hx, rfl, hc, hg⟩
  have Cw2 := Lib.hid hc
  have Gw2 := Lib.hid (grown_trans (grown_trans (World.grownBy_alloc w (.cells #[.int .i64 0, .int .i64 10, .int .i64 10, .int .i64 11, .int .i64 12, .int .i64 374, .int .i64 375, .int .i64 999, .int .i64 (-1), .int .i64 1000] 3) (some b)) Gw1.out) hg)
  have hsw2 := hg.size
  clear hc hg hx hn t1 s1 s2 Cw1 Gw1
  go_wp2_with fail
  go_ret
  exact ⟨q, rfl, Cw2.out.mono (by omega), Gw2.out⟩
def DlsPost (w : World) (e : Ending) (w' : World) : Prop := ∃ (v : Value) (l : List Tik), e = .returned v ∧ Rs w' v l.length (tiks l) ∧ l.length ≤ 13 ∧ Below w.heap.size w w'
set_option maxRecDepth 100000 in
set_option maxHeartbeats 1000000 in
theorem DrawAreTickets_any (a : Option Addr) (len cap : Nat) (w : World) (h : ByteRow w a len) :
    Calls Tryd.prog 83 #[.slice a len cap] w (DlsPost w) := by
  have HC := Lib.hid (cur_new (cap := cap) h 84)
  have HB0 := Lib.hid ((Below.refl w.heap.size w).alloc (Nat.le_refl _) (.cells #[.slice a len cap, .int .i64 0, .int .u64 0] 84))
  clear h
  go_enter Tryd.func83, Tryd.ntmps83
  go_upto_region 2 with fail
  generalize hw0 : w.alloc (.cells #[.slice a len cap, .int .i64 0, .int .u64 0] 84) = w0 at *
  clear hw0
  go_wp2_with fail
  refine (tickets_any w.heap.size w.heap.size 0 w0 HC.out (by omega)).mono ?_
  rintro e w1 ⟨v, l, rfl, o1, hl, hc, b1, hq⟩
  have HO := Lib.hid (Rs.of_own o1)
  have HB := Lib.hid (HB0.out.trans b1)
  clear o1 hc b1
  go_wp2_with fail
  go_ret
  exact ⟨v, l, rfl, HO.out, hl, HB.out⟩
theorem DrawStillUp_any (a : Option Addr) (len cap : Nat) (w : World) (h : ByteRow w a len) :
    Calls Tryd.prog 41 #[.slice a len cap] w (DlsPost w) := by
  have HH := Lib.hid h
  clear h
  go_enter Tryd.func41, Tryd.ntmps41
  go_wp2_with fail
  refine (DrawAreTickets_any a len cap w HH.out).mono ?_
  rintro e w1 ⟨v, l, rfl, o1, hl, b1⟩
  have HO := Lib.hid o1
  have HB := Lib.hid b1
  clear o1 b1
  go_wp2_with fail
  go_ret
  exact ⟨v, l, rfl, HO.out, hl, HB.out⟩
def DexPost (w : World) (e : Ending) (w' : World) : Prop := ∃ (v : Value) (l : List Tik) (d : Int), e = .returned (.tuple #[v, .int .i64 d]) ∧ Rs w' v l.length (tiks l) ∧ l.length ≤ 13 ∧ Below w.heap.size w w'
set_option maxRecDepth 100000 in
set_option maxHeartbeats 2500000 in
theorem DrawExpiredOn_any (a : Option Addr) (len cap : Nat) (w : World) (h : ByteRow w a len) :
    Calls Tryd.prog 28 #[.slice a len cap] w (DexPost w) := by
  have HC := Lib.hid (cur_new (cap := cap) h 84)
  have HB0 := Lib.hid ((Below.refl w.heap.size w).alloc (Nat.le_refl _) (.cells #[.slice a len cap, .int .i64 0, .int .u64 0] 84))
  have hs0 : (w.alloc (.cells #[.slice a len cap, .int .i64 0, .int .u64 0] 84)).heap.size = w.heap.size + 1 := by simp
  clear h
  go_enter Tryd.func28, Tryd.ntmps28
  go_upto_region 2 with fail
  generalize hw0 : w.alloc (.cells #[.slice a len cap, .int .i64 0, .int .u64 0] 84) = w0 at *
  clear hw0
  go_wp2_with fail
  refine (tickets_any w.heap.size w.heap.size 0 w0 HC.out (by omega)).mono ?_
  rintro e w1 ⟨v, l, rfl, o1, hl, hc, b1, hq⟩
  have HO := Lib.hid o1
  have HB := Lib.hid (HB0.out.trans b1)
  have Cw1 := Lib.hid hc
  have hs1 := b1.size
  clear o1 hc b1 hq HC
  have hz1 : w.heap.size < w1.heap.size := by omega
  have hne : v.ownBlock = none ∨ v.ownBlock ≠ some w.heap.size := by
    cases hu : v.ownBlock with
    | none => exact .inl rfl
    | some j => exact .inr (fun e => by have := (HO.out.lt j hu).1; have := Option.some.inj e; omega)
  go_wp2_with fail
  refine (day11_any w.heap.size w.heap.size (0 + 500) w1 Cw1.out (by omega)).mono ?_
  rintro e w2 ⟨d, rfl, hc, hg⟩
  have Cw2 := Lib.hid hc
  have Gw2 := Lib.hid hg
  have hsw2 := hg.size
  clear hc hg
  have Tw2 := Gw2
  have hzw2 : w.heap.size < w2.heap.size := by omega
  have HR := Lib.hid (Rs.of_own (HO.out.kept Tw2.out hne))
  have HB9 := Lib.hid (HB.out.trans (grown_below Tw2.out (by omega) (fun k hk => by cases hk; exact Nat.le_refl _)))
  go_wp2_with fail
  go_ret2
  exact ⟨_, l, d, rfl, HR.out, hl, HB9.out⟩
def DslPost (w : World) (e : Ending) (w' : World) : Prop := ∃ (v : Value) (l : List Tik) (s d : Int), e = .returned (.tuple #[v, .int .i64 s, .int .i64 d]) ∧ Rs w' v l.length (tiks l) ∧ l.length ≤ 13 ∧ Below w.heap.size w w'
set_option maxRecDepth 100000 in
set_option maxHeartbeats 2500000 in
theorem DrawSellTicket_any (a : Option Addr) (len cap : Nat) (w : World) (h : ByteRow w a len) :
    Calls Tryd.prog 22 #[.slice a len cap] w (DslPost w) := by
  have HC := Lib.hid (cur_new (cap := cap) h 84)
  have HB0 := Lib.hid ((Below.refl w.heap.size w).alloc (Nat.le_refl _) (.cells #[.slice a len cap, .int .i64 0, .int .u64 0] 84))
  have hs0 : (w.alloc (.cells #[.slice a len cap, .int .i64 0, .int .u64 0] 84)).heap.size = w.heap.size + 1 := by simp
  clear h
  go_enter Tryd.func22, Tryd.ntmps22
  go_upto_region 2 with fail
  generalize hw0 : w.alloc (.cells #[.slice a len cap, .int .i64 0, .int .u64 0] 84) = w0 at *
  clear hw0
  go_wp2_with fail
  refine (tickets_any w.heap.size w.heap.size 0 w0 HC.out (by omega)).mono ?_
  rintro e w1 ⟨v, l, rfl, o1, hl, hc, b1, hq⟩
  have HO := Lib.hid o1
  have HB := Lib.hid (HB0.out.trans b1)
  have Cw1 := Lib.hid hc
  have hs1 := b1.size
  clear o1 hc b1 hq HC
  have hz1 : w.heap.size < w1.heap.size := by omega
  have hne : v.ownBlock = none ∨ v.ownBlock ≠ some w.heap.size := by
    cases hu : v.ownBlock with
    | none => exact .inl rfl
    | some j => exact .inr (fun e => by have := (HO.out.lt j hu).1; have := Option.some.inj e; omega)
  go_wp2_with fail
  refine (pick_any w.heap.size w.heap.size (0 + 500) 24 _ (Cw1.out.alloc _) (by omega) (by omega) (by omega)).mono ?_
  rintro e w2 ⟨rs, rfl, hr, hc, hg⟩
  have Cw2 := Lib.hid hc
  have Gw2 := Lib.hid hg
  have hsw2 := hg.size
  simp at hsw2
  clear hc hg
  obtain ⟨cs, ns, hn, t1, s1, s2⟩ := sel4 rs hr
  clear hr
  go_wp2_with fail
  refine (among_any w.heap.size w.heap.size (0 + 500 + 2) w1.heap.size ns _ ([0, 1, 2, 3, -1, 4].take ns) w2 Cw2.out (by omega) (by rw [List.length_take]; simp; omega) (by omega) (by omega) (by omega) (num_part w1 3 [0, 1, 2, 3, -1, 4] ns _ rfl w2 w.heap.size Gw2.out (by omega))).mono ?_
  rintro e w3 ⟨s, hx, rfl, hc, hg⟩
  have Cw3 := Lib.hid hc
  have Gw3 := Lib.hid (grown_trans (grown_trans (World.grownBy_alloc w1 (.cells #[.int .i64 0, .int .i64 1, .int .i64 2, .int .i64 3, .int .i64 (-1), .int .i64 4] 3) (some w.heap.size)) Gw2.out) hg)
  have hsw3 := hg.size
  clear hc hg hx hn t1 s1 s2 Cw2 Gw2
  have Tw3 := Gw3
  have hzw3 : w.heap.size < w3.heap.size := by omega
  go_wp2_with fail
  refine (day11_any w.heap.size w.heap.size (0 + 500 + 2 + 2) w3 Cw3.out (by omega)).mono ?_
  rintro e w4 ⟨d, rfl, hc, hg⟩
  have Cw4 := Lib.hid hc
  have Gw4 := Lib.hid hg
  have hsw4 := hg.size
  clear hc hg
  have Tw4 := Lib.hid (grown_trans Tw3.out Gw4.out)
  have hzw4 : w.heap.size < w4.heap.size := by omega
  have HR := Lib.hid (Rs.of_own (HO.out.kept Tw4.out hne))
  have HB9 := Lib.hid (HB.out.trans (grown_below Tw4.out (by omega) (fun k hk => by cases hk; exact Nat.le_refl _)))
  go_wp2_with fail
  go_ret3
  exact ⟨_, l, s, d, rfl, HR.out, hl, HB9.out⟩
def DusPost (w : World) (e : Ending) (w' : World) : Prop := ∃ (v : Value) (l : List Tik) (n d : Int) (u : Bool), e = .returned (.tuple #[v, .int .i64 n, .int .i64 d, .bool u]) ∧ Rs w' v l.length (tiks l) ∧ l.length ≤ 13 ∧ Below w.heap.size w w'
set_option maxRecDepth 100000 in
set_option maxHeartbeats 2500000 in
theorem DrawUseTicket_any (a : Option Addr) (len cap : Nat) (w : World) (h : ByteRow w a len) :
    Calls Tryd.prog 16 #[.slice a len cap] w (DusPost w) := by
  have HC := Lib.hid (cur_new (cap := cap) h 84)
  have HB0 := Lib.hid ((Below.refl w.heap.size w).alloc (Nat.le_refl _) (.cells #[.slice a len cap, .int .i64 0, .int .u64 0] 84))
  have hs0 : (w.alloc (.cells #[.slice a len cap, .int .i64 0, .int .u64 0] 84)).heap.size = w.heap.size + 1 := by simp
  clear h
  go_enter Tryd.func16, Tryd.ntmps16
  go_upto_region 2 with fail
  generalize hw0 : w.alloc (.cells #[.slice a len cap, .int .i64 0, .int .u64 0] 84) = w0 at *
  clear hw0
  go_wp2_with fail
  refine (tickets_any w.heap.size w.heap.size 0 w0 HC.out (by omega)).mono ?_
  rintro e w1 ⟨v, l, rfl, o1, hl, hc, b1, hq⟩
  have HO := Lib.hid o1
  have HB := Lib.hid (HB0.out.trans b1)
  have Cw1 := Lib.hid hc
  have hs1 := b1.size
  clear o1 hc b1 hq HC
  have hz1 : w.heap.size < w1.heap.size := by omega
  have hne : v.ownBlock = none ∨ v.ownBlock ≠ some w.heap.size := by
    cases hu : v.ownBlock with
    | none => exact .inl rfl
    | some j => exact .inr (fun e => by have := (HO.out.lt j hu).1; have := Option.some.inj e; omega)
  obtain ⟨ao, ca, rfl⟩ := (Rs.of_own HO.out).shape
  by_cases h0 : l.length = 0
  · have t0 : decide ((0 : Int) < (l.length : Int)) = false := by rw [h0]; simp
    have t1 : decide (0 < l.length) = false := by rw [h0]; simp
    clear h0
    go_wp2_with fail
    refine (among_any w.heap.size w.heap.size (0 + 500) w1.heap.size 3 3 [0, 1, 50] _ (Cw1.out.alloc _) (by omega) rfl (by omega) (by omega) (by omega) (num_cells w1 3 [0, 1, 50] _ rfl)).mono ?_
    rintro e w2 ⟨n, hx, rfl, hc, hg⟩
    have Cw2 := Lib.hid hc
    have Gw2 := Lib.hid (grown_trans (World.grownBy_alloc w1 (.cells #[.int .i64 0, .int .i64 1, .int .i64 50] 3) (some w.heap.size)) hg)
    have hsw2 := hg.size
    simp at hsw2
    clear hc hg hx
    have Tw2 := Gw2
    have hzw2 : w.heap.size < w2.heap.size := by omega
    go_wp2_with fail
    refine (day11_any w.heap.size w.heap.size (0 + 500 + 2) w2 Cw2.out (by omega)).mono ?_
    rintro e w3 ⟨d, rfl, hc, hg⟩
    have Cw3 := Lib.hid hc
    have Gw3 := Lib.hid hg
    have hsw3 := hg.size
    clear hc hg
    have Tw3 := Lib.hid (grown_trans Tw2.out Gw3.out)
    have hzw3 : w.heap.size < w3.heap.size := by omega
    go_wp2_with fail
    refine (one_any w.heap.size w.heap.size (0 + 500 + 2 + 4) 2 w3 Cw3.out (by omega) (by omega) (by omega)).mono ?_
    rintro e w4 ⟨u, rfl, hc, hg⟩
    have Cw4 := Lib.hid hc
    have Gw4 := Lib.hid hg
    have hsw4 := hg.size
    clear hc hg
    have Tw4 := Lib.hid (grown_trans Tw3.out Gw4.out)
    have hzw4 : w.heap.size < w4.heap.size := by omega
    have HR := Lib.hid (Rs.of_own (HO.out.kept Tw4.out hne))
    have HB9 := Lib.hid (HB.out.trans (grown_below Tw4.out (by omega) (fun k hk => by cases hk; exact Nat.le_refl _)))
    go_wp2_with fail
    refine bodyPost_ret (results_tmp4 rfl _ _ _) rfl ?_
    exact ⟨_, l, n, d, u, rfl, HR.out, hl, HB9.out⟩
  · have t0 : decide ((0 : Int) < (l.length : Int)) = true := by simp; omega
    have t1 : decide (0 < l.length) = true := by simp; omega
    have hp : 0 < l.length := by omega
    clear h0
    go_wp2_with fail
    refine (one_any w.heap.size w.heap.size (0 + 500) 8 w1 Cw1.out (by omega) (by omega) (by omega)).mono ?_
    rintro e w2 ⟨z, rfl, hc, hg⟩
    have Cw2 := Lib.hid hc
    have Gw2 := Lib.hid hg
    have hsw2 := hg.size
    clear hc hg
    have Tw2 := Gw2
    have hzw2 : w.heap.size < w2.heap.size := by omega
    cases z with
    | true =>
      go_wp2_with fail
      refine (among_any w.heap.size w.heap.size (0 + 500 + 2) w2.heap.size 3 3 [0, 1, 50] _ (Cw2.out.alloc _) (by omega) rfl (by omega) (by omega) (by omega) (num_cells w2 3 [0, 1, 50] _ rfl)).mono ?_
      rintro e w3 ⟨n, hx, rfl, hc, hg⟩
      have Cw3 := Lib.hid hc
      have Gw3 := Lib.hid (grown_trans (World.grownBy_alloc w2 (.cells #[.int .i64 0, .int .i64 1, .int .i64 50] 3) (some w.heap.size)) hg)
      have hsw3 := hg.size
      simp at hsw3
      clear hc hg hx
      have Tw3 := Lib.hid (grown_trans Tw2.out Gw3.out)
      have hzw3 : w.heap.size < w3.heap.size := by omega
      go_wp2_with fail
      refine (day11_any w.heap.size w.heap.size (0 + 500 + 2 + 2) w3 Cw3.out (by omega)).mono ?_
      rintro e w4 ⟨d, rfl, hc, hg⟩
      have Cw4 := Lib.hid hc
      have Gw4 := Lib.hid hg
      have hsw4 := hg.size
      clear hc hg
      have Tw4 := Lib.hid (grown_trans Tw3.out Gw4.out)
      have hzw4 : w.heap.size < w4.heap.size := by omega
      go_wp2_with fail
      refine (one_any w.heap.size w.heap.size (0 + 500 + 2 + 2 + 4) 2 w4 Cw4.out (by omega) (by omega) (by omega)).mono ?_
      rintro e w5 ⟨u, rfl, hc, hg⟩
      have Cw5 := Lib.hid hc
      have Gw5 := Lib.hid hg
      have hsw5 := hg.size
      clear hc hg
      have Tw5 := Lib.hid (grown_trans Tw4.out Gw5.out)
      have hzw5 : w.heap.size < w5.heap.size := by omega
      have HR := Lib.hid (Rs.of_own (HO.out.kept Tw5.out hne))
      have HB9 := Lib.hid (HB.out.trans (grown_below Tw5.out (by omega) (fun k hk => by cases hk; exact Nat.le_refl _)))
      go_wp2_with fail
      refine bodyPost_ret (results_tmp4 rfl _ _ _) rfl ?_
      exact ⟨_, l, n, d, u, rfl, HR.out, hl, HB9.out⟩
    | false =>
      go_wp2_with fail
      refine (pick_any w.heap.size w.heap.size (0 + 500 + 2) (l.length : Int) w2 Cw2.out (by omega) (by omega) (by omega)).mono ?_
      rintro e w3 ⟨r, rfl, hr, hc, hg⟩
      have hrl : r < l.length := by omega
      have Cw3 := Lib.hid hc
      have Tw3 := Lib.hid (grown_trans Tw2.out hg)
      have hsw3 := hg.size
      have HO3 := Lib.hid (HO.out.kept Tw3.out hne)
      obtain ⟨bo, oo, cc, hv, hbo, hlm, hat⟩ := (Rs.of_own HO3.out).at_Tik (by omega)
      cases hv
      obtain ⟨c0, c1, c2, c3, c4⟩ := hat r hrl
      have i1 : (r : Int) < (l.length : Int) := by omega
      generalize gth l r = D at *
      clear hc hg hr hat Tw2 Cw2 Gw2
      have K4 := Lib.hid (heap_alloc_new w3 (.cells #[.int .i64 D.i, .int .i64 D.s, .int .i64 D.w, .int .i64 D.g, .int .i64 D.p] 31))
      have C4 := Lib.hid (Cw3.out.alloc (.cells #[.int .i64 D.i, .int .i64 D.s, .int .i64 D.w, .int .i64 D.g, .int .i64 D.p] 31))
      have T4 := Lib.hid (grown_trans Tw3.out (World.grownBy_alloc w3 (.cells #[.int .i64 D.i, .int .i64 D.s, .int .i64 D.w, .int .i64 D.g, .int .i64 D.p] 31) (some w.heap.size)))
      have hz4 : (w3.alloc (.cells #[.int .i64 D.i, .int .i64 D.s, .int .i64 D.w, .int .i64 D.g, .int .i64 D.p] 31)).heap.size = w3.heap.size + 1 := by simp
      go_upto_region 5 with fail
      generalize hw4 : w3.alloc (.cells #[.int .i64 D.i, .int .i64 D.s, .int .i64 D.w, .int .i64 D.g, .int .i64 D.p] 31) = w4 at *
      clear hw4 c0 c1 c2 c3 c4
      have hP : w3.heap.size < w4.heap.size := by omega
      have hPb : w.heap.size < w3.heap.size := by omega
      clear hz4
      obtain ⟨P, hPe⟩ : ∃ P, P = w3.heap.size := ⟨_, rfl⟩
      rw [← hPe] at K4 hP hPb ⊢
      clear hPe
      have HKS : Hid (∀ W : World, w4.grownBy W (some w.heap.size) → W.cell? ⟨P, 0, none⟩ = some (.int .i64 D.i) ∧ W.cell? ⟨P, 2, none⟩ = some (.int .i64 D.w)) := Lib.hid (fun W h => by
        have hk := keepD h (show P ≠ w.heap.size by omega) K4.out
        exact ⟨cell_of_row _ P 0 _ _ _ hk, cell_of_row _ P 2 _ _ _ hk⟩)
      have hks0 := HKS.out w4 (World.grownBy.refl _ _)
      obtain ⟨k0, k2⟩ := hks0
      have HPb := Lib.hid hPb
      have hz4 : w.heap.size < w4.heap.size := by omega
      have c4 := C4.out
      have g00 : w4.grownBy w4 (some w.heap.size) := World.grownBy.refl _ _
      have hk1 := HKS.out
      have hb0 : ∀ n : Nat, w4.heap.size ≤ n → n ≠ w.heap.size := fun n hn => by omega
      have A1 : Hid (∀ W g, Cur w.heap.size w.heap.size (0 + 500 + 2 + 2) W → g ≠ w.heap.size → W.heap[g]? = some (.cells #[.int .i64 0, .int .i64 0, .int .i64 1, .int .i64 2, .int .i64 364, .int .i64 365] 3 (0, 0)) → Calls Tryd.prog 59 #[.pointer (some ⟨w.heap.size, 0, none⟩), .slice (some ⟨g, 0, none⟩) 6 6] W (AmPost w.heap.size w.heap.size (0 + 500 + 2 + 2) [0, 0, 1, 2, 364, 365] W)) := Lib.hid (fun W g hW hg hc => among_any w.heap.size w.heap.size (0 + 500 + 2 + 2) g 6 6 [0, 0, 1, 2, 364, 365] W hW (by omega) rfl (by omega) (by omega) hg (lit_cells rfl hc))
      have A2 : Hid (∀ W, Cur w.heap.size w.heap.size (0 + 500 + 2 + 2 + 2) W → Calls Tryd.prog 57 #[.pointer (some ⟨w.heap.size, 0, none⟩), .int .i64 2] W (OnePost w.heap.size w.heap.size (0 + 500 + 2 + 2 + 2) W)) := Lib.hid (fun W hW => one_any w.heap.size w.heap.size (0 + 500 + 2 + 2 + 2) 2 W hW (by omega) (by omega) (by omega))
      clear K4 C4
      go_region_held3 (fun w' => w'.cell? ⟨P, 0, none⟩ = some (.int .i64 D.i) ∧ w'.cell? ⟨P, 2, none⟩ = some (.int .i64 D.w)) (exact hk1 _ (by repeat (first | with_reducible exact g7 | with_reducible exact g6 | with_reducible exact g00 | with_reducible refine grown_trans ?_ (World.grownBy_alloc _ _ _) | with_reducible refine grown_trans ?_ (grown_drew _ _ _) | with_reducible refine gr_drewT ?_)))
        (first
          | (go_at_call 57; refine (A2.out _ (by repeat (first | with_reducible exact hc6 | with_reducible refine Cur.alloc ?_ _ | with_reducible refine Cur.drewD ?_ _ | with_reducible refine Cur.drewT ?_))).mono ?_; rintro e w7 ⟨uu, rfl, hc7, hg7⟩; have g7 : w4.grownBy w7 (some w.heap.size) := grown_trans (by repeat (first | with_reducible exact g6 | with_reducible refine grown_trans ?_ (World.grownBy_alloc _ _ _) | with_reducible refine grown_trans ?_ (grown_drew _ _ _) | with_reducible refine gr_drewT ?_)) hg7)
          | (go_at_call 59; refine (A1.out _ _ (by repeat (first | with_reducible exact c4 | with_reducible refine Cur.alloc ?_ _ | with_reducible refine Cur.drewD ?_ _ | with_reducible refine Cur.drewT ?_)) (hb0 _ (by first | omega | (simp; done) | (simp; omega))) (by (repeat (first | with_reducible exact nalD (by first | (simp; done) | omega | fail) | with_reducible refine old_allocD ?_ | with_reducible refine odrewD ?_ | with_reducible refine odrewD1 ?_)); first | done | fail)).mono ?_; rintro e w6 ⟨x, hx, rfl, hc6, hg6⟩; have g6 : w4.grownBy w6 (some w.heap.size) := grown_trans (by repeat (first | with_reducible exact g00 | with_reducible refine grown_trans ?_ (World.grownBy_alloc _ _ _) | with_reducible refine grown_trans ?_ (grown_drew _ _ _) | with_reducible refine gr_drewT ?_)) hg6)
          | fail)
      all_goals (
        have T9 := Lib.hid (grown_trans T4.out g7)
        have HR := Lib.hid (Rs.of_own (HO.out.kept T9.out hne))
        have HB9 := Lib.hid (HB.out.trans (grown_below T9.out (by omega) (fun k hk => by cases hk; exact Nat.le_refl _)))
        clear hk1 g00 hb0
        go_wp2_with fail
        refine bodyPost_ret (results_tmp4 rfl _ _ _) rfl ?_
        exact ⟨_, l, _, _, _, rfl, HR.out, hl, HB9.out⟩)
end Go.Proofs.YtpknodbkjjcdjaaDoor
