/- Drawn lengths, drawn lists of kinds. Condition: sizes. -/
import Derived.Test.YtiogjocbiagipabDrawKind
import Derived.Test.YtiogjocbiagipabDrawBase
import Derived.Test.YtiogjocbiagipabCurAm
import Derived.Test.YtiogjocbiagipabBig
import Derived.Deep.AppendLies
import Derived.Deep.DeepCutAuto
namespace Go.Proofs.Ytiogjocbiagipab
open Go.RowKit
set_option linter.unusedVariables false
def LnP (B b k : Nat) (lo hi : Int) (w : World) (e : Ending) (w' : World) : Prop := ∃ x : Int, e = .returned (.int .i64 x) ∧ (lo ≤ x ∧ x ≤ hi) ∧ Cur B b (k + 4) w' ∧ w.grownBy w' (some b)
/-- A part of a literal row. -/
theorem num_part (w : World) (t : TypeId) (l : List Int) (n : Nat) (cs : Array Value) (hcs : cs = (l.map (Value.int .i64)).toArray) (W : World) (b : Nat) (hg : (w.alloc (.cells cs t)).grownBy W (some b)) (hb : w.heap.size ≠ b) :
    ∀ (i : Nat) (h : i < (l.take n).length), W.cell? ⟨w.heap.size, i, none⟩ = some (.int .i64 (l.take n)[i]) := by
  intro i h
  have h2 : i < l.length := by rw [List.length_take] at h; omega
  have h1 := num_cells w t l cs hcs i h2
  rw [List.getElem_take]
  exact grown_cell hg h1 (by simp; exact hb)
set_option maxHeartbeats 600000 in
theorem length3_any (B b k : Nat) (w : World) (h : Cur B b k w) (hk : k ≤ 800000000) :
    Calls Try.prog 51 #[.pointer (some ⟨b, 0, none⟩)] w (LnP B b k 0 3001 w) := by
  have HH := Lib.hid h
  have hb := h.2.1
  clear h
  go_enter Try.func51, Try.ntmps51
  go_wp2_with fail
  refine (pick_any B b k 24 _ (HH.out.alloc _) (by omega) (by omega) (by omega)).mono ?_
  rintro e w1 ⟨r, rfl, hr, hc, hg⟩
  have HC := Lib.hid hc
  have HG := Lib.hid hg
  have hs1 := hg.size
  simp at hs1
  clear hc hg
  have h3 : r / 11 = 0 ∨ r / 11 = 1 ∨ r / 11 = 2 := by omega
  rcases h3 with h3 | h3 | h3
  · have t1 : Int.tdiv (r : Int) 11 = 0 := by rw [Int.tdiv_eq_ediv_of_nonneg (by omega)]; omega
    clear h3
    go_wp2_with fail
    refine (among_any B b (k + 2) w.heap.size 5 _ ([1, 5, 10, 100, 3000, 0, 3001].take 5) w1 HC.out (by omega) rfl (by omega) (by omega) (by omega) (num_part w 3 [1, 5, 10, 100, 3000, 0, 3001] 5 _ rfl w1 b HG.out (by omega))).mono ?_
    rintro e w2 ⟨x, hx, rfl, hc2, hg2⟩
    have hxb : 0 ≤ x ∧ x ≤ 3001 := by simp at hx; omega
    have HC2 := Lib.hid hc2
    have HG2 := Lib.hid (grown_trans (grown_trans (World.grownBy_alloc w (.cells #[.int .i64 1, .int .i64 5, .int .i64 10, .int .i64 100, .int .i64 3000, .int .i64 0, .int .i64 3001] 3) (some b)) HG.out) hg2)
    clear hc2 hg2 hx
    go_wp2_with fail
    go_ret
    exact ⟨x, rfl, hxb, HC2.out, HG2.out⟩
  · have t1 : Int.tdiv (r : Int) 11 = 1 := by rw [Int.tdiv_eq_ediv_of_nonneg (by omega)]; omega
    clear h3
    go_wp2_with fail
    refine (among_any B b (k + 2) w.heap.size 6 _ ([1, 5, 10, 100, 3000, 0, 3001].take 6) w1 HC.out (by omega) rfl (by omega) (by omega) (by omega) (num_part w 3 [1, 5, 10, 100, 3000, 0, 3001] 6 _ rfl w1 b HG.out (by omega))).mono ?_
    rintro e w2 ⟨x, hx, rfl, hc2, hg2⟩
    have hxb : 0 ≤ x ∧ x ≤ 3001 := by simp at hx; omega
    have HC2 := Lib.hid hc2
    have HG2 := Lib.hid (grown_trans (grown_trans (World.grownBy_alloc w (.cells #[.int .i64 1, .int .i64 5, .int .i64 10, .int .i64 100, .int .i64 3000, .int .i64 0, .int .i64 3001] 3) (some b)) HG.out) hg2)
    clear hc2 hg2 hx
    go_wp2_with fail
    go_ret
    exact ⟨x, rfl, hxb, HC2.out, HG2.out⟩
  · have t1 : Int.tdiv (r : Int) 11 = 2 := by rw [Int.tdiv_eq_ediv_of_nonneg (by omega)]; omega
    clear h3
    go_wp2_with fail
    refine (among_any B b (k + 2) w.heap.size 7 _ ([1, 5, 10, 100, 3000, 0, 3001].take 7) w1 HC.out (by omega) rfl (by omega) (by omega) (by omega) (num_part w 3 [1, 5, 10, 100, 3000, 0, 3001] 7 _ rfl w1 b HG.out (by omega))).mono ?_
    rintro e w2 ⟨x, hx, rfl, hc2, hg2⟩
    have hxb : 0 ≤ x ∧ x ≤ 3001 := by simp at hx; omega
    have HC2 := Lib.hid hc2
    have HG2 := Lib.hid (grown_trans (grown_trans (World.grownBy_alloc w (.cells #[.int .i64 1, .int .i64 5, .int .i64 10, .int .i64 100, .int .i64 3000, .int .i64 0, .int .i64 3001] 3) (some b)) HG.out) hg2)
    clear hc2 hg2 hx
    go_wp2_with fail
    go_ret
    exact ⟨x, rfl, hxb, HC2.out, HG2.out⟩
/-- What drawing kinds leaves. -/
def DkiPost (w : World) (e : Ending) (w' : World) : Prop := ∃ (v : Value) (l : List RK), e = .returned v ∧ w'.ownsRow (w.heap.size + 1) 25 5 v l.length (rks l) ∧ l.length ≤ 7 ∧ Below w.heap.size w w'
theorem slice_of_own {w : World} {B e size n : Nat} {v : Value} {xs : List Value} (h : w.ownsRow B e size v n xs) : ∃ a ca, v = .slice a n ca := by
  rcases h.2 with ⟨rfl, rfl⟩ | ⟨g, cap, cur, rfl, _⟩
  · exact ⟨_, _, rfl⟩
  · exact ⟨_, _, rfl⟩
set_option maxRecDepth 100000 in
set_option maxHeartbeats 600000 in
theorem DrawAreRopeKinds_any (a : Option Addr) (len cap : Nat) (w : World) (h : ByteRow w a len) :
    Calls Try.prog 62 #[.slice a len cap] w (DkiPost w) := by
  obtain ⟨i0, hi, hz0, hz1, hz2⟩ := info_parts Try.infoRK
  have HC := Lib.hid (cur_new (cap := cap) h 70)
  have hB0 : Below w.heap.size w (w.alloc (.cells #[.slice a len cap, .int .i64 0, .int .u64 0] 70)) := (Below.refl _ _).alloc (Nat.le_refl _) _
  have hs0 : (w.alloc (.cells #[.slice a len cap, .int .i64 0, .int .u64 0] 70)).heap.size = w.heap.size + 1 := by simp
  clear h
  go_enter Try.func62, Try.ntmps62
  go_upto_region 2 with fail
  generalize hw0 : w.alloc (.cells #[.slice a len cap, .int .i64 0, .int .u64 0] 70) = w0 at *
  clear hw0
  have HO0 : Hid ((w0.alloc (.cells #[] 25)).ownsRow (w.heap.size + 1) 25 5 (.slice (some ⟨w.heap.size + 1, 0, none⟩) 0 0) 0 []) := Lib.hid (by
    have := World.ownsRow_made w0 (e := 25) (size := 5) #[] 0 (Nat.le_refl _) (by decide) rfl
    rwa [hs0] at this)
  have HG0 := Lib.hid ((Below.refl w.heap.size w0).alloc (by omega) (.cells #[] 25))
  have HC0 := Lib.hid (HC.out.alloc (.cells #[] 25))
  have hsa : (w0.alloc (.cells #[] 25)).heap.size = w.heap.size + 2 := by simp; omega
  go_upto_region 3 with fail
  generalize hwa : w0.alloc (.cells #[] 25) = wa at *
  clear hwa HC
  go_wp2_with fail
  refine (pick_any w.heap.size w.heap.size 0 6 wa HC0.out (by omega) (by omega) (by omega)).mono ?_
  rintro e w1 ⟨m0, rfl, hm0, hc, hg⟩
  have HS1 : Hid (Cur w.heap.size w.heap.size (0 + 2) w1 ∧ Below w.heap.size w0 w1) := Lib.hid ⟨hc, Below.trans HG0.out (grown_below hg (by omega) (fun k hk => by cases hk; exact Nat.le_refl _))⟩
  have HO1 := Lib.hid (HO0.out.kept hg (.inr (fun e => by have e2 : w.heap.size + 1 = w.heap.size := Option.some.inj e; omega)))
  have hs1 := hg.size
  have hzw1 : w.heap.size + 1 < w1.heap.size := by omega
  clear hc hg HO0 HG0 HC0
  go_wp2
  go_loopw [4, 5, 6] (fun out id n wr => ∃ (m : Nat) (i : Int) (l : List RK), n = .int .i64 (m : Int) ∧ id = .int .i64 i ∧ m ≤ 5 ∧ (0 ≤ i ∧ i ≤ 3 * (5 - (m : Int))) ∧ l.length + m ≤ 5 ∧ w.heap.size + 1 < wr.heap.size ∧ wr.ownsRow (w.heap.size + 1) 25 5 out l.length (rks l) ∧ Hid (Cur w.heap.size w.heap.size (2 + 24 * (5 - m)) wr ∧ Below w.heap.size w0 wr)) (fun _ _ n _ => (intOf n).toNat)
  case atStart => exact ⟨m0, 0, [], rfl, rfl, by omega, by omega, by simp; omega, by omega, HO1.out, Lib.hid ⟨HS1.out.1.mono (by omega), HS1.out.2⟩⟩
  case round =>
    obtain ⟨m, i, l, rfl, rfl, hm5, hib, hlm, hsz, hown, HS⟩ := hrel
    by_cases hm : 0 < m
    · have HO := Lib.hid hown
      have hbo : u4.ownBlock = none ∨ u4.ownBlock ≠ some w.heap.size := by
        cases hu : u4.ownBlock with
        | none => exact .inl rfl
        | some j => exact .inr (fun e => by have := (hown.lt j hu).1; have := Option.some.inj e; omega)
      clear hown
      have hmi : (0 : Int) < (m : Int) := by omega
      have s1 : IntKind.i64.wrap (i + 1) = i + 1 := IntWalk.i64_in _ (by omega)
      go_wp2_with fail
      refine (pick_any w.heap.size w.heap.size _ 3 wr HS.out.1 (by omega) (by omega) (by omega)).mono ?_
      rintro e w2 ⟨r, rfl, hr, hc, hg⟩
      have HS2 : Hid (Cur w.heap.size w.heap.size _ w2 ∧ Below w.heap.size w0 w2) := Lib.hid ⟨hc, Below.trans HS.out.2 (grown_below hg (by omega) (fun k hk => by cases hk; exact Nat.le_refl _))⟩
      have HO2 := Lib.hid (HO.out.kept hg hbo)
      have hs2 := hg.size
      clear hc hg HO HS
      have s2 : IntKind.i64.wrap (i + 1 + (r : Int)) = i + 1 + (r : Int) := IntWalk.i64_in _ (by omega)
      go_wp2_with fail
      refine (pick_any w.heap.size w.heap.size _ 60 w2 HS2.out.1 (by omega) (by omega) (by omega)).mono ?_
      rintro e w3 ⟨r2, rfl, hr2, hc, hg⟩
      have HS3 : Hid (Cur w.heap.size w.heap.size _ w3 ∧ Below w.heap.size w0 w3) := Lib.hid ⟨hc, Below.trans HS2.out.2 (grown_below hg (by omega) (fun k hk => by cases hk; exact Nat.le_refl _))⟩
      have HO3 := Lib.hid (HO2.out.kept hg hbo)
      have hs3 := hg.size
      clear hc hg HO2 HS2
      obtain ⟨c, hc01, t1⟩ : ∃ c : Int, (0 ≤ c ∧ c ≤ 1) ∧ Int.tdiv (r2 : Int) 59 = c := ⟨Int.tdiv (r2 : Int) 59, by rw [Int.tdiv_eq_ediv_of_nonneg (by omega)]; omega, rfl⟩
      have s3 : IntKind.i64.wrap c = c := IntWalk.i64_in _ (by omega)
      obtain ⟨i2, hid2⟩ : ∃ i2, i2 = i + 1 + (r : Int) - c := ⟨_, rfl⟩
      have s4 : IntKind.i64.wrap (i + 1 + (r : Int) - c) = i2 := by rw [hid2]; exact IntWalk.i64_in _ (by omega)
      have hi2 : 0 ≤ i2 ∧ i2 ≤ i + 3 := by omega
      clear hid2
      go_wp2_with fail
      refine (ropeKind_any w.heap.size w.heap.size _ i2 w3 HS3.out.1 (by omega)).mono ?_
      rintro e w4 ⟨x, rfl, hx, hc, hg⟩
      have HS4 : Hid (Cur w.heap.size w.heap.size _ w4 ∧ Below w.heap.size w0 w4) := Lib.hid ⟨hc, Below.trans HS3.out.2 (grown_below hg (by omega) (fun k hk => by cases hk; exact Nat.le_refl _))⟩
      have hown4 := HO3.out.kept hg hbo
      have hs4 := hg.size
      clear hc hg HO3 HS3 t1 s1 s2 s3 s4
      unfold RK.agg
      go_wp2_with (at_builtin; refine wpList_append_own _ rfl _ _ 37 rfl (w.heap.size + 1) 25 i0 (.agg #[.int .i64 0, .int .i64 0, .int .i64 0, .int .i64 0, .int .i64 0]) 5 40 Try.underlying37 hi hz0 hz1 hz2 rfl (by decide) _ _ _ rfl (hown4.alloc _) ⟨w4.heap.size, 0, none⟩ 1 1 [.int .i64 x.i, .int .i64 x.s, .int .i64 x.w, .int .i64 x.g, .int .i64 x.p] rfl rfl (World.news_of_block (cs := #[.int .i64 x.i, .int .i64 x.s, .int .i64 x.w, .int .i64 x.g, .int .i64 x.p]) (t := 25) (fr := (0, 0)) (heap_alloc_new w4 _)) (by simp [Value.oneCell']) (by unfold maxLen; omega) (by omega) (by simp; omega) ?_; intro v' w8 hown' hgrow _)
      have HGa := Lib.hid (HS4.out.2.alloc (by omega) (.cells #[.int .i64 x.i, .int .i64 x.s, .int .i64 x.w, .int .i64 x.g, .int .i64 x.p] 25))
      have hgr : (w4.alloc (.cells #[.int .i64 x.i, .int .i64 x.s, .int .i64 x.w, .int .i64 x.g, .int .i64 x.p] 25)).grownBy w8 u4.ownBlock := hgrow
      have HC8 := Lib.hid ((HS4.out.1.alloc (.cells #[.int .i64 x.i, .int .i64 x.s, .int .i64 x.w, .int .i64 x.g, .int .i64 x.p] 25)).grown hgr (fun j hj => by have := (hown4.lt j hj).1; omega))
      have hgs := hgr.size
      simp at hgs
      have p1 : IntKind.i64.wrap ((m : Int) - 1) = ((m - 1 : Nat) : Int) := by rw [show (m : Int) - 1 = ((m - 1 : Nat) : Int) by omega]; exact IntWalk.i64_in _ (by omega)
      have hlt4 := fun j hj => (hown4.lt j hj).1
      have HX8 : Hid (Below w.heap.size w0 w8) := Lib.hid (HGa.out.grown hgr (by simp; omega) (fun j hj => by have := hlt4 j hj; omega))
      have HOW := Lib.hid hown'
      clear hown' hgrow hown4
      go_wp2
      go_roundw
      case rel => exact ⟨m - 1, i2, l ++ [x], by go_num, rfl, by omega, by omega, by rw [List.length_append]; simp; omega, by omega, by rw [rks_append, rks_one, List.length_append]; exact HOW.out, Lib.hid ⟨HC8.out.mono (by omega), HX8.out⟩⟩
      case measure => simp [intOf]; omega
    · obtain rfl : m = 0 := by omega
      have HO := Lib.hid hown
      have hbo : u4.ownBlock = none ∨ u4.ownBlock ≠ some w.heap.size := by
        cases hu : u4.ownBlock with
        | none => exact .inl rfl
        | some j => exact .inr (fun e => by have := (hown.lt j hu).1; have := Option.some.inj e; omega)
      obtain ⟨ao, cao, hve⟩ := slice_of_own hown
      subst hve
      clear hown
      go_wp2_with fail
      refine (one_any w.heap.size w.heap.size _ 24 wr HS.out.1 (by omega) (by omega) (by omega)).mono ?_
      rintro e w2 ⟨q, rfl, hc, hg⟩
      have HS2 : Hid (Cur w.heap.size w.heap.size _ w2 ∧ Below w.heap.size w0 w2) := Lib.hid ⟨hc, Below.trans HS.out.2 (grown_below hg (by omega) (fun k hk => by cases hk; exact Nat.le_refl _))⟩
      have HO2 := Lib.hid (HO.out.kept hg hbo)
      have hs2 := hg.size
      clear hc hg HO HS
      cases q with
      | false =>
        go_wp2
        go_ret
        exact ⟨_, l, rfl, HO2.out, by omega, hB0.trans HS2.out.2⟩
      | true =>
        go_wp2_with fail
        go_loopw [4, 5] (fun out id wr => ∃ (i : Int) (l2 : List RK), id = .int .i64 i ∧ (∃ a ca, out = .slice a l2.length ca) ∧ (0 ≤ i ∧ i ≤ 15 + (l2.length : Int)) ∧ l2.length ≤ 7 ∧ w.heap.size + 1 < wr.heap.size ∧ wr.ownsRow (w.heap.size + 1) 25 5 out l2.length (rks l2) ∧ Hid (Cur w.heap.size w.heap.size (200 + 2 * l2.length) wr ∧ Below w.heap.size w0 wr)) (fun out _ _ => match out with | .slice _ n _ => 8 - n | _ => 0)
        case atStart => exact ⟨i, l, rfl, ⟨_, _, rfl⟩, by omega, by omega, by omega, HO2.out, Lib.hid ⟨HS2.out.1.mono (by omega), HS2.out.2⟩⟩
        case round =>
          obtain ⟨i, l2, rfl, ⟨a2, ca2, rfl⟩, hib, hl7, hsz, hown, HS⟩ := hrel
          have HO := Lib.hid hown
          have hbo : (Value.slice a2 l2.length ca2).ownBlock = none ∨ (Value.slice a2 l2.length ca2).ownBlock ≠ some w.heap.size := by
            cases hu : (Value.slice a2 l2.length ca2).ownBlock with
            | none => exact .inl rfl
            | some j => exact .inr (fun e => by have := (hown.lt j hu).1; have := Option.some.inj e; omega)
          clear hown
          go_wp2_with fail
          refine (pick_any w.heap.size w.heap.size _ 2 wr HS.out.1 (by omega) (by omega) (by omega)).mono ?_
          rintro e w3 ⟨r, rfl, hr, hc, hg⟩
          have HS3 : Hid (Cur w.heap.size w.heap.size _ w3 ∧ Below w.heap.size w0 w3) := Lib.hid ⟨hc, Below.trans HS.out.2 (grown_below hg (by omega) (fun k hk => by cases hk; exact Nat.le_refl _))⟩
          have hown3 := HO.out.kept hg hbo
          have hs3 := hg.size
          clear hc hg HO HS
          have s1 : IntKind.i64.wrap (6 + (r : Int)) = 6 + (r : Int) := IntWalk.i64_in _ (by omega)
          by_cases hlt : (l2.length : Int) < 6 + (r : Int)
          · have hd : decide ((l2.length : Int) < 6 + (r : Int)) = true := by simpa using hlt
            have s2 : IntKind.i64.wrap (i + 1) = i + 1 := IntWalk.i64_in _ (by omega)
            have hlt4 := fun j hj => (hown3.lt j hj).1
            have hl6 : l2.length ≤ 6 := by omega
            clear hlt
            go_wp2_with (at_builtin; refine wpList_append_own _ rfl _ _ 37 rfl (w.heap.size + 1) 25 i0 (.agg #[.int .i64 0, .int .i64 0, .int .i64 0, .int .i64 0, .int .i64 0]) 5 40 Try.underlying37 hi hz0 hz1 hz2 rfl (by decide) _ _ _ rfl (hown3.alloc _) ⟨w3.heap.size, 0, none⟩ 1 1 [.int .i64 (i + 1), .int .i64 6, .int .i64 19, .int .i64 40, .int .i64 700] rfl rfl (World.news_of_block (cs := #[.int .i64 (i + 1), .int .i64 6, .int .i64 19, .int .i64 40, .int .i64 700]) (t := 25) (fr := (0, 0)) (heap_alloc_new w3 _)) (by simp [Value.oneCell']) (by unfold maxLen; omega) (by omega) (by simp; omega) ?_; intro v' w8 hown' hgrow _)
            have hgr : (w3.alloc (.cells #[.int .i64 (i + 1), .int .i64 6, .int .i64 19, .int .i64 40, .int .i64 700] 25)).grownBy w8 (Value.slice a2 l2.length ca2).ownBlock := hgrow
            have HC8 := Lib.hid ((HS3.out.1.alloc (.cells #[.int .i64 (i + 1), .int .i64 6, .int .i64 19, .int .i64 40, .int .i64 700] 25)).grown hgr (fun j hj => by have := hlt4 j hj; omega))
            have hgs := hgr.size
            simp at hgs
            have HX8 := Lib.hid ((HS3.out.2.alloc (by omega) (.cells #[.int .i64 (i + 1), .int .i64 6, .int .i64 19, .int .i64 40, .int .i64 700] 25)).grown hgr (by simp; omega) (fun j hj => by have := hlt4 j hj; omega))
            have HOW := Lib.hid hown'
            obtain ⟨a3, ca3, hv3⟩ := slice_of_own hown'
            subst hv3
            clear hown' hgrow hown3
            have hl1 : (l2 ++ [(⟨i + 1, 6, 19, 40, 700⟩ : RK)]).length = l2.length + 1 := by simp
            go_roundw
            case rel => exact ⟨i + 1, l2 ++ [⟨i + 1, 6, 19, 40, 700⟩], rfl, ⟨a3, ca3, by rw [hl1]⟩, by rw [hl1]; omega, by rw [hl1]; omega, by omega, by rw [rks_append, rks_one, hl1]; exact HOW.out, Lib.hid ⟨HC8.out.mono (by rw [hl1]; omega), HX8.out⟩⟩
            case measure => simp; omega
          · have hd : decide ((l2.length : Int) < 6 + (r : Int)) = false := by simpa using hlt
            clear hlt
            go_wp2
            go_ret
            exact ⟨_, l2, rfl, hown3, hl7, hB0.trans HS3.out.2⟩
end Go.Proofs.Ytiogjocbiagipab
