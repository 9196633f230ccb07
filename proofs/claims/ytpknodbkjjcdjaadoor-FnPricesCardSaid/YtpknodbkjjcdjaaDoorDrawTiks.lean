/- The drawn tickets. Condition: sizes. -/
import Derived.Test.YtpknodbkjjcdjaaDoorDrawTik
import Derived.Test.YtpknodbkjjcdjaaDoorCurAm
import Derived.Deep.AppendLies
import Derived.Deep.DeepCutAuto
namespace Go.Proofs.YtpknodbkjjcdjaaDoor
open Go.RowKit
set_option linter.unusedVariables false
/-- Nothing is asked of a drawn ticket's numbers. -/
def TikB (x : Tik) : Prop := True
/-- What drawing tickets leaves. -/
def TksPost (B b k : Nat) (w : World) (e : Ending) (w' : World) : Prop := ∃ (v : Value) (l : List Tik), e = .returned v ∧ w'.ownsRow w.heap.size 31 5 v l.length (tiks l) ∧ l.length ≤ 13 ∧ Cur B b (k + 500) w' ∧ Below B w w' ∧ w.grownBy w' (some b) ∧ (∀ q, q < l.length → TikB (gth l q))
theorem grown_pastR {w w2 w3 : World} {row : Option Nat} {b : Nat} (h : w.grownBy w2 (some b)) (g : w2.grownBy w3 row) (hr : ∀ j, row = some j → w.heap.size ≤ j) : w.grownBy w3 (some b) :=
  ⟨g.os.trans h.os, g.tape.trans h.tape, g.output.trans h.output, Nat.le_trans h.size g.size, fun k hk hn => (g.block k (Nat.lt_of_lt_of_le hk h.size) (fun e => by have := hr k e.symm; omega)).trans (h.block k hk hn)⟩
theorem tik_all {l : List Tik} {x : Tik} (h : ∀ q, q < l.length → TikB (gth l q)) (hx : TikB x) : ∀ q, q < (l ++ [x]).length → TikB (gth (l ++ [x]) q) := by
  intro q hq
  rw [List.length_append] at hq
  by_cases e : q < l.length
  · rw [gth_append_left e]; exact h q e
  · have : q = l.length := by simp at hq; omega
    rw [gth_append_right (by omega), this, Nat.sub_self]
    exact hx
theorem slice_of_own {w : World} {B e size n : Nat} {v : Value} {xs : List Value} (h : w.ownsRow B e size v n xs) : ∃ a ca, v = .slice a n ca := by
  rcases h.2 with ⟨rfl, rfl⟩ | ⟨g, cap, cur, rfl, _⟩
  · exact ⟨_, _, rfl⟩
  · exact ⟨_, _, rfl⟩
set_option maxRecDepth 100000 in
set_option maxHeartbeats 1500000 in
theorem tickets_any (B b k : Nat) (w : World) (h : Cur B b k w) (hk : k ≤ 700000000) :
    Calls Tryd.prog 56 #[.pointer (some ⟨b, 0, none⟩)] w (TksPost B b k w) := by
  obtain ⟨i0, hi, hz0, hz1, hz2⟩ := info_parts Tryd.infoTik
  have hBb := h.1
  have hbw := h.2.1
  have HO0 : Hid ((w.alloc (.cells #[] 31)).ownsRow w.heap.size 31 5 (.slice (some ⟨w.heap.size, 0, none⟩) 0 0) 0 []) := Lib.hid (World.ownsRow_made w (e := 31) (size := 5) #[] 0 (Nat.le_refl _) (by decide) rfl)
  have HG0 := Lib.hid (World.grownBy_alloc w (.cells #[] 31) (some b))
  have HC0 := Lib.hid (h.alloc (.cells #[] 31))
  have hsa : (w.alloc (.cells #[] 31)).heap.size = w.heap.size + 1 := by simp
  clear h
  go_enter Tryd.func56, Tryd.ntmps56
  go_upto_region 2 with fail
  generalize hwa : w.alloc (.cells #[] 31) = wa at *
  clear hwa
  go_wp2_with fail
  refine (pick_any B b k 9 wa HC0.out (by omega) (by omega) (by omega)).mono ?_
  rintro e w1 ⟨m0, rfl, hm0, hc, hg⟩
  have HS1 : Hid (Cur B b (k + 2) w1 ∧ w.grownBy w1 (some b)) := Lib.hid ⟨hc, grown_trans HG0.out hg⟩
  have HO1 := Lib.hid (HO0.out.kept hg (.inr (fun e => by have e2 : w.heap.size = b := Option.some.inj e; omega)))
  have hs1 := hg.size
  clear hc hg HO0 HG0 HC0
  go_wp2
  go_loopw [3, 4, 5] (fun out id n wr => ∃ (m : Nat) (i : Int) (l : List Tik), n = .int .i64 (m : Int) ∧ id = .int .i64 i ∧ m ≤ 8 ∧ (0 ≤ i ∧ i ≤ 3 * (8 - (m : Int))) ∧ l.length + m ≤ 8 ∧ w.heap.size < wr.heap.size ∧ wr.ownsRow w.heap.size 31 5 out l.length (tiks l) ∧ Hid (Cur B b (k + 2 + 24 * (8 - m)) wr ∧ w.grownBy wr (some b)) ∧ Hid (∀ q, q < l.length → TikB (gth l q))) (fun _ _ n _ => (intOf n).toNat)
  case atStart => exact ⟨m0, 0, [], rfl, rfl, by omega, by omega, by simp; omega, by omega, HO1.out, Lib.hid ⟨HS1.out.1.mono (by omega), HS1.out.2⟩, Lib.hid (fun q hq => by simp at hq)⟩
  case round =>
    obtain ⟨m, i, l, rfl, rfl, hm5, hib, hlm, hsz, hown, HS, HQ⟩ := hrel
    by_cases hm : 0 < m
    · have HO := Lib.hid hown
      have hbo : u3.ownBlock = none ∨ u3.ownBlock ≠ some b := by
        cases hu : u3.ownBlock with
        | none => exact .inl rfl
        | some j => exact .inr (fun e => by have := (hown.lt j hu).1; have := Option.some.inj e; omega)
      clear hown
      have hmi : (0 : Int) < (m : Int) := by omega
      have s1 : IntKind.i64.wrap (i + 1) = i + 1 := IntWalk.i64_in _ (by omega)
      go_wp2_with fail
      refine (pick_any B b _ 3 wr HS.out.1 (by omega) (by omega) (by omega)).mono ?_
      rintro e w2 ⟨r, rfl, hr, hc, hg⟩
      have HS2 : Hid (Cur B b _ w2 ∧ w.grownBy w2 (some b)) := Lib.hid ⟨hc, grown_trans HS.out.2 hg⟩
      have HO2 := Lib.hid (HO.out.kept hg hbo)
      have hs2 := hg.size
      clear hc hg HO HS
      have s2 : IntKind.i64.wrap (i + 1 + (r : Int)) = i + 1 + (r : Int) := IntWalk.i64_in _ (by omega)
      go_wp2_with fail
      refine (pick_any B b _ 80 w2 HS2.out.1 (by omega) (by omega) (by omega)).mono ?_
      rintro e w3 ⟨r2, rfl, hr2, hc, hg⟩
      have HS3 : Hid (Cur B b _ w3 ∧ w.grownBy w3 (some b)) := Lib.hid ⟨hc, grown_trans HS2.out.2 hg⟩
      have HO3 := Lib.hid (HO2.out.kept hg hbo)
      have hs3 := hg.size
      clear hc hg HO2 HS2
      obtain ⟨c, hc01, t1⟩ : ∃ c : Int, (0 ≤ c ∧ c ≤ 1) ∧ Int.tdiv (r2 : Int) 79 = c := ⟨Int.tdiv (r2 : Int) 79, by rw [Int.tdiv_eq_ediv_of_nonneg (by omega)]; omega, rfl⟩
      have s3 : IntKind.i64.wrap c = c := IntWalk.i64_in _ (by omega)
      obtain ⟨i2, hid2⟩ : ∃ i2, i2 = i + 1 + (r : Int) - c := ⟨_, rfl⟩
      have s4 : IntKind.i64.wrap (i + 1 + (r : Int) - c) = i2 := by rw [hid2]; exact IntWalk.i64_in _ (by omega)
      have hi2 : 0 ≤ i2 ∧ i2 ≤ i + 3 := by omega
      clear hid2
      go_wp2_with fail
      refine (ticket_any B b _ i2 w3 HS3.out.1 (by omega)).mono ?_
      rintro e w4 ⟨x, rfl, hc, hg⟩
      have HXB : Hid (TikB x) := Lib.hid trivial
      have HS4 : Hid (Cur B b _ w4 ∧ w.grownBy w4 (some b)) := Lib.hid ⟨hc, grown_trans HS3.out.2 hg⟩
      have hown4 := HO3.out.kept hg hbo
      have hs4 := hg.size
      clear hc hg HO3 HS3 t1 s1 s2 s3 s4
      unfold Tik.agg
      go_wp2_with (at_builtin; refine wpList_append_own _ rfl _ _ 24 rfl w.heap.size 31 i0 (.agg #[.int .i64 0, .int .i64 0, .int .i64 0, .int .i64 0, .int .i64 0]) 5 40 Tryd.underlying24 hi hz0 hz1 hz2 rfl (by decide) _ _ _ rfl (hown4.alloc _) ⟨w4.heap.size, 0, none⟩ 1 1 [.int .i64 x.i, .int .i64 x.s, .int .i64 x.w, .int .i64 x.g, .int .i64 x.p] rfl rfl (World.news_of_block (cs := #[.int .i64 x.i, .int .i64 x.s, .int .i64 x.w, .int .i64 x.g, .int .i64 x.p]) (t := 31) (fr := (0, 0)) (heap_alloc_new w4 _)) (by simp [Value.oneCell']) (by unfold maxLen; omega) (by omega) (by simp; omega) ?_; intro v' w8 hown' hgrow _)
      have HGa := Lib.hid (grown_trans HS4.out.2 (World.grownBy_alloc _ (.cells #[.int .i64 x.i, .int .i64 x.s, .int .i64 x.w, .int .i64 x.g, .int .i64 x.p] 31) (some b)))
      have hgr : (w4.alloc (.cells #[.int .i64 x.i, .int .i64 x.s, .int .i64 x.w, .int .i64 x.g, .int .i64 x.p] 31)).grownBy w8 u3.ownBlock := hgrow
      have HC8 := Lib.hid ((HS4.out.1.alloc (.cells #[.int .i64 x.i, .int .i64 x.s, .int .i64 x.w, .int .i64 x.g, .int .i64 x.p] 31)).grown hgr (fun j hj => by have := (hown4.lt j hj).1; omega))
      have hgs := hgr.size
      simp at hgs
      have p1 : IntKind.i64.wrap ((m : Int) - 1) = ((m - 1 : Nat) : Int) := by rw [show (m : Int) - 1 = ((m - 1 : Nat) : Int) by omega]; exact IntWalk.i64_in _ (by omega)
      have hlt4 := fun j hj => (hown4.lt j hj).1
      have HX8 : Hid (w.grownBy w8 (some b)) := Lib.hid (grown_pastR HGa.out hgr (fun j hj => hlt4 j hj))
      have HOW := Lib.hid hown'
      clear hown' hgrow hown4
      go_wp2
      go_roundw
      case rel => exact ⟨m - 1, i2, l ++ [x], by go_num, rfl, by omega, by omega, by rw [List.length_append]; simp; omega, by omega, by rw [tiks_append, tiks_one, List.length_append]; exact HOW.out, Lib.hid ⟨HC8.out.mono (by omega), HX8.out⟩, Lib.hid (tik_all HQ.out HXB.out)⟩
      case measure => simp [intOf]; omega
    · obtain rfl : m = 0 := by omega
      have HO := Lib.hid hown
      have hbo : u3.ownBlock = none ∨ u3.ownBlock ≠ some b := by
        cases hu : u3.ownBlock with
        | none => exact .inl rfl
        | some j => exact .inr (fun e => by have := (hown.lt j hu).1; have := Option.some.inj e; omega)
      obtain ⟨ao, cao, hve⟩ := slice_of_own hown
      subst hve
      clear hown
      go_wp2_with fail
      refine (one_any B b _ 24 wr HS.out.1 (by omega) (by omega) (by omega)).mono ?_
      rintro e w2 ⟨q, rfl, hc, hg⟩
      have HS2 : Hid (Cur B b _ w2 ∧ w.grownBy w2 (some b)) := Lib.hid ⟨hc, grown_trans HS.out.2 hg⟩
      have HO2 := Lib.hid (HO.out.kept hg hbo)
      have hs2 := hg.size
      clear hc hg HO HS
      cases q with
      | false =>
        go_wp2
        go_ret
        exact ⟨_, l, rfl, HO2.out, by omega, HS2.out.1.mono (by omega), grown_below HS2.out.2 (by omega) (fun k hk => by cases hk; exact hBb), HS2.out.2, HQ.out⟩
      | true =>
        go_wp2_with fail
        go_loopw [3, 4] (fun out id wr => ∃ (i : Int) (l2 : List Tik), id = .int .i64 i ∧ (∃ a ca, out = .slice a l2.length ca) ∧ (0 ≤ i ∧ i ≤ 24 + (l2.length : Int)) ∧ l2.length ≤ 13 ∧ w.heap.size < wr.heap.size ∧ wr.ownsRow w.heap.size 31 5 out l2.length (tiks l2) ∧ Hid (Cur B b (k + 400 + 2 * l2.length) wr ∧ w.grownBy wr (some b)) ∧ Hid (∀ q, q < l2.length → TikB (gth l2 q))) (fun out _ _ => match out with | .slice _ n _ => 14 - n | _ => 0)
        case atStart => exact ⟨i, l, rfl, ⟨_, _, rfl⟩, by omega, by omega, by omega, HO2.out, Lib.hid ⟨HS2.out.1.mono (by omega), HS2.out.2⟩, HQ⟩
        case round =>
          obtain ⟨i, l2, rfl, ⟨a2, ca2, rfl⟩, hib, hl7, hsz, hown, HS, HQ2⟩ := hrel
          have HO := Lib.hid hown
          have hbo : (Value.slice a2 l2.length ca2).ownBlock = none ∨ (Value.slice a2 l2.length ca2).ownBlock ≠ some b := by
            cases hu : (Value.slice a2 l2.length ca2).ownBlock with
            | none => exact .inl rfl
            | some j => exact .inr (fun e => by have := (hown.lt j hu).1; have := Option.some.inj e; omega)
          clear hown
          go_wp2_with fail
          refine (pick_any B b _ 2 wr HS.out.1 (by omega) (by omega) (by omega)).mono ?_
          rintro e w3 ⟨r, rfl, hr, hc, hg⟩
          have HS3 : Hid (Cur B b _ w3 ∧ w.grownBy w3 (some b)) := Lib.hid ⟨hc, grown_trans HS.out.2 hg⟩
          have hown3 := HO.out.kept hg hbo
          have hs3 := hg.size
          clear hc hg HO HS
          have s1 : IntKind.i64.wrap (12 + (r : Int)) = 12 + (r : Int) := IntWalk.i64_in _ (by omega)
          by_cases hlt : (l2.length : Int) < 12 + (r : Int)
          · have hd : decide ((l2.length : Int) < 12 + (r : Int)) = true := by simpa using hlt
            have s2 : IntKind.i64.wrap (i + 1) = i + 1 := IntWalk.i64_in _ (by omega)
            have hlt4 := fun j hj => (hown3.lt j hj).1
            have hl12 : l2.length ≤ 12 := by omega
            clear hlt
            go_wp2_with (at_builtin; refine wpList_append_own _ rfl _ _ 24 rfl w.heap.size 31 i0 (.agg #[.int .i64 0, .int .i64 0, .int .i64 0, .int .i64 0, .int .i64 0]) 5 40 Tryd.underlying24 hi hz0 hz1 hz2 rfl (by decide) _ _ _ rfl (hown3.alloc _) ⟨w3.heap.size, 0, none⟩ 1 1 [.int .i64 (i + 1), .int .i64 2, .int .i64 10, .int .i64 1, .int .i64 0] rfl rfl (World.news_of_block (cs := #[.int .i64 (i + 1), .int .i64 2, .int .i64 10, .int .i64 1, .int .i64 0]) (t := 31) (fr := (0, 0)) (heap_alloc_new w3 _)) (by simp [Value.oneCell']) (by unfold maxLen; omega) (by omega) (by simp; omega) ?_; intro v' w8 hown' hgrow _)
            have hgr : (w3.alloc (.cells #[.int .i64 (i + 1), .int .i64 2, .int .i64 10, .int .i64 1, .int .i64 0] 31)).grownBy w8 (Value.slice a2 l2.length ca2).ownBlock := hgrow
            have HC8 := Lib.hid ((HS3.out.1.alloc (.cells #[.int .i64 (i + 1), .int .i64 2, .int .i64 10, .int .i64 1, .int .i64 0] 31)).grown hgr (fun j hj => by have := hlt4 j hj; omega))
            have hgs := hgr.size
            simp at hgs
            have HX8 := Lib.hid (grown_pastR (grown_trans HS3.out.2 (World.grownBy_alloc _ (.cells #[.int .i64 (i + 1), .int .i64 2, .int .i64 10, .int .i64 1, .int .i64 0] 31) (some b))) hgr (fun j hj => hlt4 j hj))
            have HOW := Lib.hid hown'
            obtain ⟨a3, ca3, hv3⟩ := slice_of_own hown'
            subst hv3
            clear hown' hgrow hown3
            have hl1 : (l2 ++ [(⟨i + 1, 2, 10, 1, 0⟩ : Tik)]).length = l2.length + 1 := by simp
            go_roundw
            case rel => exact ⟨i + 1, l2 ++ [⟨i + 1, 2, 10, 1, 0⟩], rfl, ⟨a3, ca3, by rw [hl1]⟩, by rw [hl1]; omega, by rw [hl1]; omega, by omega, by rw [tiks_append, tiks_one, hl1]; exact HOW.out, Lib.hid ⟨HC8.out.mono (by rw [hl1]; omega), HX8.out⟩, Lib.hid (tik_all HQ2.out trivial)⟩
            case measure => simp; omega
          · have hd : decide ((l2.length : Int) < 12 + (r : Int)) = false := by simpa using hlt
            clear hlt
            go_wp2
            go_ret
            exact ⟨_, l2, rfl, hown3, hl7, HS3.out.1.mono (by omega), grown_below HS3.out.2 (by omega) (fun k hk => by cases hk; exact hBb), HS3.out.2, HQ2.out⟩
end Go.Proofs.YtpknodbkjjcdjaaDoor
