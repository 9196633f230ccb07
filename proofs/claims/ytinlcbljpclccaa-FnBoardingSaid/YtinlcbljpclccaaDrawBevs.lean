/- The drawn events. Condition: sizes. -/
import Derived.Test.YtinlcbljpclccaaDrawBev
import Derived.Test.YtinlcbljpclccaaDrawKit
import Derived.Test.YtinlcbljpclccaaBevS
import Derived.Test.YtinlcbljpclccaaAppAny
import Derived.Test.YtinlcbljpclccaaBlk2
import Derived.Deep.DeepCutAuto
namespace Go.Proofs.Ytinlcbljpclccaa
open Go.RowKit
set_option linter.unusedVariables false
def lenB : Value → Nat
  | .slice _ n _ => n
  | _ => 0
/-- What drawing events leaves. -/
def BsPost (B b k : Nat) (w : World) (e : Ending) (w' : World) : Prop := ∃ (v : Value) (l : List Bev), e = .returned v ∧ St 35 2 B b (k + 200) w w' v l.length (bevs l) ∧ l.length ≤ 21
theorem st_noneB {B b k : Nat} {w : World} (h : Cur B b k w) : St 35 2 B b k w (w.alloc (.cells #[] 35)) (.slice (some ⟨w.heap.size, 0, none⟩) 0 0) ([] : List Bev).length (bevs []) :=
  ⟨h.alloc _, World.ownsRow_made w #[] 0 (Nat.le_refl _) (by decide) rfl, World.grownBy_alloc w _ _, h.2.1⟩
theorem bevs_snocB (l : List Bev) (x : Bev) : bevs (l ++ [x]) = bevs l ++ [.string x.k, .int .i64 x.c] := by rw [bevs_append, bevs_one]
set_option maxRecDepth 100000 in
set_option maxHeartbeats 4000000 in
theorem boardEvents_any (B b k : Nat) (w : World) (h : Cur B b k w) (hk : k ≤ 700000000) :
    Calls Try.prog 47 #[.pointer (some ⟨b, 0, none⟩)] w (BsPost B b k w) := by
  obtain ⟨i0, hi, hy0, hy1, hy2⟩ := info_parts Try.infoBev
  have hb := h.2.1
  have S0 := Lib.hid (st_noneB h)
  clear h
  go_enter Try.func47, Try.ntmps47
  go_wp2_with fail
  refine (pick_any B b k 10 _ S0.out.cur (by omega) (by omega) (by omega)).mono ?_
  rintro e w1 ⟨r0, rfl, hr0, hc, hg⟩
  have S1 := Lib.hid (S0.out.call hc hg)
  clear hc hg S0
  go_wp2
  go_loopw [3, 4] (fun v n wr => ∃ (m kk : Nat) (l : List Bev), n = .int .i64 (m : Int) ∧ l.length + m ≤ 9 ∧ kk + 12 * m ≤ 110 ∧ Hid (St 35 2 B b (k + kk) w wr v l.length (bevs l))) (fun _ n _ => (intOf n).toNat)
  case atStart => exact ⟨r0, 2, [], rfl, by simp; omega, by omega, S1⟩
  case round =>
    obtain ⟨m, kk, l, rfl, hlm, hkk, S5⟩ := hrel
    obtain ⟨ao, ca, rfl⟩ := (Rs.of_own S5.out.own).shape
    have hsz := S5.out.size
    have hbw := S5.out.cur.2.1
    by_cases hm : 0 < m
    · have hmi : (0 : Int) < (m : Int) := by omega
      have p2 : IntKind.i64.wrap ((m : Int) - 1) = ((m - 1 : Nat) : Int) := by rw [show (m : Int) - 1 = ((m - 1 : Nat) : Int) by omega]; exact IntWalk.i64_in _ (by omega)
      go_wp2_with fail
      refine (boardEvent_any B b (k + kk) wr S5.out.cur (by omega)).mono ?_
      rintro e w6 ⟨x, hxk, hxc, rfl, hc, hg⟩
      have S6 := Lib.hid (S5.out.call hc hg)
      unfold Bev.agg
      have hown := (S6.out.alloc (.cells #[.string x.k, .int .i64 x.c] 35)).own
      have hsz6 := S6.out.size
      clear hc hg hxk hxc
      go_wp2_with (at_builtin; go_loud (refine wpList_append_any _ rfl _ _ 26 rfl w.heap.size 35 i0 (.agg #[.string ⟨#[]⟩, .int .i64 0]) 2 24 Try.underlying26 hi hy0 hy1 hy2 rfl (by decide) _ _ _ rfl hown (some ⟨w6.heap.size, 0, none⟩) 1 1 [.string x.k, .int .i64 x.c] rfl rfl (fun _ => ⟨_, rfl, World.news_of_block (cs := #[.string x.k, .int .i64 x.c]) (t := 35) (fr := (0, 0)) (heap_alloc_new w6 _)⟩) (by simp [Value.oneCell']) (by unfold maxLen; omega) (by omega) (by simp; omega) ?_; intro v9 w9 hown' hgrow _; have S7 := Lib.hid ((S6.out.alloc (.cells #[.string x.k, .int .i64 x.c] 35)).app hown' hgrow); clear hown hown' hgrow))
      have HG := Lib.hid (bevs_snocB l x)
      go_wp2
      go_roundw
      case rel => exact ⟨m - 1, kk + 12, l ++ [x], by go_num, by simp; omega, by omega, Lib.hid (by rw [HG.out, List.length_append]; simpa [Nat.add_assoc] using S7.out)⟩
      case measure => simp [intOf]; omega
    · have hmi : ¬ (0 : Int) < (m : Int) := by omega
      have S8 := Lib.hid (S5.out.more (k' := k + 110) (by omega))
      clear S5
      go_wp2_with fail
      refine (one_any B b (k + 110) 24 _ S8.out.cur (by omega) (by omega) (by omega)).mono ?_
      rintro e w2 ⟨bq, rfl, hc, hg⟩
      have S9 := Lib.hid (S8.out.call hc hg)
      have hsz9 := S9.out.size
      have hbw9 := S9.out.cur.2.1
      clear hc hg S8
      cases bq with
      | true =>
        go_wp2
        go_loopw [3] (fun v wr => ∃ (kk : Nat) (l : List Bev), l.length ≤ 21 ∧ kk ≤ 112 + 2 * l.length ∧ Hid (St 35 2 B b (k + kk) w wr v l.length (bevs l))) (fun v _ => 22 - lenB v)
        case atStart => exact ⟨112, l, by omega, by omega, S9⟩
        case round =>
          obtain ⟨kk2, l2, hl2, hkk2, S10⟩ := hrel
          obtain ⟨ao2, ca2, rfl⟩ := (Rs.of_own S10.out.own).shape
          go_wp2_with fail
          refine (pick_any B b (k + kk2) 2 _ S10.out.cur (by omega) (by omega) (by omega)).mono ?_
          rintro e w6 ⟨r6, rfl, hr6, hc, hg⟩
          have S6 := Lib.hid (S10.out.call hc hg)
          have hsz6 := S6.out.size
          have hown := (S6.out.alloc (.cells #[.string kArrive, .int .i64 1] 35)).own
          clear hc hg S10
          by_cases hcmp : (l2.length : Int) < 20 + (r6 : Int)
          · have t3 : decide ((l2.length : Int) < 20 + (r6 : Int)) = true := by simpa using hcmp
            have hlen : l2.length ≤ 20 := by omega
            go_wp2_with (at_builtin; go_loud (refine wpList_append_any _ rfl _ _ 26 rfl w.heap.size 35 i0 (.agg #[.string ⟨#[]⟩, .int .i64 0]) 2 24 Try.underlying26 hi hy0 hy1 hy2 rfl (by decide) _ _ _ rfl hown (some ⟨w6.heap.size, 0, none⟩) 1 1 [.string kArrive, .int .i64 1] rfl rfl (fun _ => ⟨_, rfl, World.news_of_block (cs := #[.string kArrive, .int .i64 1]) (t := 35) (fr := (0, 0)) (heap_alloc_new w6 _)⟩) (by simp [Value.oneCell']) (by unfold maxLen; omega) (by omega) (by simp; omega) ?_; intro v9 w9 hown' hgrow _; have S7 := Lib.hid ((S6.out.alloc (.cells #[.string kArrive, .int .i64 1] 35)).app hown' hgrow); clear hown hown' hgrow))
            have HG := Lib.hid (bevs_snocB l2 ⟨kArrive, 1⟩)
            obtain ⟨v7a, v7c, hv7⟩ := (Rs.of_own S7.out.own).shape
            subst hv7
            go_wp2
            go_roundw
            case rel => exact ⟨kk2 + 2, l2 ++ [⟨kArrive, 1⟩], by simp; omega, by simp; omega, Lib.hid (by rw [HG.out, List.length_append]; simpa [Nat.add_assoc] using S7.out)⟩
            case measure => simp [lenB]; omega
          · have t3 : decide ((l2.length : Int) < 20 + (r6 : Int)) = false := by simpa using hcmp
            clear hown
            go_wp2
            go_ret
            exact ⟨_, l2, rfl, S6.out.more (k' := k + 200) (by omega), by omega⟩
      | false =>
        go_wp2
        go_ret
        exact ⟨_, l, rfl, S9.out.more (by omega), by omega⟩
end Go.Proofs.Ytinlcbljpclccaa
