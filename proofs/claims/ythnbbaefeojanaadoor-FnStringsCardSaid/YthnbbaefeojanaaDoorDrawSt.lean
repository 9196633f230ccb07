/- The walks of what FnStrings draws. Condition: sizes. -/
import Derived.Test.YthnbbaefeojanaaDoorCurOf
import Derived.Test.YthnbbaefeojanaaDoorCurOne
import Derived.Test.YthnbbaefeojanaaDoorNumW
namespace Go.Proofs.YthnbbaefeojanaaDoor
open Go.RowKit
set_option linter.unusedVariables false
/-- What a choice among numbers leaves. -/
def AmongPost (B b k : Nat) (l : List Int) (w : World) (e : Ending) (w' : World) : Prop := ∃ n : Int, n ∈ l ∧ e = .returned (.int .i64 n) ∧ Cur B b (k + 2) w' ∧ w.grownBy w' (some b)
set_option maxHeartbeats 1000000 in
theorem among_any (B b k g n c : Nat) (l : List Int) (w : World) (h : Cur B b k w) (hk : k ≤ 900000000) (hn : l.length = n) (hl : 1 ≤ n) (hl2 : n ≤ 60000) (hg : g ≠ b)
    (hc : ∀ (i : Nat) (h : i < l.length), w.cell? ⟨g, i, none⟩ = some (.int .i64 l[i])) :
    Calls Tryd.prog 21 #[.pointer (some ⟨b, 0, none⟩), .slice (some ⟨g, 0, none⟩) n c] w (AmongPost B b k l w) := by
  have HN := Lib.hid hn
  clear hn
  have HH := Lib.hid h
  have HC := Lib.hid hc
  clear h hc
  go_enter Tryd.func21, Tryd.ntmps21
  go_wp2_with fail
  refine (pick_any B b k _ _ HH.out hk (by omega) (by omega)).mono ?_
  rintro e w1 ⟨r, rfl, hr, hc1, hg1⟩
  have hrl : r < l.length := by rw [HN.out]; omega
  have hrn : r < n := by omega
  have hx : w1.cell? ⟨g, r, none⟩ = some (.int .i64 l[r]) := grown_cell hg1 (HC.out r hrl) (by simp; exact hg)
  have HC1 := Lib.hid hc1
  have HG1 := Lib.hid hg1
  clear hc1 hg1
  go_wp2_with fail
  go_ret
  exact ⟨l[r], List.getElem_mem hrl, rfl, HC1.out, HG1.out⟩
theorem int_cells (w : World) (t : TypeId) (l : List Int) (cs : Array Value) (hcs : cs = (l.map (Value.int .i64)).toArray) :
    ∀ (i : Nat) (h : i < l.length), (w.alloc (.cells cs t)).cell? ⟨w.heap.size, i, none⟩ = some (.int .i64 l[i]) := by
  intro i h
  subst hcs
  rw [World.cell?_alloc_at _ _ _ _ rfl]
  simp [h]
/-- What drawing a number leaves. -/
def IntDraw (w : World) (e : Ending) (w' : World) : Prop := ∃ n : Int, e = .returned (.int .i64 n) ∧ -1000000 ≤ n ∧ n ≤ 1000000 ∧ Below w.heap.size w w'
set_option maxHeartbeats 1000000 in
theorem DrawFormatInt_any (a : Option Addr) (len cap : Nat) (w : World) (h : ByteRow w a len) :
    Calls Tryd.prog 9 #[.slice a len cap] w (IntDraw w) := by
  have HC := Lib.hid (cur_new (cap := cap) h 37)
  clear h
  go_enter Tryd.func9, Tryd.ntmps9
  go_wp2_with fail
  refine (pick_any w.heap.size w.heap.size 0 1000 _ HC.out (by omega) (by omega) (by omega)).mono ?_
  rintro e w1 ⟨r, rfl, hr, hc, hg⟩
  have HG := Lib.hid hg
  have hw1 : w.heap.size < w1.heap.size := hc.2.1
  have HC1 := Lib.hid hc
  clear hg hc
  go_wp2_with fail
  refine (among_any w.heap.size w.heap.size 2 w1.heap.size 9 9 [0, 1, -1, 10, 999999, -999999, 1000000, -1000000, (r : Int) - 500] _ (HC1.out.alloc _) (by omega) rfl (by omega) (by omega) (by omega) (int_cells w1 3 _ _ rfl)).mono ?_
  rintro e w2 ⟨n, hn, rfl, _, hg⟩
  have HN : Hid (-1000000 ≤ n ∧ n ≤ 1000000) := by
    show _ ∧ _
    simp only [List.mem_cons, List.not_mem_nil, or_false] at hn
    omega
  have HG2 := Lib.hid hg
  clear hn hg
  go_wp2_with fail
  go_ret
  have g1 := grown_trans (grown_trans (World.grownBy_alloc w _ (some w.heap.size)) HG.out) (grown_trans (World.grownBy_alloc w1 _ (some w.heap.size)) HG2.out)
  exact ⟨n, rfl, HN.out.1, HN.out.2, grown_below g1 (Nat.le_refl _) (fun k hk => by cases hk; exact Nat.le_refl _)⟩
/-- What drawing a text of at most m bytes leaves. -/
def StrDraw (m : Nat) (w : World) (e : Ending) (w' : World) : Prop := ∃ s : ByteArray, e = .returned (.string s) ∧ s.size ≤ m ∧ Below w.heap.size w w'
def parseL : List ByteArray := [⟨#[]⟩, ⟨#[45]⟩, ⟨#[45, 48]⟩, ⟨#[48, 48]⟩, ⟨#[48, 49]⟩, ⟨#[45, 45, 49]⟩, ⟨#[49, 120]⟩, ⟨#[57, 57, 57, 57, 57, 57]⟩, ⟨#[49, 48, 48, 48, 48, 48, 48]⟩, ⟨#[45, 57, 57, 57, 57, 57, 57]⟩, ⟨#[49, 56, 52, 52, 54, 55, 52, 52, 48, 55, 51, 55, 48, 57, 53, 53, 49, 54, 49, 55]⟩]
theorem parseL_size : ∀ s ∈ parseL, s.size ≤ 20 := by decide
theorem num_le (n : Int) (h0 : -999999 ≤ n) (h1 : n ≤ 999999) : (num n).size ≤ 20 := by
  by_cases h : n < 0
  · have := num_len 5 (-n) (by omega) (by omega)
    rw [num_neg n h, ByteArray.size_append]
    have e : (⟨#[45]⟩ : ByteArray).size = 1 := rfl
    omega
  · have := num_len 5 n (by omega) (by omega)
    omega
set_option maxHeartbeats 1000000 in
theorem DrawParseInt_any (a : Option Addr) (len cap : Nat) (w : World) (h : ByteRow w a len) :
    Calls Tryd.prog 12 #[.slice a len cap] w (StrDraw 20 w) := by
  have HC := Lib.hid (cur_new (cap := cap) h 37)
  clear h
  go_enter Tryd.func12, Tryd.ntmps12
  go_wp2_with fail
  refine (one_any w.heap.size w.heap.size 0 2 _ HC.out (by omega) (by omega) (by omega)).mono ?_
  rintro e w1 ⟨p, rfl, hc, hg⟩
  have HG := Lib.hid (grown_trans (World.grownBy_alloc w _ (some w.heap.size)) hg)
  have hw1 : w.heap.size < w1.heap.size := hc.2.1
  have HC1 := Lib.hid hc
  clear hg hc
  cases p with
  | true =>
    go_wp2_with fail
    refine (of_any w.heap.size w.heap.size 2 w1.heap.size 11 11 parseL _ (HC1.out.alloc _) (by omega) rfl (by omega) (by omega) (by omega) (list_cells w1 9 parseL _ rfl)).mono ?_
    rintro e w2 ⟨t, ht, rfl, _, hg⟩
    have HT := Lib.hid (parseL_size t ht)
    have HG2 := Lib.hid hg
    clear ht hg
    go_wp2_with fail
    go_ret
    have g1 := grown_trans HG.out (grown_trans (World.grownBy_alloc w1 _ (some w.heap.size)) HG2.out)
    exact ⟨t, rfl, HT.out, grown_below g1 (Nat.le_refl _) (fun k hk => by cases hk; exact Nat.le_refl _)⟩
  | false =>
    go_wp2_with fail
    refine (pick_any w.heap.size w.heap.size 2 2000 _ HC1.out (by omega) (by omega) (by omega)).mono ?_
    rintro e w2 ⟨r, rfl, hr, _, hg⟩
    have HG2 := Lib.hid hg
    clear hg
    go_wp2_with fail
    refine (l1Num_any ((r : Int) - 1000) _ (by omega) (by omega)).mono ?_
    rintro e w3 ⟨rfl, m, rfl⟩
    have HS := Lib.hid (num_le ((r : Int) - 1000) (by omega) (by omega))
    go_wp2_with fail
    go_ret
    have g1 := grown_trans HG.out (grown_trans HG2.out (grown_drew w2 m (some w.heap.size)))
    exact ⟨_, rfl, HS.out, grown_below g1 (Nat.le_refl _) (fun k hk => by cases hk; exact Nat.le_refl _)⟩
set_option maxHeartbeats 1000000 in
theorem DrawAppendChecksum_any (a : Option Addr) (len cap : Nat) (w : World) (h : ByteRow w a len) :
    Calls Tryd.prog 15 #[.slice a len cap] w (StrDraw 4000 w) := by
  obtain ⟨j0, hj, hy0, hy1, hy2⟩ := info_parts Tryd.infoByte
  have HC := Lib.hid (cur_new (cap := cap) h 37)
  clear h
  go_enter Tryd.func15, Tryd.ntmps15
  go_wp2_with fail
  refine (one_any w.heap.size w.heap.size 0 20 _ HC.out (by omega) (by omega) (by omega)).mono ?_
  rintro e w1 ⟨p, rfl, hc, hg⟩
  have HG := Lib.hid (grown_trans (World.grownBy_alloc w _ (some w.heap.size)) hg)
  have hw1 : w.heap.size < w1.heap.size := hc.2.1
  have HC1 := Lib.hid hc
  clear hg hc
  cases p with
  | true =>
    go_wp2_with fail
    refine (pick_any w.heap.size w.heap.size 2 10 _ HC1.out (by omega) (by omega) (by omega)).mono ?_
    rintro e w2 ⟨q, rfl, hr, _, hg⟩
    have HG2 := Lib.hid hg
    clear hg
    go_wp2_with (at_make; refine wpList_make_full _ rfl _ _ 22 rfl w2.heap.size 5 j0 (.int .u8 0) 1 Tryd.underlying22 hj hy0 hy1 _ _ _ _ (3990 + q) rfl rfl (by simp) (by simp) (by rw [hy2]; omega) (by unfold maxLen; omega) (Nat.le_refl _) ?_; intro w4 hown4 hgrow4; have hconv := zeros_conv Tryd.prog w4 22 9 5 _ (3990 + q) Tryd.underlying22 Tryd.underlying5 Tryd.underlying9 _ hown4)
    go_ret
    have b1 : Below w.heap.size w w2 := grown_below (grown_trans HG.out HG2.out) (Nat.le_refl _) (fun k hk => by cases hk; exact Nat.le_refl _)
    exact ⟨_, rfl, by rw [zeros_size]; omega, b1.trans (grown_below hgrow4 b1.size (fun k hk => by cases hk))⟩
  | false =>
    go_wp2_with fail
    refine (any1_any w.heap.size w.heap.size 2 _ HC1.out (by omega)).mono ?_
    rintro e w2 ⟨t, ht, rfl, _, hg⟩
    have HT := Lib.hid (any1_size t ht)
    have HG2 := Lib.hid hg
    clear ht hg
    go_wp2_with fail
    go_ret
    have g1 := grown_trans HG.out HG2.out
    exact ⟨t, rfl, by have := HT.out; omega, grown_below g1 (Nat.le_refl _) (fun k hk => by cases hk; exact Nat.le_refl _)⟩
end Go.Proofs.YthnbbaefeojanaaDoor
