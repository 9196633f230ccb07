/- The law FnLines: its draws, its mathematics and its walk. Condition: sizes; the listed variables of the library are as laid. -/
import Derived.Test.YtmmjbdffpgohdaaDoorClimbC
import Derived.Test.YtmmjbdffpgohdaaDoorReverseC
import Derived.Test.YtmmjbdffpgohdaaDoorDrawLine
import Derived.Test.YtmmjbdffpgohdaaDoorBig
import Derived.Test.YtmmjbdffpgohdaaDoorDrawKit
import Derived.Test.YtmmjbdffpgohdaaDoorAft
import Derived.Test.YtmmjbdffpgohdaaDoorNumW
import Derived.Test.YtmmjbdffpgohdaaDoorL1Math
import Derived.Test.YtmmjbdffpgohdaaDoorParsePlain
import Derived.Test.YtmmjbdffpgohdaaDoorParseLineC
import Derived.Test.YtmmjbdffpgohdaaDoorParseLineS
import Derived.WalkArith
import Derived.Deep.CutRange
import Derived.Deep.CutBlock
import Derived.Deep.DeepCutAuto
namespace Go.Proofs.YtmmjbdffpgohdaaDoor
open Go.RowKit
set_option linter.unusedVariables false
theorem sup_ext {l m : List Sup} (h : l.length = m.length) (hx : ∀ i, i < l.length → nth l i = nth m i) : l = m := by
  apply List.ext_getElem h
  intro i h1 h2
  have := hx i h1
  simpa [nth, List.getD, h1, h2] using this
theorem IsL.upTo {l : List Sup} (hl : IsL l) (i : Nat) : ∀ j, i ≤ j → j < l.length → (nth l i).a ≤ (nth l j).a
  | 0, h, _ => by
    obtain rfl : i = 0 := by omega
    exact Int.le_refl _
  | j + 1, h, hj => by
    by_cases e : i = j + 1
    · subst e; exact Int.le_refl _
    · have h1 := hl.upTo i j (by omega) (by omega)
      have h2 := hl.asc (i := j) hj
      omega
theorem rev_end {l : List Sup} (hl : IsL l) : (nth (revK l) ((revK l).length - 1)).a = (nth l (l.length - 1)).a := by
  have h2 := hl.two
  have h0 := hl.a0
  rw [revK_len, revK_nth (by omega)]
  rw [show l.length - 1 - (l.length - 1) = 0 by omega]
  show (nth l (l.length - 1)).a - (nth l 0).a = _
  omega
theorem rev_isL {l : List Sup} (hl : IsL l) : IsL (revK l) := by
  have h2 := hl.two
  have h8 := hl.eight
  refine ⟨by rw [revK_len]; exact h2, by rw [revK_len]; exact h8, ?_, ?_, ?_, fun i hi => ?_⟩
  · rw [revK_nth (by omega)]
    show (nth l (l.length - 1)).a - (nth l (l.length - 1 - 0)).a = 0
    rw [Nat.sub_zero]; omega
  · rw [revK_nth (by omega)]
    show (nth l (l.length - 1 - 0)).s = true
    rw [Nat.sub_zero]; exact hl.sl
  · rw [revK_len, revK_nth (by omega), show l.length - 1 - (l.length - 1) = 0 by omega]
    exact hl.s0
  · rw [revK_len] at hi
    unfold OkAt
    rw [revK_nth hi]
    have b := hl.bd (i := l.length - 1 - i) (by omega)
    have e := hl.bd (i := l.length - 1) (by omega)
    have m := hl.upTo (l.length - 1 - i) (l.length - 1) (by omega) (by omega)
    refine ⟨?_, ?_, b.2.2.1, b.2.2.2, fun h0 => ?_⟩
    · show 0 ≤ (nth l (l.length - 1)).a - (nth l (l.length - 1 - i)).a
      omega
    · show (nth l (l.length - 1)).a - (nth l (l.length - 1 - i)).a ≤ 3000
      omega
    · rw [revK_nth (by omega)]
      show (nth l (l.length - 1)).a - (nth l (l.length - 1 - (i - 1))).a < (nth l (l.length - 1)).a - (nth l (l.length - 1 - i)).a
      have h3 := hl.asc (i := l.length - 1 - i) (by omega)
      rw [show l.length - 1 - i + 1 = l.length - 1 - (i - 1) by omega] at h3
      omega
theorem rev_back {l : List Sup} (hl : IsL l) : revK (revK l) = l := by
  have h2 := hl.two
  have he := rev_end hl
  apply sup_ext (by rw [revK_len, revK_len])
  intro i hi
  rw [revK_len, revK_len] at hi
  rw [revK_nth (by rw [revK_len]; exact hi), he, revK_len, revK_nth (by omega), show l.length - 1 - (l.length - 1 - i) = i by omega]
  unfold turn
  show (⟨(nth l (l.length - 1)).a - ((nth l (l.length - 1)).a - (nth l i).a), (nth l i).h, (nth l i).s⟩ : Sup) = nth l i
  rw [show (nth l (l.length - 1)).a - ((nth l (l.length - 1)).a - (nth l i).a) = (nth l i).a by omega]
theorem srise_rev {l : List Sup} {k : Nat} (h : k + 1 < l.length) : srise (revK l) k = - srise l (l.length - 2 - k) := by
  unfold srise
  rw [revK_nth (by omega), revK_nth (by omega)]
  show (nth l (l.length - 1 - (k + 1))).h - (nth l (l.length - 1 - k)).h = - ((nth l (l.length - 2 - k + 1)).h - (nth l (l.length - 2 - k)).h)
  rw [show l.length - 1 - (k + 1) = l.length - 2 - k by omega, show l.length - 2 - k + 1 = l.length - 1 - k by omega]
  omega
theorem up_rev (l : List Sup) : ∀ k, k + 1 ≤ l.length → upK (revK l) k + dnK l (l.length - 1 - k) = dnK l (l.length - 1) ∧ dnK (revK l) k + upK l (l.length - 1 - k) = upK l (l.length - 1)
  | 0, h => by simp [upK, dnK]
  | k + 1, h => by
    obtain ⟨h1, h2⟩ := up_rev l k (by omega)
    have hs := srise_rev (l := l) (k := k) (by omega)
    rw [show l.length - 1 - k = (l.length - 2 - k) + 1 by omega] at h1 h2
    simp only [upK, dnK] at h1 h2 ⊢
    rw [show l.length - 1 - (k + 1) = l.length - 2 - k by omega]
    rw [hs]
    generalize srise l (l.length - 2 - k) = s at *
    constructor
    · split at h1 <;> split <;> omega
    · split at h2 <;> split <;> omega
theorem climb_sum (l : List Sup) : ∀ k, upK l k - dnK l k = (nth l k).h - (nth l 0).h
  | 0 => by simp [upK, dnK]
  | k + 1 => by
    have ih := climb_sum l k
    simp only [upK, dnK]
    have hs : srise l k = (nth l (k + 1)).h - (nth l k).h := rfl
    split <;> split <;> omega
/-- What the law asks of a line that is one. -/
theorem line_keeps {l : List Sup} (h : isL l = true) :
    isL (rev l) = true ∧ rev (rev l) = l ∧ climbU (rev l) = climbD l ∧ climbD (rev l) = climbU l ∧ climbU l - climbD l = (nth l (l.length - 1)).h - (nth l 0).h ∧
    (0 ≤ climbU l ∧ climbU l ≤ 20000) ∧ (0 ≤ climbD l ∧ climbD l ≤ 20000) ∧ (2 ≤ l.length ∧ l.length ≤ 8) ∧
    (0 ≤ (nth l 0).h ∧ (nth l 0).h ≤ 2000) ∧ (0 ≤ (nth l (l.length - 1)).h ∧ (nth l (l.length - 1)).h ≤ 2000) := by
  have hl := isL_yes h
  have h2 := hl.two
  have h8 := hl.eight
  have hr := rev_isL hl
  have hrb := (isL_iff (revK l)).2 hr
  obtain ⟨u, d⟩ := up_rev l (l.length - 1) (by omega)
  rw [show l.length - 1 - (l.length - 1) = 0 by omega] at u d
  simp only [upK, dnK] at u d
  have bu := upK_bd hl (l.length - 1) (by omega)
  have bd := dnK_bd hl (l.length - 1) (by omega)
  have cs := climb_sum l (l.length - 1)
  have e1 : climbU l = upK l (l.length - 1) := by simp [climbU, h]
  have e2 : climbD l = dnK l (l.length - 1) := by simp [climbD, h]
  have e3 : climbU (revK l) = upK (revK l) (l.length - 1) := by simp [climbU, hrb, revK_len]
  have e4 : climbD (revK l) = dnK (revK l) (l.length - 1) := by simp [climbD, hrb, revK_len]
  have p0 := hl.bd (i := 0) (by omega)
  have p1 := hl.bd (i := l.length - 1) (by omega)
  rw [rev_yes h]
  exact ⟨hrb, by rw [rev_yes hrb, rev_back hl], by omega, by omega, by omega, by omega, by omega, by omega, p0.2.2, p1.2.2⟩
set_option maxHeartbeats 400000 in
theorem vLine_same (va vb : Value) (l : List Sup) (w : World) (ha : Rs w va l.length (sups l)) (hb : Rs w vb l.length (sups l)) (hn : l.length ≤ 1048576) :
    Calls Tryd.prog 8 #[va, vb] w fun e w' => e = .returned (.bool true) ∧ Drew w w' := by
  by_cases h0 : l = []
  · subst h0
    obtain ⟨a, ca, rfl⟩ := ha.shape
    obtain ⟨b, cb, rfl⟩ := hb.shape
    clear ha hb
    go_enter Tryd.func8, Tryd.ntmps8
    go_wp2
    refine wp_loop_rounds 1 ?_
    rw [rounds_succ]
    go_wp2
    go_ret
    exact ⟨rfl, Drew.refl _⟩
  · have hne : l.length ≠ 0 := fun e => h0 (List.length_eq_zero_iff.1 e)
    obtain ⟨a, oa, ca, rfl, hla, hm, hca⟩ := ha.sup hne
    obtain ⟨b, ob, cb, rfl, hlb, _, hcb⟩ := hb.sup hne
    unfold maxLen at hm
    have HA := Lib.hid hca
    have HB := Lib.hid hcb
    clear hca hcb ha hb hne h0
    go_enter Tryd.func8, Tryd.ntmps8
    go_wp2
    go_loopw [5] (fun i wr => ∃ k m : Nat, k ≤ l.length ∧ i = .int .i64 k ∧ wr = w.drewN m) (fun i _ => l.length - (intOf i).toNat)
    case atStart => exact ⟨0, 0, Nat.zero_le _, rfl, rfl⟩
    case round =>
      obtain ⟨k, m, hk, rfl, rfl⟩ := hrel
      by_cases hlt : k < l.length
      · obtain ⟨c1, c2, c3⟩ := HA.out k hlt
        obtain ⟨d1, d2, d3⟩ := HB.out k hlt
        generalize (nth l k).a = x at *
        generalize (nth l k).h = y at *
        generalize (nth l k).s = z at *
        go_wp2
        go_quiet (fail)
        go_wp2
        go_roundw
        case rel => exact ⟨k + 1, m + nq, by omega, by go_num, rfl⟩
        case measure => simp [intOf]; omega
      · go_wp2
        go_ret
        exact ⟨rfl, m, rfl⟩
theorem vLine_c (va vb : Value) (l : List Sup) (w : World) (ha : Rs w va l.length (sups l)) (hb : Rs w vb l.length (sups l)) (hn : l.length ≤ 1048576) :
    Calls Tryd.prog 8 #[va, vb] w fun e w' => e = .returned (.bool true) ∧ Below w.heap.size w w' := (vLine_same va vb l w ha hb hn).mono fun _ _ h => ⟨h.1, h.2.below _⟩
end Go.Proofs.YtmmjbdffpgohdaaDoor

namespace Go.Proofs.YtmmjbdffpgohdaaDoor
open Go.RowKit
set_option linter.unusedVariables false
/-- What drawing a line leaves. -/
def DlPost (w : World) (e : Ending) (w' : World) : Prop := ∃ (v : Value) (l : List Sup), e = .returned v ∧ w'.ownsRow w.heap.size 33 3 v l.length (sups l) ∧ (1 ≤ l.length ∧ l.length ≤ 9) ∧ Below w.heap.size w w'
/-- What drawing a line and a place leaves. -/
def DpPost (w : World) (e : Ending) (w' : World) : Prop := ∃ (v : Value) (l : List Sup) (p : Int), e = .returned (.tuple #[v, .int .i64 p]) ∧ (-10000 ≤ p ∧ p ≤ 10000) ∧ w'.ownsRow w.heap.size 33 3 v l.length (sups l) ∧ (1 ≤ l.length ∧ l.length ≤ 9) ∧ Below w.heap.size w w'
theorem own_mono' {w : World} {B B' e size n : Nat} {v : Value} {xs : List Value} (h : w.ownsRow B e size v n xs) (hB : B' ≤ B) : w.ownsRow B' e size v n xs := own_mono h hB
set_option maxHeartbeats 1000000 in
theorem DrawIsLine_any (a : Option Addr) (len cap : Nat) (w : World) (h : ByteRow w a len) :
    Calls Tryd.prog 18 #[.slice a len cap] w (DlPost w) := by
  have HC := Lib.hid (cur_new (cap := cap) h 52)
  clear h
  go_enter Tryd.func18, Tryd.ntmps18
  go_wp2_with fail
  refine (line_any w.heap.size w.heap.size 0 _ HC.out (by omega)).mono ?_
  rintro e w1 ⟨v, l, rfl, S, hl, hb⟩
  have SS := Lib.hid S
  clear S
  go_wp2_with fail
  go_ret
  have g1 := grown_trans (World.grownBy_alloc w (.cells #[.slice a len cap, .int .i64 0, .int .u64 0] 52) (some w.heap.size)) SS.out.gr
  exact ⟨v, l, rfl, own_mono' SS.out.own (by simp), hl, grown_below g1 (Nat.le_refl _) (fun k hk => by cases hk; exact Nat.le_refl _)⟩
/-- What a place leaves. -/
def PlPost (B b k : Nat) (w : World) (e : Ending) (w' : World) : Prop := ∃ p : Int, e = .returned (.int .i64 p) ∧ (-10000 ≤ p ∧ p ≤ 10000) ∧ Cur B b (k + 10) w' ∧ w.grownBy w' (some b)
end Go.Proofs.YtmmjbdffpgohdaaDoor

namespace Go.Proofs.YtmmjbdffpgohdaaDoor
open Go.RowKit
set_option linter.unusedVariables false
theorem run_lo_str (P : Program) (t : TypeId) (s : ByteArray) (lo : Nat) (W : World) (ht : P.underlying t = some .string) (h1 : lo ≤ s.size) :
    (Instr.slice t (.string s) (some (.int .i64 (lo : Int))) none none).run P W = .ok (.string (s.extract lo s.size)) W := by
  have a1 : (lo : Int) ≤ (s.size : Int) := by omega
  go_simp
theorem run_lo1_str (P : Program) (t : TypeId) (s : ByteArray) (lo : Nat) (W : World) (ht : P.underlying t = some .string) (h1 : lo + 1 ≤ s.size) :
    (Instr.slice t (.string s) (some (.int .i64 ((lo : Int) + 1))) none none).run P W = .ok (.string (s.extract (lo + 1) s.size)) W := by
  have h := run_lo_str P t s (lo + 1) W ht h1
  rw [show (((lo + 1 : Nat)) : Int) = (lo : Int) + 1 by omega] at h
  exact h
theorem run_hi_str (P : Program) (t : TypeId) (s : ByteArray) (hi : Nat) (W : World) (ht : P.underlying t = some .string) (h1 : hi ≤ s.size) :
    (Instr.slice t (.string s) none (some (.int .i64 (hi : Int))) none).run P W = .ok (.string (s.extract 0 hi)) W := by
  have a1 : (hi : Int) ≤ (s.size : Int) := by omega
  go_simp
theorem run_hi1_str (P : Program) (t : TypeId) (s : ByteArray) (W : World) (ht : P.underlying t = some .string) (h1 : 1 ≤ s.size) :
    (Instr.slice t (.string s) none (some (.int .i64 1)) none).run P W = .ok (.string (s.extract 0 1)) W := run_hi_str P t s 1 W ht h1
theorem Cur.drewD1 {B b k : Nat} {w : World} (h : Cur B b k w) (n : Nat) : Cur B b k (w.drewN n) := h.grown (row := none) (grown_drew w n none) (fun j hj => by cases hj)
def SpPostL (B b k : Nat) (t : ByteArray) (w : World) (e : Ending) (w' : World) : Prop := ∃ u : ByteArray, e = .returned (.string u) ∧ u.size ≤ t.size + 8 ∧ Cur B b (k + 6) w' ∧ w.grownBy w' (some b)
set_option maxRecDepth 100000 in
set_option maxHeartbeats 2000000 in
theorem spoiltL_any (B b k : Nat) (t : ByteArray) (w : World) (h : Cur B b k w) (hk : k ≤ 800000000) (ht : t.size ≤ 200) :
    Calls Tryd.prog 30 #[.pointer (some ⟨b, 0, none⟩), .string t, .string ⟨#[83, 84, 48, 58, 32, 49]⟩] w (SpPostL B b k t w) := by
  have HC := Lib.hid h
  have hb := h.2.1
  clear h
  have hU : Tryd.prog.underlying 9 = some .string := Tryd.underlying9
  by_cases h0 : t = ⟨#[]⟩
  · subst h0
    go_enter Tryd.func30, Tryd.ntmps30
    go_wp2
    go_ret
    exact ⟨_, rfl, by rw [ByteArray.size_extract]; omega, HC.out.mono (by omega), grown_drew w 0 (some b)⟩
  · have hts : 1 ≤ t.size := by
      by_cases hz : t.size = 0
      · have e : t.data = #[] := Array.eq_empty_of_size_eq_zero hz
        exact absurd (by cases t; simp_all) h0
      · omega
    have t0 : t.toList.isEmpty = false := by
      rw [ByteArray.toList_eq, List.isEmpty_eq_false_iff]
      intro e
      have : t.data.toList.length = 0 := by rw [e]; rfl
      have h2 : t.data.toList.length = t.size := Array.length_toList
      omega
    clear h0
    go_enter Tryd.func30, Tryd.ntmps30
    go_wp2_with fail
    refine (pick_any B b k (t.size : Int) w HC.out (by omega) (by omega) (by omega)).mono ?_
    rintro e w1 ⟨i, rfl, hi, hc, hg⟩
    have hil : i < t.size := by omega
    have C1 := Lib.hid hc
    have G1 := Lib.hid hg
    clear hc hg HC hi
    go_wp2_with fail
    refine (pick_any B b (k + 2) 6 w1 C1.out (by omega) (by omega) (by omega)).mono ?_
    rintro e w2 ⟨j, rfl, hj, hc, hg⟩
    have hjl : j < 6 := by omega
    have C2 := Lib.hid hc
    have G2 := Lib.hid (grown_trans G1.out hg)
    clear hc hg C1 hj
    have hC7 : (⟨#[83, 84, 48, 58, 32, 49]⟩ : ByteArray).size = 6 := rfl
    have R1 := fun W => run_lo_str Tryd.prog 9 ⟨#[83, 84, 48, 58, 32, 49]⟩ j W hU (by omega)
    have hs1 : ((⟨#[83, 84, 48, 58, 32, 49]⟩ : ByteArray).extract j (⟨#[83, 84, 48, 58, 32, 49]⟩ : ByteArray).size).size = 6 - j := by rw [ByteArray.size_extract, hC7]; omega
    generalize (⟨#[83, 84, 48, 58, 32, 49]⟩ : ByteArray).extract j (⟨#[83, 84, 48, 58, 32, 49]⟩ : ByteArray).size = W1 at *
    have R2 := fun W => run_hi1_str Tryd.prog 9 W1 W hU (by omega)
    have hs2 : (W1.extract 0 1).size = 1 := by rw [ByteArray.size_extract]; omega
    generalize W1.extract 0 1 = X at *
    have R3 := fun W => run_hi_str Tryd.prog 9 t i W hU (by omega)
    have hs3 : (t.extract 0 i).size = i := by rw [ByteArray.size_extract]; omega
    generalize t.extract 0 i = A at *
    have R4 := fun W => run_lo_str Tryd.prog 9 t i W hU (by omega)
    have hs4 : (t.extract i t.size).size = t.size - i := by rw [ByteArray.size_extract]; omega
    generalize t.extract i t.size = B1 at *
    have R5 := fun W => run_lo1_str Tryd.prog 9 t i W hU (by omega)
    have hs5 : (t.extract (i + 1) t.size).size = t.size - (i + 1) := by rw [ByteArray.size_extract]; omega
    generalize t.extract (i + 1) t.size = B2 at *
    have e1 : IntKind.i64.wrap ((i : Int) + 1) = (i : Int) + 1 := IntWalk.i64_in _ (by omega)
    go_wp2_with fail
    refine (pick_any B b (k + 4) 3 w2 C2.out (by omega) (by omega) (by omega)).mono ?_
    rintro e w3 ⟨r, rfl, hr, hc, hg⟩
    have C3 := Lib.hid hc
    have G3 := Lib.hid (grown_trans G2.out hg)
    clear hc hg C2 hr
    by_cases r0 : r = 0
    · have q0 : ((r : Int) == 0) = true := by rw [beq_iff_eq]; omega
      clear r0
      go_wp2_with fail
      go_region
      go_wp2
      go_ret
      exact ⟨_, rfl, by simp only [ByteArray.size_append]; omega, (C3.out.drewD1 1).mono (by omega), grown_trans G3.out (grown_drew w3 1 (some b))⟩
    · have q0 : ((r : Int) == 0) = false := by rw [beq_eq_false_iff_ne]; omega
      clear r0
      by_cases r1 : r = 1
      · have q1 : ((r : Int) == 1) = true := by rw [beq_iff_eq]; omega
        clear r1
        go_wp2_with fail
        go_region
        go_wp2
        go_ret
        exact ⟨_, rfl, by simp only [ByteArray.size_append]; omega, (C3.out.drewD1 1).mono (by omega), grown_trans G3.out (grown_drew w3 1 (some b))⟩
      · have q1 : ((r : Int) == 1) = false := by rw [beq_eq_false_iff_ne]; omega
        clear r1
        go_wp2_with fail
        go_region
        go_wp2
        go_ret
        exact ⟨_, rfl, by simp only [ByteArray.size_append]; omega, (C3.out.drewD1 1).mono (by omega), grown_trans G3.out (grown_drew w3 1 (some b))⟩
end Go.Proofs.YtmmjbdffpgohdaaDoor

namespace Go.Proofs.YtmmjbdffpgohdaaDoor
open Go.RowKit
set_option linter.unusedVariables false
set_option maxHeartbeats 1000000 in
theorem DrawReverseLine_any (a : Option Addr) (len cap : Nat) (w : World) (h : ByteRow w a len) :
    Calls Tryd.prog 5 #[.slice a len cap] w (DlPost w) := by
  have HH := Lib.hid h
  clear h
  go_enter Tryd.func5, Tryd.ntmps5
  go_wp2_with fail
  refine (DrawIsLine_any a len cap w HH.out).mono ?_
  rintro e w1 ⟨v, l, rfl, o, hl, hb⟩
  have HO := Lib.hid o
  clear o
  go_wp2_with fail
  go_ret
  exact ⟨v, l, rfl, HO.out, hl, hb⟩
set_option maxHeartbeats 1000000 in
theorem DrawLineText_any (a : Option Addr) (len cap : Nat) (w : World) (h : ByteRow w a len) :
    Calls Tryd.prog 12 #[.slice a len cap] w (DlPost w) := by
  have HH := Lib.hid h
  clear h
  go_enter Tryd.func12, Tryd.ntmps12
  go_wp2_with fail
  refine (DrawIsLine_any a len cap w HH.out).mono ?_
  rintro e w1 ⟨v, l, rfl, o, hl, hb⟩
  have HO := Lib.hid o
  clear o
  go_wp2_with fail
  go_ret
  exact ⟨v, l, rfl, HO.out, hl, hb⟩
def DplPost (w : World) (e : Ending) (w' : World) : Prop := ∃ u : ByteArray, e = .returned (.string u) ∧ u.size ≤ 300 ∧ Below w.heap.size w w'
def textL : ByteArray := ⟨#[83, 48, 58, 49, 50, 48, 48, 32, 84, 51, 48, 48, 58, 49, 51, 53, 48, 32, 83, 57, 48, 48, 58, 49, 53, 48, 48]⟩
theorem textL_size : textL.size = 27 := rfl
theorem grown_of_drewL {w w' : World} (h : Drew w w') (b : Nat) : w.grownBy w' (some b) := by
  obtain ⟨m, rfl⟩ := h
  exact grown_drew w m (some b)
set_option maxRecDepth 100000 in
set_option maxHeartbeats 2000000 in
theorem DrawParseLine_any (a : Option Addr) (len cap : Nat) (w : World) (h : ByteRow w a len) :
    Calls Tryd.prog 16 #[.slice a len cap] w (DplPost w) := by
  have HC := Lib.hid (cur_new (cap := cap) h 52)
  have HB0 := Lib.hid ((Below.refl w.heap.size w).alloc (Nat.le_refl _) (.cells #[.slice a len cap, .int .i64 0, .int .u64 0] 52))
  clear h
  have HT : Hid (textL = ⟨#[83, 48, 58, 49, 50, 48, 48, 32, 84, 51, 48, 48, 58, 49, 51, 53, 48, 32, 83, 57, 48, 48, 58, 49, 53, 48, 48]⟩) := Lib.hid rfl
  go_enter Tryd.func16, Tryd.ntmps16
  go_wp2_with fail
  refine (line_any w.heap.size w.heap.size 0 _ HC.out (by omega)).mono ?_
  rintro e w1 ⟨v, l, rfl, S, hl, hb⟩
  have C1 := Lib.hid S.cur
  have R1 := Lib.hid (Rs.of_own S.own)
  have B1 := Lib.hid (HB0.out.trans (grown_below S.gr (by simp) (fun k hk => by cases hk; exact Nat.le_refl _)))
  clear S HB0 hb HC
  go_wp2_with fail
  refine (l2Line_c v l _ R1.out (by omega)).mono ?_
  rintro e w2 ⟨rfl, d2⟩
  have C2 := Lib.hid (C1.out.grown (grown_of_drewL d2 w1.heap.size) (fun j hj => by cases hj; have := C1.out.2.1; omega))
  have R2 := Lib.hid (d2.rs R1.out)
  have B2 := Lib.hid (B1.out.trans ((d2.below _).mono B1.out.size))
  clear d2 C1 R1 B1
  have HY := Lib.hid (fun (hy : isL l = true) => isL_yes hy)
  generalize isL l = ic at *
  cases ic with
  | true =>
    have hL := HY.out rfl
    have hsz := lineT_size hL
    have HX := Lib.hid (fun W h => l2Text_c v l W h hL)
    clear HY hL HT
    generalize lineT l = tx at *
    go_wp2_with fail
    refine (HX.out _ R2.out).mono ?_
    rintro e w3 ⟨rfl, d3⟩
    have C3 := Lib.hid (C2.out.grown (grown_of_drewL d3 w2.heap.size) (fun j hj => by cases hj; have := C2.out.2.1; omega))
    have B3 := Lib.hid (B2.out.trans ((d3.below _).mono B2.out.size))
    clear d3 C2 R2 B2 HX
    go_wp2_with fail
    refine (one_any w.heap.size w.heap.size _ 4 w3 C3.out (by omega) (by omega) (by omega)).mono ?_
    rintro e w4 ⟨u, rfl, hc, hg⟩
    have C4 := Lib.hid hc
    have B4 := Lib.hid (B3.out.trans (grown_below hg B3.out.size (fun k hk => by cases hk; exact Nat.le_refl _)))
    clear hc hg
    cases u with
    | false =>
      go_wp2_with fail
      go_ret
      exact ⟨tx, rfl, by omega, B4.out⟩
    | true =>
      go_wp2_with fail
      refine (spoiltL_any w.heap.size w.heap.size _ tx w4 C4.out (by omega) (by omega)).mono ?_
      rintro e w5 ⟨y, rfl, hy, hc, hg⟩
      have B5 := Lib.hid (B4.out.trans (grown_below hg B4.out.size (fun k hk => by cases hk; exact Nat.le_refl _)))
      clear hc hg
      go_wp2_with fail
      go_ret
      exact ⟨y, rfl, by omega, B5.out⟩
  | false =>
    clear HY R2
    go_wp2_with fail
    refine (one_any w.heap.size w.heap.size _ 4 w2 C2.out (by omega) (by omega) (by omega)).mono ?_
    rintro e w4 ⟨u, rfl, hc, hg⟩
    have C4 := Lib.hid hc
    have B4 := Lib.hid (B2.out.trans (grown_below hg B2.out.size (fun k hk => by cases hk; exact Nat.le_refl _)))
    clear hc hg
    have hsz : (⟨#[83, 48, 58, 49, 50, 48, 48, 32, 84, 51, 48, 48, 58, 49, 51, 53, 48, 32, 83, 57, 48, 48, 58, 49, 53, 48, 48]⟩ : ByteArray).size = 27 := rfl
    generalize (⟨#[83, 48, 58, 49, 50, 48, 48, 32, 84, 51, 48, 48, 58, 49, 51, 53, 48, 32, 83, 57, 48, 48, 58, 49, 53, 48, 48]⟩ : ByteArray) = tx at *
    cases u with
    | false =>
      go_wp2_with fail
      go_ret
      exact ⟨tx, rfl, by omega, B4.out⟩
    | true =>
      go_wp2_with fail
      refine (spoiltL_any w.heap.size w.heap.size _ tx w4 C4.out (by omega) (by omega)).mono ?_
      rintro e w5 ⟨y, rfl, hy, hc, hg⟩
      have B5 := Lib.hid (B4.out.trans (grown_below hg B4.out.size (fun k hk => by cases hk; exact Nat.le_refl _)))
      clear hc hg
      go_wp2_with fail
      go_ret
      exact ⟨y, rfl, by omega, B5.out⟩
theorem lineText_size (l : List Sup) : (lineText l).size ≤ 120 := by
  unfold lineText
  cases h : isL l with
  | false => rw [if_neg (by simp)]; exact Nat.zero_le _
  | true => rw [if_pos rfl]; exact lineT_size (isL_yes h)
theorem line_back {l : List Sup} (h : isL l = true) : plOk (lineText l) = true ∧ plL (lineText l) = l := by
  refine pl_yes ⟨isL_yes h, ?_⟩
  unfold lineText
  rw [if_pos h]
theorem pl_back {s : ByteArray} (h : plOk s = true) : isL (plL s) = true ∧ lineText (plL s) = s := by
  by_cases he : ∃ l, Pl s l
  · obtain ⟨l, hl⟩ := he
    rw [(pl_yes hl).2]
    have hb := (isL_iff l).2 hl.1
    refine ⟨hb, ?_⟩
    unfold lineText
    rw [if_pos hb]
    exact hl.2
  · rw [(pl_no (fun l hl => he ⟨l, hl⟩)).1] at h
    cases h
theorem plL_len (s : ByteArray) : (plL s).length ≤ 8 := by
  cases h : plOk s with
  | true => exact (isL_yes (pl_back h).1).eight
  | false =>
    by_cases he : ∃ l, Pl s l
    · obtain ⟨l, hl⟩ := he
      rw [(pl_yes hl).1] at h
      cases h
    · rw [(pl_no (fun l hl => he ⟨l, hl⟩)).2]
      exact Nat.zero_le _
end Go.Proofs.YtmmjbdffpgohdaaDoor

namespace Go.Proofs.YtmmjbdffpgohdaaDoor
open Go.RowKit
set_option linter.unusedVariables false
theorem named6 {a w' : World} {B : Nat} (h : Hid (Below B a w')) : ∃ W : World, W = w' := ⟨_, rfl⟩
set_option maxRecDepth 100000 in
set_option maxHeartbeats 4000000 in
theorem FnLines_walk (a : Option Addr) (len cap : Nat) (w : World) (h : ByteRow w a len) (hwTabP : TabP w) (hwErrP : ErrP w) (hwMlP : MlP w) :
    Calls Tryd.prog 3 #[.slice a len cap] w fun e w' => e = .returned (.bool true) ∧ Below w.heap.size w w' := by
  have hm := h.1
  have HC := Lib.hid h
  clear h
  have HTab : Hid (∀ W, Below w.heap.size w W → TabP W) := Lib.hid (fun W hW => hwTabP.below hW)
  have HVars : Hid (∀ W, Below w.heap.size w W → Vars W) := Lib.hid (fun W hW => Vars.below ⟨hwTabP, hwErrP, hwMlP⟩ hW)
  clear hwTabP hwErrP hwMlP
  by_cases hbig : 65536 < len
  · go_enter Tryd.func3, Tryd.ntmps3
    go_wp2_with fail
    refine (vBig_yes a len cap _ hbig hm).mono ?_
    rintro e w' ⟨rfl, rfl⟩
    go_wp2_with fail
    go_ret
    exact ⟨rfl, Below.refl _ _⟩
  · go_enter Tryd.func3, Tryd.ntmps3
    go_wp2_with fail
    refine (vBig_no a len cap _ (by omega)).mono ?_
    rintro e w' ⟨rfl, rfl⟩
    have T0 := Lib.hid (Below.refl w.heap.size w)
    have HCode1 := Lib.hid (HC.out.below T0.out)
    go_wp2_with fail
    refine (DrawReverseLine_any a len cap _ HCode1.out).mono ?_
    rintro e X1 ⟨v1, l1, rfl, o1, hl1, b1⟩
    clear HCode1
    have T_2 := Lib.hid (T0.out.trans (b1.mono T0.out.size))
    clear b1 T0
    have hn1 : l1.length ≤ 1048576 := by omega
    have hr1 := Rs.of_own o1
    clear o1
    obtain ⟨va1, oa1, ca1, hv, hla1, hm1, hsu⟩ := hr1.sup (by omega)
    subst hv
    have Rq1_0 := Lib.hid hr1
    clear hr1 hsu
    have hr8 := rev_len l1
    have hnr : (rev l1).length ≤ 1048576 := by omega
    clear hr8
    have HK := Lib.hid (fun h => line_keeps (l := l1) h)
    go_wp2_with fail
    refine (implReverseLine_c (.slice (some ⟨va1, oa1, none⟩) l1.length ca1) l1 _ Rq1_0.out hn1).mono ?_
    rintro e Y3 ⟨vg, rfl, og, b3⟩
    have Rq1_4 := Lib.hid (Rq1_0.out.below b3 rfl)
    have T_4 := Lib.hid (T_2.out.trans (b3.mono T_2.out.size))
    clear b3 Rq1_0 T_2
    have hwg := Rs.of_own og
    clear og
    obtain ⟨ag, cg, rfl⟩ := hwg.shape
    have Rg_0 := Lib.hid hwg
    clear hwg
    go_wp2_with fail
    refine (specReverseLine_c (.slice (some ⟨va1, oa1, none⟩) l1.length ca1) l1 _ Rq1_4.out hn1).mono ?_
    rintro e Y5 ⟨vh, rfl, oh, b5⟩
    have Rq1_6 := Lib.hid (Rq1_4.out.below b5 rfl)
    have Rg_6 := Lib.hid (Rg_0.out.below b5 rfl)
    have T_6 := Lib.hid (T_4.out.trans (b5.mono T_4.out.size))
    clear b5 Rq1_4 Rg_0 T_4
    have hwh := Rs.of_own oh
    clear oh
    obtain ⟨ah, ch, rfl⟩ := hwh.shape
    have Rh_0 := Lib.hid hwh
    clear hwh
    go_wp2_with fail
    refine (vLine_c (.slice ag ((rev l1)).length cg) (.slice ah ((rev l1)).length ch) (rev l1) _ Rg_6.out Rh_0.out hnr).mono ?_
    rintro e Y7 ⟨rfl, b7⟩
    have Rq1_8 := Lib.hid (Rq1_6.out.below b7 rfl)
    have Rg_8 := Lib.hid (Rg_6.out.below b7 rfl)
    have Rh_8 := Lib.hid (Rh_0.out.below b7 rfl)
    have T_8 := Lib.hid (T_6.out.trans (b7.mono T_6.out.size))
    clear b7 Rq1_6 Rg_6 Rh_0 T_6
    clear Rh_8
    go_wp2_with fail
    refine (implIsLine_c (.slice (some ⟨va1, oa1, none⟩) l1.length ca1) l1 _ Rq1_8.out hn1).mono ?_
    rintro e Y9 ⟨rfl, b9⟩
    have Rq1_10 := Lib.hid (Rq1_8.out.below b9 rfl)
    have Rg_10 := Lib.hid (Rg_8.out.below b9 rfl)
    have T_10 := Lib.hid (T_8.out.trans (b9.mono T_8.out.size))
    clear b9 Rq1_8 Rg_8 T_8
    go_wp2_with fail
    refine (implClimbOf_c (.slice (some ⟨va1, oa1, none⟩) l1.length ca1) l1 _ Rq1_10.out hn1).mono ?_
    rintro e Y11 ⟨rfl, b11⟩
    have Rq1_12 := Lib.hid (Rq1_10.out.below b11 rfl)
    have Rg_12 := Lib.hid (Rg_10.out.below b11 rfl)
    have T_12 := Lib.hid (T_10.out.trans (b11.mono T_10.out.size))
    clear b11 Rq1_10 Rg_10 T_10
    go_wp2_with fail
    refine (specClimbOf_c (.slice (some ⟨va1, oa1, none⟩) l1.length ca1) l1 _ Rq1_12.out hn1).mono ?_
    rintro e Y13 ⟨rfl, b13⟩
    have Rq1_14 := Lib.hid (Rq1_12.out.below b13 rfl)
    have Rg_14 := Lib.hid (Rg_12.out.below b13 rfl)
    have T_14 := Lib.hid (T_12.out.trans (b13.mono T_12.out.size))
    clear b13 Rq1_12 Rg_12 T_12
    generalize isL l1 = ok at *
    go_upto_if 92 with fail
    go_cut [] from 14 (fun wx => Hid (Below Y13.heap.size Y13 wx))
    case first =>
      as_aux_lemma =>
      cases ok with
      | false =>
        go_wp2
        go_meet
        case rel => exact Lib.hid (Below.refl _ _)
      | true =>
        have hY := Lib.hid (Below.refl Y13.heap.size Y13)
        clear T_14
        obtain ⟨k1, k2, k3, k4, k5, k6, k7, k8, k9, k10⟩ := HK.out rfl
        clear HK
        have HR := Lib.hid (fun W h => implReverseLine_c (.slice ag ((rev l1)).length cg) (rev l1) W h hnr)
        have HL := Lib.hid (fun W h => implClimbOf_c (.slice ag ((rev l1)).length cg) (rev l1) W h hnr)
        rw [k1, k2] at HR
        rw [k1, k3, k4] at HL
        clear k1 k2 k3 k4
        generalize rev l1 = lr at *
        generalize climbU l1 = up at *
        generalize climbD l1 = dn at *
        go_wp2_with fail
        refine (HR.out _ Rg_14.out).mono ?_
        rintro e Y15 ⟨vx, rfl, ox, b15⟩
        have Rq1_16 := Lib.hid (Rq1_14.out.below b15 rfl)
        have Rg_16 := Lib.hid (Rg_14.out.below b15 rfl)
        have T_16 := Lib.hid (hY.out.trans (b15.mono hY.out.size))
        clear b15 Rq1_14 Rg_14 hY
        have hwx := Rs.of_own ox
        clear ox
        obtain ⟨ax, cx, rfl⟩ := hwx.shape
        have Rx_0 := Lib.hid hwx
        clear hwx
        clear HR
        go_wp2_with fail
        refine (HL.out _ Rg_16.out).mono ?_
        rintro e Y17 ⟨rfl, b17⟩
        have Rq1_18 := Lib.hid (Rq1_16.out.below b17 rfl)
        have Rg_18 := Lib.hid (Rg_16.out.below b17 rfl)
        have Rx_18 := Lib.hid (Rx_0.out.below b17 rfl)
        have T_18 := Lib.hid (T_16.out.trans (b17.mono T_16.out.size))
        clear b17 Rq1_16 Rg_16 Rx_0 T_16
        clear HL
        clear Rg_18
        have HV := Lib.hid (fun n => quiet_drew (vLine_same (.slice ax l1.length cx) (.slice (some ⟨va1, oa1, none⟩) l1.length ca1) l1 (Y17.drewN n) (Rx_18.out.drewN n) (Rq1_18.out.drewN n) hn1))
        obtain ⟨b2, o2, c2, he, _, _, hsu⟩ := Rq1_18.out.sup (by omega)
        cases he
        obtain ⟨_, y0, _⟩ := hsu.zero (by omega)
        obtain ⟨_, y1, _⟩ := hsu (l1.length - 1) (by omega)
        clear hsu
        generalize (nth l1 (l1.length - 1)).h = hz at *
        generalize (nth l1 0).h = h0 at *
        have w1 : IntKind.i64.wrap (up - dn) = up - dn := IntWalk.i64_in _ (by omega)
        have w2 : IntKind.i64.wrap (hz - h0) = up - dn := by rw [k5]; exact IntWalk.i64_in _ (by omega)
        obtain ⟨p1, p2, p3⟩ := pred_in l1.length (by omega) (by omega)
        clear k5 k6 k7 k9 k10
        go_wp2_with fail
        go_quiet ((go_at_call 8; exact HV.out _))
        go_wp2
        go_meet
        case rel => exact Lib.hid (below_drewN T_18.out _)
    case rest =>
      obtain ⟨wx, hwx⟩ := named6 hcut
      subst hwx
      have b71 := hcut.out
      clear hcut HK
      clear Rq1_14 Rg_14
      have T_15 := Lib.hid (T_14.out.trans (b71.mono T_14.out.size))
      clear b71 T_14
      have HCode16 := Lib.hid (HC.out.below T_15.out)
      go_wp2_with fail
      refine (DrawLineText_any a len cap _ HCode16.out).mono ?_
      rintro e X16 ⟨v2, l2, rfl, o2, hl2, b16⟩
      clear HCode16
      have T_17 := Lib.hid (T_15.out.trans (b16.mono T_15.out.size))
      clear b16 T_15
      have hn2 : l2.length ≤ 1048576 := by omega
      have hr2 := Rs.of_own o2
      clear o2
      obtain ⟨va2, oa2, ca2, hv, hla2, hm2, hsu⟩ := hr2.sup (by omega)
      subst hv
      have Rq2_0 := Lib.hid hr2
      clear hr2 hsu
      have htz := lineText_size l2
      have HPT := Lib.hid (fun h => line_back (l := l2) h)
      have hpl := plL_len (lineText l2)
      go_wp2_with fail
      refine (implLineText_c (.slice (some ⟨va2, oa2, none⟩) l2.length ca2) l2 _ Rq2_0.out hn2 (HTab.out _ T_17.out)).mono ?_
      rintro e Y18 ⟨rfl, b18⟩
      have Rq2_19 := Lib.hid (Rq2_0.out.below b18 rfl)
      have T_19 := Lib.hid (T_17.out.trans (b18.mono T_17.out.size))
      clear b18 Rq2_0 T_17
      have HPP := Lib.hid (fun W hv => implParseLine_c (lineText l2) W (by unfold maxLen; omega) hv)
      have HST := Lib.hid (fun W h => specLineText_c (.slice (some ⟨va2, oa2, none⟩) l2.length ca2) l2 W h hn2)
      generalize plOk (lineText l2) = po at *
      generalize plL (lineText l2) = lp at *
      generalize lineText l2 = tx at *
      generalize isL l2 = ok2 at *
      go_wp2_with fail
      refine (HPP.out _ (HVars.out _ T_19.out)).mono ?_
      rintro e Y20 ⟨vp, rfl, op, b20⟩
      have Rq2_21 := Lib.hid (Rq2_19.out.below b20 rfl)
      have T_21 := Lib.hid (T_19.out.trans (b20.mono T_19.out.size))
      clear b20 Rq2_19 T_19
      have hwp := Rs.of_own op
      clear op
      obtain ⟨ap, cp, rfl⟩ := hwp.shape
      have Rp_0 := Lib.hid hwp
      clear hwp
      clear HPP
      go_wp2_with fail
      refine (HST.out _ Rq2_21.out).mono ?_
      rintro e Y22 ⟨rfl, b22⟩
      have Rq2_23 := Lib.hid (Rq2_21.out.below b22 rfl)
      have Rp_23 := Lib.hid (Rp_0.out.below b22 rfl)
      have T_23 := Lib.hid (T_21.out.trans (b22.mono T_21.out.size))
      clear b22 Rq2_21 Rp_0 T_21
      clear HST
      go_upto_region 21 with fail
      go_cut [181] from 161 to 181 (fun t wy => t = .bool false ∧ Hid (Below Y22.heap.size Y22 wy))
      case first =>
        as_aux_lemma =>
        cases ok2 with
        | false =>
          go_wp2
          go_meet
          case rel => exact ⟨rfl, Lib.hid (Below.refl _ _)⟩
        | true =>
          have hY := Lib.hid (Below.refl Y22.heap.size Y22)
          clear T_23
          obtain ⟨h1, h2⟩ := HPT.out rfl
          subst h1
          subst h2
          clear HPT
          go_wp2_with fail
          refine (vLine_c (.slice ap lp.length cp) (.slice (some ⟨va2, oa2, none⟩) lp.length ca2) lp _ Rp_23.out Rq2_23.out (by omega)).mono ?_
          rintro e Y24 ⟨rfl, b24⟩
          have Rq2_25 := Lib.hid (Rq2_23.out.below b24 rfl)
          have Rp_25 := Lib.hid (Rp_23.out.below b24 rfl)
          have T_25 := Lib.hid (hY.out.trans (b24.mono hY.out.size))
          clear b24 Rq2_23 Rp_23 hY
          go_wp2
          go_meet
          case rel => exact ⟨rfl, T_25⟩
      case rest =>
        obtain ⟨htt, hcut⟩ := hcut
        subst htt
        obtain ⟨wy, hwy⟩ := named6 hcut
        subst hwy
        have b72 := hcut.out
        clear hcut HPT
        clear Rq2_23 Rp_23
        have T_24 := Lib.hid (T_23.out.trans (b72.mono T_23.out.size))
        clear b72 T_23
        have HCode25 := Lib.hid (HC.out.below T_24.out)
        go_wp2_with fail
        refine (DrawParseLine_any a len cap _ HCode25.out).mono ?_
        rintro e X25 ⟨u3, rfl, hu3, b25⟩
        clear HCode25
        have T_26 := Lib.hid (T_24.out.trans (b25.mono T_24.out.size))
        clear b25 T_24
        have hpl3 := plL_len u3
        have HPB := Lib.hid (fun h => pl_back (s := u3) h)
        have HP1 := Lib.hid (fun W hv => implParseLine_c u3 W (by unfold maxLen; omega) hv)
        have HP2 := Lib.hid (fun W => specParseLine_c u3 W (by unfold maxLen; omega))
        generalize plOk u3 = pf at *
        generalize plL u3 = lq at *
        have hnq : lq.length ≤ 1048576 := by omega
        go_wp2_with fail
        refine (HP1.out _ (HVars.out _ T_26.out)).mono ?_
        rintro e Y27 ⟨vi, rfl, oi, b27⟩
        have T_28 := Lib.hid (T_26.out.trans (b27.mono T_26.out.size))
        clear b27 T_26
        have hwi := Rs.of_own oi
        clear oi
        obtain ⟨ai, ci, rfl⟩ := hwi.shape
        have Ri_0 := Lib.hid hwi
        clear hwi
        clear HP1
        have HLT := Lib.hid (fun W h ht => implLineText_c (.slice ai lq.length ci) lq W h hnq ht)
        generalize lineText lq = tq at *
        generalize isL lq = okq at *
        go_wp2_with fail
        refine (HLT.out _ Ri_0.out (HTab.out _ T_28.out)).mono ?_
        rintro e Y29 ⟨rfl, b29⟩
        have Ri_30 := Lib.hid (Ri_0.out.below b29 rfl)
        have T_30 := Lib.hid (T_28.out.trans (b29.mono T_28.out.size))
        clear b29 Ri_0 T_28
        clear HLT
        go_wp2_with fail
        refine (HP2.out _).mono ?_
        rintro e Y31 ⟨vj, rfl, oj, b31⟩
        have Ri_32 := Lib.hid (Ri_30.out.below b31 rfl)
        have T_32 := Lib.hid (T_30.out.trans (b31.mono T_30.out.size))
        clear b31 Ri_30 T_30
        have hwj := Rs.of_own oj
        clear oj
        obtain ⟨aj, cj, rfl⟩ := hwj.shape
        have Rj_0 := Lib.hid hwj
        clear hwj
        clear HP2
        go_wp2_with fail
        refine (vLine_c (.slice ai lq.length ci) (.slice aj lq.length cj) lq _ Ri_32.out Rj_0.out hnq).mono ?_
        rintro e Y33 ⟨rfl, b33⟩
        have Ri_34 := Lib.hid (Ri_32.out.below b33 rfl)
        have Rj_34 := Lib.hid (Rj_0.out.below b33 rfl)
        have T_34 := Lib.hid (T_32.out.trans (b33.mono T_32.out.size))
        clear b33 Ri_32 Rj_0 T_32
        cases pf with
        | false =>
          go_wp2
          go_ret
          exact ⟨rfl, T_34.out⟩
        | true =>
          obtain ⟨h1, h2⟩ := HPB.out rfl
          subst h1
          subst h2
          go_wp2
          go_ret
          exact ⟨rfl, T_34.out⟩
end Go.Proofs.YtmmjbdffpgohdaaDoor
