/- The worst loss and the worst pull: the program's and the specification's answer as one function. Condition: sizes; the library's table is as laid. -/
import Derived.Test.YthmoogkllpcebaaDoorBrkJ
namespace Go.Proofs.YthmoogkllpcebaaDoor
open Go.RowKit
set_option linter.unusedVariables false
/-- The first of the greatest among the first k + 1. -/
def topI (g : Nat → Int) : Nat → Nat
  | 0 => 0
  | k + 1 => if g (topI g k) < g (k + 1) then k + 1 else topI g k
theorem topI_le (g : Nat → Int) : ∀ k, topI g k ≤ k
  | 0 => Nat.le_refl _
  | k + 1 => by
    have ih := topI_le g k
    unfold topI
    split <;> omega
theorem topI_max (g : Nat → Int) : ∀ k i, i ≤ k → g i ≤ g (topI g k)
  | 0, i, h => by
    have : i = 0 := by omega
    subst this; exact Int.le_refl _
  | k + 1, i, h => by
    have ih := topI_max g k
    unfold topI
    split
    · rename_i hc
      by_cases e : i = k + 1
      · subst e; exact Int.le_refl _
      · have := ih i (by omega); omega
    · rename_i hc
      by_cases e : i = k + 1
      · subst e; omega
      · exact ih i (by omega)
def topB (lo : Int) (g : Nat → Int) (k : Nat) : Int := if k = 0 then 0 else lo + (topI g (k - 1) : Int)
def topM (g : Nat → Int) (k : Nat) : Int := if k = 0 then -1 else g (topI g (k - 1))
theorem top_yes (lo : Int) {g : Nat → Int} {k : Nat} (h : topM g k < g k) : topB lo g (k + 1) = lo + k ∧ topM g (k + 1) = g k := by
  cases k with
  | zero => exact ⟨rfl, rfl⟩
  | succ j =>
    have e : topI g (j + 1) = j + 1 := by
      simp only [topM, Nat.add_sub_cancel, Nat.succ_ne_zero, if_false] at h
      unfold topI
      rw [if_pos h]
    simp [topB, topM, e]
theorem top_no (lo : Int) {g : Nat → Int} {k : Nat} (h0 : 0 ≤ g k) (h : ¬ topM g k < g k) : topB lo g (k + 1) = topB lo g k ∧ topM g (k + 1) = topM g k := by
  cases k with
  | zero => simp [topM] at h; omega
  | succ j =>
    have e : topI g (j + 1) = topI g j := by
      simp only [topM, Nat.add_sub_cancel, Nat.succ_ne_zero, if_false] at h
      conv => lhs; unfold topI
      rw [if_neg h]
    simp [topB, topM, e]
def lwOk (f : Nat → Bool) (n : Nat) : Bool := decide (0 < n) && decide (∀ k, k < n → f k = true)
def lwI (lo : Int) (g : Nat → Int) (f : Nat → Bool) (n : Nat) : Int := if lwOk f n then topB lo g n else 0
def lwM (g : Nat → Int) (f : Nat → Bool) (n : Nat) : Int := if lwOk f n then topM g n else 0
theorem lw_bad {lo : Int} {g : Nat → Int} {f : Nat → Bool} {n k : Nat} (hk : k < n) (h : f k = false) : lwI lo g f n = 0 ∧ lwM g f n = 0 ∧ lwOk f n = false := by
  have : lwOk f n = false := by
    unfold lwOk
    rw [Bool.and_eq_false_iff]
    right
    rw [decide_eq_false_iff_not]
    intro hh
    rw [hh k hk] at h
    cases h
  simp [lwI, lwM, this]
theorem lw_zero (lo : Int) (g : Nat → Int) (f : Nat → Bool) : lwI lo g f 0 = 0 ∧ lwM g f 0 = 0 ∧ lwOk f 0 = false := by
  have : lwOk f 0 = false := by simp [lwOk]
  simp [lwI, lwM, this]
theorem lw_all {lo : Int} {g : Nat → Int} {f : Nat → Bool} {n : Nat} (h0 : 0 < n) (h : ∀ k, k < n → f k = true) : lwI lo g f n = topB lo g n ∧ lwM g f n = topM g n ∧ lwOk f n = true := by
  have : lwOk f n = true := by simp [lwOk, h0]; exact h
  simp [lwI, lwM, this]
theorem topM_pos {g : Nat → Int} {n : Nat} (h0 : 0 < n) (h : ∀ k, k < n → 0 ≤ g k) : 0 ≤ topM g n := by
  unfold topM
  rw [if_neg (by omega)]
  exact h _ (by have := topI_le g (n - 1); omega)
theorem ret_iib10 {x y u v : Int} {a b : Bool} (g : x = y) (f : u = v) (h : a = b) : Ending.returned (.tuple #[.int .i64 x, .int .i64 u, .bool a]) = .returned (.tuple #[.int .i64 y, .int .i64 v, .bool b]) := by rw [g, f, h]
theorem wy10_nonneg (L S : Int) (l : List Brk) (x : Int) (s : Nat) : 0 ≤ wy10 L S l x s := by
  unfold wy10
  split
  · rename_i h
    have ha : ask10 L S l x = true := by unfold sw10 at h; simp at h; exact h.1
    exact (way10_bd ha s).1
  · exact Int.le_refl _
theorem wwV_nonneg (L S : Int) (l : List Brk) (x b : Int) : 0 ≤ wwV L S l x b := by
  cases h : inR b 0 ((l.length : Int) - 1) with
  | false => rw [(ww_no (L := L) (S := S) (x := x) h).1]; exact Int.le_refl _
  | true => rw [(ww_in (L := L) (S := S) (x := x) h).1]; exact wy10_nonneg ..
/-- The ways without each brake; the ways with each pull. -/
def lsW (L S : Int) (l : List Brk) (x : Int) (k : Nat) : Int := wwV L S l x (k : Int)
def lsO (L S : Int) (l : List Brk) (x : Int) (k : Nat) : Bool := wwOk L S l x (k : Int)
def puW (L : Int) (l : List Brk) (x lo : Int) (k : Nat) : Int := wy10 L (lo + k) l x (full10 l.length)
def puO (L : Int) (l : List Brk) (x lo : Int) (k : Nat) : Bool := sw10 L (lo + k) l x (full10 l.length)
set_option maxRecDepth 100000 in
set_option maxHeartbeats 4000000 in
theorem lossF_c (L S : Int) (v : Value) (l : List Brk) (x b : Int) (P Q : Nat) (w : World) (hr : Rs w v l.length (brks l)) (hn : l.length ≤ 1048576) (hP0 : w.cell? ⟨P, 0, none⟩ = some (.int .i64 L)) (hP1 : w.cell? ⟨P, 1, none⟩ = some (.int .i64 S)) (hP2 : w.cell? ⟨P, 2, none⟩ = some v) (hQ : w.cell? ⟨Q, 0, none⟩ = some (.int .i64 x)) (hlP : P < w.heap.size) (hlQ : Q < w.heap.size) (hT : BruP w) :
    Calls Tryd.prog 69 #[.int .i64 b, .pointer (some ⟨P, 0, none⟩), .pointer (some ⟨Q, 0, none⟩)] w fun e w' => e = .returned (.tuple #[.int .i64 (wwV L S l x b), .bool (wwOk L S l x b)]) ∧ Below w.heap.size w w' := by
  have EW := Lib.hid (implWayWithout_c L S v l x b w hr hn hT)
  obtain ⟨a, ca, rfl⟩ := hr.shape
  clear hr
  go_enter Tryd.func69, Tryd.ntmps69
  go_wp2_with fail
  refine EW.out.mono ?_
  rintro e w1 ⟨rfl, b1⟩
  go_wp2
  go_ret2
  exact ⟨rfl, b1⟩
set_option maxRecDepth 100000 in
set_option maxHeartbeats 4000000 in
theorem pullF_c (L S : Int) (v : Value) (l : List Brk) (x b : Int) (P Q : Nat) (w : World) (hr : Rs w v l.length (brks l)) (hn : l.length ≤ 1048576) (hP0 : w.cell? ⟨P, 0, none⟩ = some (.int .i64 L)) (hP1 : w.cell? ⟨P, 1, none⟩ = some (.int .i64 S)) (hP2 : w.cell? ⟨P, 2, none⟩ = some v) (hQ : w.cell? ⟨Q, 0, none⟩ = some (.int .i64 x)) (hlP : P < w.heap.size) (hlQ : Q < w.heap.size) (hT : BruP w) :
    Calls Tryd.prog 68 #[.int .i64 b, .pointer (some ⟨P, 0, none⟩), .pointer (some ⟨Q, 0, none⟩)] w fun e w' => e = .returned (.tuple #[.int .i64 (wy10 L b l x (full10 l.length)), .bool (sw10 L b l x (full10 l.length))]) ∧ Below w.heap.size w w' := by
  have EW := Lib.hid (implBrakeWay_c L b v l x w hr hn hT)
  obtain ⟨a, ca, rfl⟩ := hr.shape
  clear hr
  go_enter Tryd.func68, Tryd.ntmps68
  go_wp2_with fail
  refine EW.out.mono ?_
  rintro e w1 ⟨rfl, b1⟩
  go_wp2
  go_ret2
  exact ⟨rfl, b1⟩
set_option maxRecDepth 100000 in
set_option maxHeartbeats 4000000 in
theorem longLoss_c (L S : Int) (v : Value) (l : List Brk) (x hi : Int) (n : Nat) (P Q : Nat) (w : World) (hr : Rs w v l.length (brks l)) (hn : l.length ≤ 1048576) (hhi : hi = 0 + (n : Int) - 1) (hb : -100000 ≤ 0 ∧ 0 ≤ 100000) (hn2 : n ≤ 1048576) (hP0 : w.cell? ⟨P, 0, none⟩ = some (.int .i64 L)) (hP1 : w.cell? ⟨P, 1, none⟩ = some (.int .i64 S)) (hP2 : w.cell? ⟨P, 2, none⟩ = some v) (hQ : w.cell? ⟨Q, 0, none⟩ = some (.int .i64 x)) (hlP : P < w.heap.size) (hlQ : Q < w.heap.size) (hT : BruP w) :
    Calls Tryd.prog 67 #[.int .i64 0, .int .i64 hi, .func (.func 69) #[] #[.pointer (some ⟨P, 0, none⟩), .pointer (some ⟨Q, 0, none⟩)]] w fun e w' => e = .returned (.tuple #[.int .i64 (lwI 0 (lsW L S l x) (lsO L S l x) n), .int .i64 (lwM (lsW L S l x) (lsO L S l x) n), .bool (lwOk (lsO L S l x) n)]) ∧ Below w.heap.size w w' := by
  have HR := Lib.hid hr
  have HC := Lib.hid (And.intro hP0 (And.intro hP1 (And.intro hP2 hQ)))
  have HTT := Lib.hid hT
  have HH := Lib.hid hhi
  clear hr hP0 hP1 hP2 hQ hT hhi
  go_enter Tryd.func67, Tryd.ntmps67
  go_wp2
  go_loopw [9, 10, 11] (fun b m i wr => ∃ k : Nat, k ≤ n ∧ i = .int .i64 (k : Int) ∧ b = .int .i64 (topB 0 (lsW L S l x) k) ∧ m = .int .i64 (topM (lsW L S l x) k) ∧ Hid (Below w.heap.size w wr) ∧ Hid (∀ j, j < k → (lsO L S l x) j = true)) (fun _ _ i _ => (0 + (n : Int) - intOf i).toNat)
  case atStart => exact ⟨0, by omega, by simp, rfl, rfl, Lib.hid (Below.refl _ _), Lib.hid (fun j h => by omega)⟩
  case round =>
    obtain ⟨k, hk, rfl, rfl, rfl, hbel, hno⟩ := hrel
    have hbs := hbel.out.size
    by_cases hlt : k < n
    · have t0 : decide ((k : Int) ≤ hi) = true := by have := HH.out; simp; omega
      obtain ⟨p0, p1, p2, q0⟩ := HC.out
      have EC := Lib.hid (lossF_c L S v l x (k : Int) P Q wr (HR.out.below hbel.out rfl) hn ((hbel.out.cell (p := ⟨P, 0, none⟩) hlP).trans p0) ((hbel.out.cell (p := ⟨P, 1, none⟩) hlP).trans p1) ((hbel.out.cell (p := ⟨P, 2, none⟩) hlP).trans p2) ((hbel.out.cell (p := ⟨Q, 0, none⟩) hlQ).trans q0) (by omega) (by omega) (HTT.out.below hbel.out))
      clear p0 p1 p2 q0
      have HF : Hid ((lsO L S l x) k = wwOk L S l x (k : Int)) := Lib.hid rfl
      have HG : Hid ((lsW L S l x) k = wwV L S l x (k : Int)) := Lib.hid rfl
      have hg0 : 0 ≤ (lsW L S l x) k := by rw [HG.out]; exact wwV_nonneg ..
      have q1 : IntKind.i64.wrap ((k : Int) + 1) = (k : Int) + 1 := IntWalk.i64_in _ (by omega)
      rw [← HG.out, ← HF.out] at EC
      have HBAD := Lib.hid (fun h : (lsO L S l x) k = false => lw_bad (lo := 0) (g := (lsW L S l x)) hlt h)
      have HNX : Hid ((lsO L S l x) k = true → ∀ j, j < k + 1 → (lsO L S l x) j = true) := Lib.hid (fun h j hj => by
        by_cases e : j = k
        · subst e; exact h
        · exact hno.out j (by omega))
      have HYES := Lib.hid (fun h => top_yes 0 (g := (lsW L S l x)) (k := k) h)
      have HNO := Lib.hid (fun h => top_no 0 (g := (lsW L S l x)) (k := k) hg0 h)
      generalize hGK : (lsW L S l x) k = GK at *
      generalize hFK : (lsO L S l x) k = FK at *
      clear hGK hFK HF HG
      generalize hTM : topM (lsW L S l x) k = TM at *
      generalize hTB : topB 0 (lsW L S l x) k = TB at *
      clear hTM hTB
      cases FK with
      | false =>
        have HX := Lib.hid (HBAD.out rfl)
        clear HYES HNO HNX HBAD
        go_wp2_with fail
        refine EC.out.mono ?_
        rintro e w1 ⟨rfl, b1⟩
        have HB := Lib.hid (hbel.out.trans (b1.mono hbs))
        clear b1
        go_wp2
        go_ret3
        exact ⟨ret_iib10 HX.out.1.symm HX.out.2.1.symm HX.out.2.2.symm, HB.out⟩
      | true =>
        have HN2 := Lib.hid (HNX.out rfl)
        by_cases ht : TM < GK
        · have HX := Lib.hid (HYES.out ht)
          have t1 : decide (TM < GK) = true := by simpa using ht
          clear ht HYES HNO HNX HBAD
          go_wp2_with fail
          refine EC.out.mono ?_
          rintro e w1 ⟨rfl, b1⟩
          have HB := Lib.hid (hbel.out.trans (b1.mono hbs))
          clear b1
          go_wp2
          go_roundw
          case rel => exact ⟨k + 1, by omega, by go_num, by rw [HX.out.1]; simp, by rw [HX.out.2], HB, HN2⟩
          case measure => simp [intOf]; omega
        · have HX := Lib.hid (HNO.out ht)
          have t1 : decide (TM < GK) = false := by simpa using ht
          clear ht HYES HNO HNX HBAD
          go_wp2_with fail
          refine EC.out.mono ?_
          rintro e w1 ⟨rfl, b1⟩
          have HB := Lib.hid (hbel.out.trans (b1.mono hbs))
          clear b1
          go_wp2
          go_roundw
          case rel => exact ⟨k + 1, by omega, by go_num, by rw [HX.out.1], by rw [HX.out.2], HB, HN2⟩
          case measure => simp [intOf]; omega
    · obtain rfl : k = n := by omega
      have t0 : decide ((k : Int) ≤ hi) = false := by have := HH.out; simp; omega
      by_cases h0 : k = 0
      · have HX := Lib.hid (lw_zero 0 (lsW L S l x) (lsO L S l x))
        rw [← h0] at HX
        have t1 : decide (topM (lsW L S l x) k < 0) = true := by rw [h0]; simp [topM]
        generalize topM (lsW L S l x) k = TM at *
        generalize topB 0 (lsW L S l x) k = TB at *
        clear h0 hlt
        go_wp2
        go_ret3
        exact ⟨ret_iib10 HX.out.1.symm HX.out.2.1.symm HX.out.2.2.symm, hbel.out⟩
      · have HX := Lib.hid (lw_all (lo := 0) (g := (lsW L S l x)) (by omega) hno.out)
        have t1 : decide (topM (lsW L S l x) k < 0) = false := by
          have := topM_pos (g := (lsW L S l x)) (n := k) (by omega) (fun j _ => wwV_nonneg ..)
          simp; omega
        generalize topM (lsW L S l x) k = TM at *
        generalize topB 0 (lsW L S l x) k = TB at *
        clear h0 hlt
        go_wp2
        go_ret3
        exact ⟨ret_iib10 HX.out.1.symm HX.out.2.1.symm HX.out.2.2.symm, hbel.out⟩
set_option maxRecDepth 100000 in
set_option maxHeartbeats 4000000 in
theorem longPull_c (L S : Int) (v : Value) (l : List Brk) (x hi : Int) (lo : Int) (n : Nat) (P Q : Nat) (w : World) (hr : Rs w v l.length (brks l)) (hn : l.length ≤ 1048576) (hhi : hi = lo + (n : Int) - 1) (hb : -100000 ≤ lo ∧ lo ≤ 100000) (hn2 : n ≤ 1048576) (hP0 : w.cell? ⟨P, 0, none⟩ = some (.int .i64 L)) (hP1 : w.cell? ⟨P, 1, none⟩ = some (.int .i64 S)) (hP2 : w.cell? ⟨P, 2, none⟩ = some v) (hQ : w.cell? ⟨Q, 0, none⟩ = some (.int .i64 x)) (hlP : P < w.heap.size) (hlQ : Q < w.heap.size) (hT : BruP w) :
    Calls Tryd.prog 67 #[.int .i64 lo, .int .i64 hi, .func (.func 68) #[] #[.pointer (some ⟨P, 0, none⟩), .pointer (some ⟨Q, 0, none⟩)]] w fun e w' => e = .returned (.tuple #[.int .i64 (lwI lo (puW L l x lo) (puO L l x lo) n), .int .i64 (lwM (puW L l x lo) (puO L l x lo) n), .bool (lwOk (puO L l x lo) n)]) ∧ Below w.heap.size w w' := by
  have HR := Lib.hid hr
  have HC := Lib.hid (And.intro hP0 (And.intro hP1 (And.intro hP2 hQ)))
  have HTT := Lib.hid hT
  have HH := Lib.hid hhi
  clear hr hP0 hP1 hP2 hQ hT hhi
  go_enter Tryd.func67, Tryd.ntmps67
  go_wp2
  go_loopw [9, 10, 11] (fun b m i wr => ∃ k : Nat, k ≤ n ∧ i = .int .i64 (lo + (k : Int)) ∧ b = .int .i64 (topB lo (puW L l x lo) k) ∧ m = .int .i64 (topM (puW L l x lo) k) ∧ Hid (Below w.heap.size w wr) ∧ Hid (∀ j, j < k → (puO L l x lo) j = true)) (fun _ _ i _ => (lo + (n : Int) - intOf i).toNat)
  case atStart => exact ⟨0, by omega, by simp, rfl, rfl, Lib.hid (Below.refl _ _), Lib.hid (fun j h => by omega)⟩
  case round =>
    obtain ⟨k, hk, rfl, rfl, rfl, hbel, hno⟩ := hrel
    have hbs := hbel.out.size
    by_cases hlt : k < n
    · have t0 : decide ((lo + (k : Int)) ≤ hi) = true := by have := HH.out; simp; omega
      obtain ⟨p0, p1, p2, q0⟩ := HC.out
      have EC := Lib.hid (pullF_c L S v l x (lo + (k : Int)) P Q wr (HR.out.below hbel.out rfl) hn ((hbel.out.cell (p := ⟨P, 0, none⟩) hlP).trans p0) ((hbel.out.cell (p := ⟨P, 1, none⟩) hlP).trans p1) ((hbel.out.cell (p := ⟨P, 2, none⟩) hlP).trans p2) ((hbel.out.cell (p := ⟨Q, 0, none⟩) hlQ).trans q0) (by omega) (by omega) (HTT.out.below hbel.out))
      clear p0 p1 p2 q0
      have HF : Hid ((puO L l x lo) k = sw10 L (lo + (k : Int)) l x (full10 l.length)) := Lib.hid rfl
      have HG : Hid ((puW L l x lo) k = wy10 L (lo + (k : Int)) l x (full10 l.length)) := Lib.hid rfl
      have hg0 : 0 ≤ (puW L l x lo) k := by rw [HG.out]; exact wy10_nonneg ..
      have q1 : IntKind.i64.wrap ((lo + (k : Int)) + 1) = (lo + (k : Int)) + 1 := IntWalk.i64_in _ (by omega)
      rw [← HG.out, ← HF.out] at EC
      have HBAD := Lib.hid (fun h : (puO L l x lo) k = false => lw_bad (lo := lo) (g := (puW L l x lo)) hlt h)
      have HNX : Hid ((puO L l x lo) k = true → ∀ j, j < k + 1 → (puO L l x lo) j = true) := Lib.hid (fun h j hj => by
        by_cases e : j = k
        · subst e; exact h
        · exact hno.out j (by omega))
      have HYES := Lib.hid (fun h => top_yes lo (g := (puW L l x lo)) (k := k) h)
      have HNO := Lib.hid (fun h => top_no lo (g := (puW L l x lo)) (k := k) hg0 h)
      generalize hGK : (puW L l x lo) k = GK at *
      generalize hFK : (puO L l x lo) k = FK at *
      clear hGK hFK HF HG
      generalize hTM : topM (puW L l x lo) k = TM at *
      generalize hTB : topB lo (puW L l x lo) k = TB at *
      clear hTM hTB
      cases FK with
      | false =>
        have HX := Lib.hid (HBAD.out rfl)
        clear HYES HNO HNX HBAD
        go_wp2_with fail
        refine EC.out.mono ?_
        rintro e w1 ⟨rfl, b1⟩
        have HB := Lib.hid (hbel.out.trans (b1.mono hbs))
        clear b1
        go_wp2
        go_ret3
        exact ⟨ret_iib10 HX.out.1.symm HX.out.2.1.symm HX.out.2.2.symm, HB.out⟩
      | true =>
        have HN2 := Lib.hid (HNX.out rfl)
        by_cases ht : TM < GK
        · have HX := Lib.hid (HYES.out ht)
          have t1 : decide (TM < GK) = true := by simpa using ht
          clear ht HYES HNO HNX HBAD
          go_wp2_with fail
          refine EC.out.mono ?_
          rintro e w1 ⟨rfl, b1⟩
          have HB := Lib.hid (hbel.out.trans (b1.mono hbs))
          clear b1
          go_wp2
          go_roundw
          case rel => exact ⟨k + 1, by omega, by go_num, by rw [HX.out.1], by rw [HX.out.2], HB, HN2⟩
          case measure => simp [intOf]; omega
        · have HX := Lib.hid (HNO.out ht)
          have t1 : decide (TM < GK) = false := by simpa using ht
          clear ht HYES HNO HNX HBAD
          go_wp2_with fail
          refine EC.out.mono ?_
          rintro e w1 ⟨rfl, b1⟩
          have HB := Lib.hid (hbel.out.trans (b1.mono hbs))
          clear b1
          go_wp2
          go_roundw
          case rel => exact ⟨k + 1, by omega, by go_num, by rw [HX.out.1], by rw [HX.out.2], HB, HN2⟩
          case measure => simp [intOf]; omega
    · obtain rfl : k = n := by omega
      have t0 : decide ((lo + (k : Int)) ≤ hi) = false := by have := HH.out; simp; omega
      by_cases h0 : k = 0
      · have HX := Lib.hid (lw_zero lo (puW L l x lo) (puO L l x lo))
        rw [← h0] at HX
        have t1 : decide (topM (puW L l x lo) k < 0) = true := by rw [h0]; simp [topM]
        generalize topM (puW L l x lo) k = TM at *
        generalize topB lo (puW L l x lo) k = TB at *
        clear h0 hlt
        go_wp2
        go_ret3
        exact ⟨ret_iib10 HX.out.1.symm HX.out.2.1.symm HX.out.2.2.symm, hbel.out⟩
      · have HX := Lib.hid (lw_all (lo := lo) (g := (puW L l x lo)) (by omega) hno.out)
        have t1 : decide (topM (puW L l x lo) k < 0) = false := by
          have := topM_pos (g := (puW L l x lo)) (n := k) (by omega) (fun j _ => wy10_nonneg ..)
          simp; omega
        generalize topM (puW L l x lo) k = TM at *
        generalize topB lo (puW L l x lo) k = TB at *
        clear h0 hlt
        go_wp2
        go_ret3
        exact ⟨ret_iib10 HX.out.1.symm HX.out.2.1.symm HX.out.2.2.symm, hbel.out⟩
end Go.Proofs.YthmoogkllpcebaaDoor
