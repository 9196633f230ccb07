/- The walks of the drawing cursor. Condition: sizes. -/
import Derived.Test.YtinlcbljpclccaaRows
import Derived.Test.YtinlcbljpclccaaRd
import Derived.Test.YtinlcbljpclccaaLowByte
import Derived.Test.YtinlcbljpclccaaL1Math
import Derived.LoopTactic
import Derived.OwnWalk
import Derived.Below
import Derived.Outline
import Derived.WalkKit
import Derived.Lib.Hide
import Derived.Deep.QuietTactic
import Derived.BigQuiet
namespace Go.Proofs.Ytinlcbljpclccaa
open Go.RowKit
set_option linter.unusedVariables false
/-- Block b holds a cursor over a code of len bytes that lies below B, at a place of at most k. -/
def Cur (B b k : Nat) (w : World) : Prop :=
  B ≤ b ∧ b < w.heap.size ∧ ∃ (a : Option Addr) (len cap at' : Nat) (seed : Int),
    w.cell? ⟨b, 0, none⟩ = some (.slice a len cap) ∧ w.cell? ⟨b, 1, none⟩ = some (.int .i64 (at' : Int)) ∧ w.cell? ⟨b, 2, none⟩ = some (.int .u64 seed) ∧
    w.frozen? ⟨b, 1, none⟩ = false ∧ w.frozen? ⟨b, 2, none⟩ = false ∧ at' ≤ k ∧ len ≤ 9223372036854775807 ∧
    (∀ i, i < len → ∃ (c : Nat) (o : Nat) (x : Nat), a = some ⟨c, o, none⟩ ∧ c < B ∧ x ≤ 255 ∧ w.cell? ⟨c, o + i, none⟩ = some (.int .u8 (x : Int)))
theorem grown_setCell (W : World) (b i : Nat) (v : Value) : W.grownBy (W.setCell ⟨b, i, none⟩ v) (some b) :=
  ⟨rfl, rfl, rfl, by simp, fun k _ hk => Below.heap_setCell W ⟨b, i, none⟩ v k (fun e => hk (by rw [e]))⟩
theorem grown_trans {a b c : World} {row : Option Nat} (h : a.grownBy b row) (k : b.grownBy c row) : a.grownBy c row :=
  ⟨k.os.trans h.os, k.tape.trans h.tape, k.output.trans h.output, Nat.le_trans h.size k.size, fun i hi hr => (k.block i (Nat.lt_of_lt_of_le hi h.size) hr).trans (h.block i hi hr)⟩
theorem grown_drew (w : World) (n : Nat) (row : Option Nat) : w.grownBy (w.drewN n) row := ⟨rfl, rfl, rfl, Nat.le_refl _, fun _ _ _ => rfl⟩
theorem grown_below {w w' : World} {row : Option Nat} {B : Nat} (h : w.grownBy w' row) (hB : B ≤ w.heap.size) (hr : ∀ k, row = some k → B ≤ k) : Below B w w' := (Below.refl B w).grown h hB hr
/-- One step of the cursor. -/
theorem cur_step {B b k : Nat} {w : World} {a : Option Addr} {len cap at' : Nat} {seed : Int} (hBb : B ≤ b) (hb : b < w.heap.size)
    (c0 : w.cell? ⟨b, 0, none⟩ = some (.slice a len cap)) (c1 : w.cell? ⟨b, 1, none⟩ = some (.int .i64 (at' : Int))) (c2 : w.cell? ⟨b, 2, none⟩ = some (.int .u64 seed))
    (f1 : w.frozen? ⟨b, 1, none⟩ = false) (f2 : w.frozen? ⟨b, 2, none⟩ = false) (hat : at' ≤ k) (hlen : len ≤ 9223372036854775807)
    (hcode : ∀ i, i < len → ∃ (c : Nat) (o : Nat) (x : Nat), a = some ⟨c, o, none⟩ ∧ c < B ∧ x ≤ 255 ∧ w.cell? ⟨c, o + i, none⟩ = some (.int .u8 (x : Int))) (n1 n2 : Nat) (s' : Int) :
    Cur B b (k + 1) ((((w.drewN n1).setCell ⟨b, 1, none⟩ (.int .i64 ((at' : Int) + 1))).setCell ⟨b, 2, none⟩ (.int .u64 s')).drewN n2) ∧
    w.grownBy ((((w.drewN n1).setCell ⟨b, 1, none⟩ (.int .i64 ((at' : Int) + 1))).setCell ⟨b, 2, none⟩ (.int .u64 s')).drewN n2) (some b) := by
  obtain ⟨w1, hw1⟩ : ∃ w1, w1 = (w.drewN n1).setCell ⟨b, 1, none⟩ (.int .i64 ((at' : Int) + 1)) := ⟨_, rfl⟩
  have d0 : w1.cell? ⟨b, 0, none⟩ = some (.slice a len cap) := by rw [hw1, World.cell?_setCell_other _ _ _ _ (by simp)]; exact c0
  have d1 : w1.cell? ⟨b, 1, none⟩ = some (.int .i64 ((at' : Int) + 1)) := by rw [hw1, World.cell?_setCell_same (w.drewN n1) _ _ (u := .int .i64 (at' : Int)) c1]
  have d2 : w1.cell? ⟨b, 2, none⟩ = some (.int .u64 seed) := by rw [hw1, World.cell?_setCell_other _ _ _ _ (by simp)]; exact c2
  have dc : ∀ i, i < len → ∃ (c : Nat) (o : Nat) (x : Nat), a = some ⟨c, o, none⟩ ∧ c < B ∧ x ≤ 255 ∧ w1.cell? ⟨c, o + i, none⟩ = some (.int .u8 (x : Int)) := by
    intro i hi
    obtain ⟨c, o, x, h1, h2, h3, h4⟩ := hcode i hi
    refine ⟨c, o, x, h1, h2, h3, ?_⟩
    rw [hw1, World.cell?_setCell_other _ _ _ _ (fun e => by have e1 : b = c := congrArg Addr.block e; omega)]
    exact h4
  have dg : w.grownBy w1 (some b) := by rw [hw1]; exact grown_trans (grown_drew w n1 _) (grown_setCell _ _ _ _)
  have df : ∀ i, w1.frozen? ⟨b, i, none⟩ = w.frozen? ⟨b, i, none⟩ := by intro i; rw [hw1, World.frozen?_setCell]; rfl
  rw [← hw1]
  clear hw1
  refine ⟨⟨hBb, Nat.lt_of_lt_of_le hb (by simpa using dg.size), a, len, cap, at' + 1, s', ?_, ?_, ?_, ?_, ?_, by omega, hlen, ?_⟩, ?_⟩
  · show (w1.setCell _ _).cell? _ = _
    rw [World.cell?_setCell_other _ _ _ _ (by simp)]; exact d0
  · show (w1.setCell _ _).cell? _ = _
    rw [World.cell?_setCell_other _ _ _ _ (by simp), d1]; rfl
  · show (w1.setCell _ _).cell? _ = _
    rw [World.cell?_setCell_same _ _ _ d2]
  · show (w1.setCell _ _).frozen? _ = _
    rw [World.frozen?_setCell, df]; exact f1
  · show (w1.setCell _ _).frozen? _ = _
    rw [World.frozen?_setCell, df]; exact f2
  · intro i hi
    obtain ⟨c, o, x, h1, h2, h3, h4⟩ := dc i hi
    refine ⟨c, o, x, h1, h2, h3, ?_⟩
    show (w1.setCell _ _).cell? _ = _
    rw [World.cell?_setCell_other _ _ _ _ (fun e => by have e1 : b = c := congrArg Addr.block e; omega)]
    exact h4
  · exact grown_trans (grown_trans dg (grown_setCell _ _ _ _)) (grown_drew _ _ _)
/-- What next leaves. -/
def NextPost (B b k : Nat) (w : World) (e : Ending) (w' : World) : Prop := ∃ r : Nat, e = .returned (.int .i64 (r : Int)) ∧ r ≤ 255 ∧ Cur B b (k + 1) w' ∧ w.grownBy w' (some b)
set_option maxHeartbeats 1000000 in
theorem next_any (B b k : Nat) (w : World) (h : Cur B b k w) (hk : k ≤ 1000000000) :
    Calls Try.prog 67 #[.pointer (some ⟨b, 0, none⟩)] w (NextPost B b k w) := by
  obtain ⟨hBb, hb, a, len, cap, at', seed, c0, c1, c2, f1, f2, hat, hlen, hcode⟩ := h
  have HS := Lib.hid (fun n1 n2 s' => cur_step hBb hb c0 c1 c2 f1 f2 hat hlen hcode n1 n2 s')
  by_cases hlt : at' < len
  · obtain ⟨c, o, x, rfl, hcB, hx, hcx⟩ := hcode at' hlt
    have hltI : (at' : Int) < (len : Int) := by omega
    clear hcode
    go_enter Try.func67, Try.ntmps67
    go_wp2
    go_quiet (fail)
    go_wp2
    go_quiet (fail)
    go_wp2
    go_quiet (fail)
    go_wp2
    go_ret
    obtain ⟨h1, h2⟩ := HS.out _ _ _
    exact ⟨x, rfl, hx, h1, h2⟩
  · have hltI : ¬ (at' : Int) < (len : Int) := by omega
    clear hcode
    go_enter Try.func67, Try.ntmps67
    go_wp2
    go_quiet (fail)
    go_wp2
    go_quiet (fail)
    go_wp2
    go_ret
    obtain ⟨h1, h2⟩ := HS.out _ _ _
    obtain ⟨r, hr, he⟩ := low_byte _
    exact ⟨r, ret_int he, hr, h1, h2⟩
theorem pick_small (B b k : Nat) (n : Int) (w : World) (h : Cur B b k w) (hn : n ≤ 1) (hn0 : 0 ≤ n) :
    Calls Try.prog 65 #[.pointer (some ⟨b, 0, none⟩), .int .i64 n] w fun e w' => e = .returned (.int .i64 0) ∧ w' = w := by
  clear h
  go_enter Try.func65, Try.ntmps65
  go_wp2_with fail
  go_ret
  exact ⟨rfl, rfl⟩
/-- What pick leaves. -/
def PickPost (B b k : Nat) (n : Int) (w : World) (e : Ending) (w' : World) : Prop := ∃ r : Nat, e = .returned (.int .i64 (r : Int)) ∧ (r : Int) < n ∧ Cur B b (k + 2) w' ∧ w.grownBy w' (some b)
theorem Cur.mono {B b k k' : Nat} {w : World} (h : Cur B b k w) (hk : k ≤ k') : Cur B b k' w := by
  obtain ⟨hBb, hb, a, len, cap, at', seed, c0, c1, c2, f1, f2, hat, hlen, hcode⟩ := h
  exact ⟨hBb, hb, a, len, cap, at', seed, c0, c1, c2, f1, f2, Nat.le_trans hat hk, hlen, hcode⟩
set_option maxHeartbeats 1000000 in
theorem pick_any (B b k : Nat) (n : Int) (w : World) (h : Cur B b k w) (hk : k ≤ 900000000) (hn : 1 ≤ n) (hn2 : n ≤ 60000) :
    Calls Try.prog 65 #[.pointer (some ⟨b, 0, none⟩), .int .i64 n] w (PickPost B b k n w) := by
  by_cases h1 : n ≤ 1
  · refine (pick_small B b k n w h h1 (by omega)).mono ?_
    rintro e w' ⟨rfl, rfl⟩
    exact ⟨0, rfl, by show (0 : Int) < n; omega, h.mono (by omega), ⟨rfl, rfl, rfl, Nat.le_refl _, fun _ _ _ => rfl⟩⟩
  · have HH := Lib.hid h
    clear h
    by_cases h2 : (200 : Int) < n
    · go_enter Try.func65, Try.ntmps65
      go_wp2_with fail
      refine (next_any B b k _ HH.out (by omega)).mono ?_
      rintro e w1 ⟨r1, rfl, hr1, hc1, hg1⟩
      have HC1 := Lib.hid hc1
      have HG1 := Lib.hid hg1
      clear hc1 hg1
      go_wp2_with fail
      refine (next_any B b (k + 1) _ HC1.out (by omega)).mono ?_
      rintro e w2 ⟨r2, rfl, hr2, hc2, hg2⟩
      have HC2 := Lib.hid hc2
      have HG2 := Lib.hid hg2
      clear hc2 hg2
      go_wp2_with fail
      go_ret
      exact ⟨(((r1 : Int) * 256 + r2) % n).toNat, ret_int (Int.toNat_of_nonneg (Int.emod_nonneg _ (by omega))).symm, by rw [Int.toNat_of_nonneg (Int.emod_nonneg _ (by omega))]; exact Int.emod_lt_of_pos _ (by omega), HC2.out, grown_trans HG1.out HG2.out⟩
    · go_enter Try.func65, Try.ntmps65
      go_wp2_with fail
      refine (next_any B b k _ HH.out (by omega)).mono ?_
      rintro e w1 ⟨r1, rfl, hr1, hc1, hg1⟩
      have HC1 := Lib.hid hc1
      have HG1 := Lib.hid hg1
      clear hc1 hg1
      go_wp2_with fail
      go_ret
      exact ⟨((r1 : Int) % n).toNat, ret_int (Int.toNat_of_nonneg (Int.emod_nonneg _ (by omega))).symm, by rw [Int.toNat_of_nonneg (Int.emod_nonneg _ (by omega))]; exact Int.emod_lt_of_pos _ (by omega), HC1.out.mono (by omega), HG1.out⟩
end Go.Proofs.Ytinlcbljpclccaa
