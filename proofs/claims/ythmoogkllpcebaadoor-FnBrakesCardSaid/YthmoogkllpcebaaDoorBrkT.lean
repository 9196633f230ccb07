/- Trailing zeros by the library's table, and sets of brakes as the program spells them. Condition: the table is as the library's text lays it. -/
import Derived.Test.YthmoogkllpcebaaDoorBrkK
import Derived.Shelf.Spec.TrailingZeros
import Derived.Lib.LaidTab
import Derived.WalkSmall
namespace Go.Proofs.YthmoogkllpcebaaDoor
open Go.RowKit
set_option linter.unusedVariables false
def bruL : List Int := Lib.deBruijn64tab.map (fun n : Nat => (n : Int))
/-- The library's table is as laid. -/
def BruP (w : World) : Prop := Lib.TabIs Tryd.prog w "math/bits.deBruijn64tab" .u8 bruL
theorem gBru : Tryd.prog.globalNamed "math/bits.deBruijn64tab" = some 1 := by kernel_rfl
theorem bru_lt {w : World} (h : BruP w) : 1 < w.heap.size := by
  have h' : w.var? Tryd.prog "math/bits.deBruijn64tab" = _ := h
  unfold World.var? at h'
  simp only [gBru, Option.bind_some] at h'
  cases hb : w.heap[1]? with
  | none => simp [hb] at h'
  | some o => exact (Array.getElem?_eq_some_iff.1 hb).1
theorem BruP.below {w w' : World} (h : BruP w) (hb : Below w.heap.size w w') : BruP w' := var?_below hb gBru (bru_lt h) h
theorem BruP.drewN {w : World} (h : BruP w) (m : Nat) : BruP (w.drewN m) := h.below (below_drewN (Below.refl _ _) m)
theorem BruP.cell {w : World} (h : BruP w) (i : Nat) (hi : i < 64) : w.cell? ⟨1, i, none⟩ = some (.int .u8 (Lib.deBruijn64tab.getD i 0 : Nat)) := by
  have hl : Lib.deBruijn64tab.length = 64 := by decide
  have h2 := Lib.TabIs.cell h gBru i (by simp [bruL, hl, hi])
  rw [h2]
  congr 2
  simp [bruL, List.getD, hl, hi]
set_option maxHeartbeats 1000000 in
theorem tz64_c (x k idx : Nat) (w : World) (hx0 : ((x : Int) == 0) = false)
    (key : IntKind.u64.wrap (bits BinOp.and IntKind.u64 (x : Int) (IntKind.u64.wrap (-(x : Int))) * 285870213051353865) / 288230376151711744 = (idx : Int))
    (hi : idx < 64) (hk : k < 64) (hcell : w.cell? ⟨1, idx, none⟩ = some (.int .u8 k)) :
    Calls Tryd.prog 99 #[.int .u64 x] w fun e w' => e = .returned (.int .i64 k) ∧ w' = w := by
  go_enter Tryd.func99, Tryd.ntmps99
  go_wp2_with (simp only [key])
  go_ret
  exact ⟨rfl, rfl⟩
theorem ctz_tz : ∀ s, s < 16 → s ≠ 0 → Lib.ctz 64 s = tz10 s := by decide +kernel
theorem tz_c (x : Nat) (w : World) (h0 : x ≠ 0) (hx : x < 16) (hT : BruP w) :
    Calls Tryd.prog 82 #[.int .u64 x] w fun e w' => e = .returned (.int .i64 (tz10 x : Nat)) ∧ w' = w := by
  obtain ⟨hlow, hk⟩ := Lib.lowest_bit 64 x h0 (Nat.lt_of_lt_of_le hx (Nat.pow_le_pow_right (n := 2) (i := 4) (j := 64) (by decide) (by decide)))
  obtain ⟨hi, htab⟩ := Lib.deBruijn64_at _ hk
  have hcell := hT.cell _ hi
  rw [htab] at hcell
  have hkey := tz64_key x _ (by omega) h0 hlow
  rw [ctz_tz x hx h0] at hk hcell hi hkey
  have c64 := tz64_c x _ _ w (by simp; omega) hkey hi hk hcell
  have hw : IntKind.u64.wrap (x : Int) = (x : Int) := by rw [IntKind.wrap_u64]; omega
  clear hlow hi htab hcell hkey
  generalize tz10 x = K at *
  go_enter Tryd.func82, Tryd.ntmps82
  go_wp2_with fail
  refine c64.mono ?_
  rintro e w1 ⟨rfl, rfl⟩
  go_wp2
  go_ret
  exact ⟨rfl, rfl⟩
/-- The machine's clearing of the lowest bit. -/
theorem low_bits (s : Nat) (h : s < 16) (h0 : s ≠ 0) : bits BinOp.and IntKind.u64 (s : Int) ((s : Int) - 1) = ((s &&& (s - 1) : Nat) : Int) := by
  have e : (s : Int) - 1 = ((s - 1 : Nat) : Int) := by omega
  rw [e]
  exact bits_and_u64_nat s (s - 1) (by omega) (by omega)
/-- The indices, as integers. -/
def memI (s : Nat) : List Int := (mem10 s).map (fun i : Nat => (i : Int))
theorem memI_len (s : Nat) : (memI s).length = (mem10 s).length := by simp [memI]
theorem memI_get (s i : Nat) : (memI s).getD i 0 = ((mem10 s).getD i 0 : Nat) := by
  simp only [memI, List.getD, List.getElem?_map]
  cases (mem10 s)[i]? <;> simp
set_option maxRecDepth 100000 in
set_option maxHeartbeats 4000000 in
theorem brakesIn_c (s : Nat) (w : World) (hs : s < 16) (hT : BruP w) :
    Calls Tryd.prog 53 #[.int .u64 s] w fun e w' => ∃ g, e = .returned g ∧ w'.ownsRow w.heap.size 3 1 g (memI s).length (intVs (memI s)) ∧ Below w.heap.size w w' := by
  obtain ⟨i0, hi, hz0, hz1, hz2⟩ := info_parts Tryd.infoIntR
  have HT := Lib.hid hT
  clear hT
  go_enter Tryd.func53, Tryd.ntmps53
  go_wp2
  go_loopw [3, 4] (fun o r wr => ∃ (rest : Nat) (done : List Int), rest < 16 ∧ r = .int .u64 rest ∧ Hid (memI s = done ++ memI rest) ∧ wr.ownsRow w.heap.size 3 1 o done.length (intVs done) ∧ Hid (Below w.heap.size w wr)) (fun _ r _ => (intOf r).toNat)
  case atStart => exact ⟨s, [], hs, rfl, Lib.hid rfl, World.ownsRow_made _ #[] 0 (Nat.le_refl _) (by decide) rfl, Lib.hid ((Below.refl _ _).alloc (Nat.le_refl _) _)⟩
  case round =>
    obtain ⟨rest, done, hr, rfl, hmem, hown, hbel⟩ := hrel
    have hbs := hbel.out.size
    by_cases h0 : rest = 0
    · subst h0
      have HO := Lib.hid hown
      have HE : Hid (done = memI s) := Lib.hid (by rw [hmem.out]; simp [memI, mem10_zero])
      clear hown
      go_wp2
      go_ret
      exact ⟨_, rfl, by rw [← HE.out]; exact HO.out, hbel.out⟩
    · have HST : Hid (memI rest = (tz10 rest : Int) :: memI (rest &&& (rest - 1))) := Lib.hid (by unfold memI; rw [mem10_step rest hr h0]; rfl)
      have HLT := Lib.hid (low10_lt rest hr h0)
      have HLEN : Hid (done.length + 1 ≤ 4) := Lib.hid (by
        have e1 := congrArg List.length hmem.out
        rw [HST.out, memI_len, List.length_append, List.length_cons] at e1
        have e2 := mem10_len s hs
        omega)
      have hq : ((rest : Int) != 0) = true := by simp; omega
      have q1 : IntKind.u64.wrap ((rest : Int) - 1) = (rest : Int) - 1 := by rw [IntKind.wrap_u64]; omega
      have q2 := low_bits rest hr h0
      have CT := Lib.hid (tz_c rest wr h0 hr (HT.out.below hbel.out))
      have hl4 := HLEN.out
      have HO := Lib.hid hown
      clear hown
      generalize hN : rest &&& (rest - 1) = N at *
      generalize tz10 rest = Y at *
      clear hN
      go_wp2_with fail
      refine CT.out.mono ?_
      rintro e w1 ⟨rfl, rfl⟩
      go_wp2_with (at_builtin; go_loud (refine wpList_append_own _ rfl _ _ 29 rfl w.heap.size 3 i0 (.int .i64 0) 1 8 Tryd.underlying29 hi hz0 hz1 hz2 rfl (by decide) _ _ _ rfl (HO.out.alloc _) ⟨_, 0, none⟩ 1 1 [.int .i64 Y] rfl rfl (cell_one_new _ _ _) (by simp [Value.oneCell']) (by unfold maxLen; omega) (by omega) (by simp; omega) ?_; intro v' w5 hown' hgrow _))
      go_roundw
      case rel => exact ⟨N, done ++ [(Y : Int)], by have := HLT.out; omega, rfl, Lib.hid (by rw [hmem.out, HST.out]; simp), by rw [iv_one, List.length_append]; exact hown', Lib.hid ((hbel.out.alloc hbs _).grown hgrow (by simp; omega) (fun j hj => (HO.out.lt j hj).1))⟩
      case measure => simp [intOf]; have := HLT.out; omega
/-- The set of all, as a word. -/
theorem allW (n : Nat) (h : n ≤ 4) : IntKind.u64.wrap (IntKind.u64.wrap (1 * 2 ^ min ((n : Int)).toNat 64) - 1) = ((full10 n : Nat) : Int) := by
  have : n = 0 ∨ n = 1 ∨ n = 2 ∨ n = 3 ∨ n = 4 := by omega
  rcases this with rfl | rfl | rfl | rfl | rfl <;> decide
set_option maxHeartbeats 2000000 in
theorem allBrakes_c (L S : Int) (v : Value) (l : List Brk) (w : World) (hr : Rs w v l.length (brks l)) (hn : l.length ≤ 1048576) :
    Calls Tryd.prog 50 #[.agg #[.int .i64 L, .int .i64 S, v]] w fun e w' => e = .returned (.int .u64 (IntKind.u64.wrap (IntKind.u64.wrap (2 ^ min l.length 64) - 1))) ∧ Below w.heap.size w w' := by
  obtain ⟨a, ca, rfl⟩ := hr.shape
  clear hr
  have HB := Lib.hid ((Below.refl w.heap.size w).alloc (Nat.le_refl _) (.cells #[.int .i64 L, .int .i64 S, .slice a l.length ca] 26))
  go_enter Tryd.func50, Tryd.ntmps50
  go_wp2
  go_ret
  exact ⟨rfl, HB.out⟩
end Go.Proofs.YthmoogkllpcebaaDoor
