/- SpanLengths: the program's and the specification's answer as one function of the line. Condition: sizes. -/
import Derived.Test.YtdnmmafnjhgeiabSpanW
import Derived.Deep.RegionHeld3
import Derived.Deep.AppendLies
import Derived.WalkSpells
import Derived.StillTactics
import Derived.RangeFuncBox
namespace Go.Proofs.Ytdnmmafnjhgeiab
open Go.RowKit
set_option linter.unusedVariables false
def lensK (l : List Sup) (k : Nat) : List Int := (List.range k).map (slen l)
noncomputable def lens (l : List Sup) : List Int := if isL l then lensK l (l.length - 1) else []
theorem lensK_len (l : List Sup) (k : Nat) : (lensK l k).length = k := by simp [lensK]
theorem lensK_succ (l : List Sup) (k : Nat) : lensK l (k + 1) = lensK l k ++ [slen l k] := by simp [lensK, List.range_succ]
theorem lens_yes {l : List Sup} (h : isL l = true) : lens l = lensK l (l.length - 1) := by simp [lens, h]
theorem lens_no {l : List Sup} (h : isL l = false) : lens l = [] := by simp [lens, h]
theorem lens_len (l : List Sup) : (lens l).length ≤ 8 := by
  cases h : isL l with
  | false => rw [lens_no h]; simp
  | true => rw [lens_yes h, lensK_len]; have := (isL_yes h).eight; omega
theorem Try.infoInt : (Try.prog.info? 3).map (fun i => (i.zero, i.size, i.bytes)) = some (some (.int .i64 0), 1, 8) := by kernel_rfl
set_option maxHeartbeats 1000000 in
theorem implSpanLengths_c (v : Value) (l : List Sup) (w : World) (hr : Rs w v l.length (sups l)) (hn : l.length ≤ 1048576) :
    Calls Try.prog 6 #[v] w fun e w' => ∃ g, e = .returned (.tuple #[g, .bool (isL l)]) ∧ w'.ownsRow w.heap.size 3 1 g (lens l).length (intVs (lens l)) ∧ Below w.heap.size w w' := by
  obtain ⟨i0, hi, hz0, hz1, hz2⟩ := info_parts Try.infoInt
  cases hb : isL l with
  | false =>
    rw [lens_no hb]
    have HB := Lib.hid hb
    have HR := Lib.hid hr
    clear hr hb
    go_enter Try.func6, Try.ntmps6
    go_wp2_with fail
    refine (implIsLine_c v l _ HR.out hn).mono ?_
    rw [HB.out]
    rintro e w1 ⟨rfl, b1⟩
    go_wp2
    go_ret2
    exact ⟨_, rfl, World.ownsRow_made w1 #[] 0 b1.size (by decide) rfl, b1.alloc b1.size _⟩
  | true =>
    have hl := isL_yes hb
    rw [lens_yes hb]
    have HB := Lib.hid hb
    have h2 := hl.two
    have h8 := hl.eight
    have HL := Lib.hid hl
    obtain ⟨a, oa, ca, rfl, hla, hm, hs⟩ := hr.sup (by omega)
    have HR := Lib.hid hr
    clear hr hb hl hs
    go_enter Try.func6, Try.ntmps6
    go_wp2_with fail
    refine (implIsLine_c _ l _ HR.out hn).mono ?_
    rw [HB.out]
    rintro e w1 ⟨rfl, b1⟩
    go_wp2
    go_loopw [4, 14] (fun o i wr => ∃ k : Nat, k + 1 ≤ l.length ∧ i = .int .i64 k ∧ wr.ownsRow w.heap.size 3 1 o (lensK l k).length (intVs (lensK l k)) ∧ Below w.heap.size w wr) (fun _ i _ => l.length - (intOf i).toNat)
    case atStart => exact ⟨0, by omega, rfl, World.ownsRow_made w1 #[] 0 b1.size (by decide) rfl, b1.alloc b1.size _⟩
    case round =>
      obtain ⟨k, hk, rfl, hown, hbel⟩ := hrel
      have hkl : (lensK l k).length = k := lensK_len l k
      by_cases hlt : k + 1 < l.length
      · have hlt' : (k : Int) < (l.length : Int) - 1 := by omega
        have HS := Lib.hid (lensK_succ l k)
        go_wp2_with fail
        refine (spanLength_c _ l k wr (HR.out.below hbel rfl) HL.out hlt).mono ?_
        rintro e w2 ⟨rfl, d2⟩
        have hown2 := own_drew hown d2
        have hbel2 := Drew.below_trans hbel d2
        clear hown hbel d2
        go_wp2_with (at_builtin; refine wpList_append_own _ rfl _ _ 26 rfl w.heap.size 3 i0 (.int .i64 0) 1 8 Try.underlying26 hi hz0 hz1 hz2 rfl (by decide) _ _ _ rfl (hown2.alloc _) ⟨w2.heap.size, 0, none⟩ 1 1 [.int .i64 (slen l k)] rfl rfl (cell_one_new _ _ _) (by simp [Value.oneCell']) (by rw [hkl]; unfold maxLen; omega) (by rw [hkl]; omega) (by have := hbel2.size; simp; omega) ?_; intro v' w3 hown' hgrow _)
        go_roundw
        case rel => exact ⟨k + 1, by omega, by go_num, by rw [HS.out]; simpa [intVs] using hown', (hbel2.alloc hbel2.size _).grown hgrow (by have := hbel2.size; simp; omega) (fun j hj => (hown2.lt j hj).1)⟩
        case measure => simp [intOf]; omega
      · obtain rfl : k = l.length - 1 := by omega
        go_wp2
        go_ret2
        exact ⟨_, rfl, hown, hbel⟩
set_option maxHeartbeats 1000000 in
theorem specSpanLengths_c (v : Value) (l : List Sup) (w : World) (hr : Rs w v l.length (sups l)) (hn : l.length ≤ 1048576) :
    Calls Try.prog 7 #[v] w fun e w' => ∃ g, e = .returned (.tuple #[g, .bool (isL l)]) ∧ w'.ownsRow w.heap.size 3 1 g (lens l).length (intVs (lens l)) ∧ Below w.heap.size w w' := by
  obtain ⟨i0, hi, hz0, hz1, hz2⟩ := info_parts Try.infoInt
  cases hb : isL l with
  | false =>
    rw [lens_no hb]
    have HB := Lib.hid hb
    have HR := Lib.hid hr
    clear hr hb
    go_enter Try.func7, Try.ntmps7
    go_wp2_with fail
    refine (l2Line_c v l _ (HR.out.below ((Below.refl _ _).alloc (Nat.le_refl _) _) rfl) hn).mono ?_
    rw [HB.out]
    rintro e w1 ⟨rfl, d1⟩
    go_wp2
    go_ret2
    exact ⟨_, rfl, own_drew (World.ownsRow_made w #[] 0 (Nat.le_refl _) (by decide) rfl) d1, Drew.below_trans ((Below.refl _ _).alloc (Nat.le_refl _) _) d1⟩
  | true =>
    have hl := isL_yes hb
    rw [lens_yes hb]
    have HB := Lib.hid hb
    have h2 := hl.two
    have h8 := hl.eight
    have HL := Lib.hid hl
    obtain ⟨a, oa, ca, rfl, hla, hm, hs⟩ := hr.sup (by omega)
    have HR := Lib.hid hr
    have HA := Lib.hid hs
    clear hr hb hl hs
    go_enter Try.func7, Try.ntmps7
    go_wp2_with fail
    refine (l2Line_c _ l _ (HR.out.below ((Below.refl _ _).alloc (Nat.le_refl _) _) rfl) hn).mono ?_
    rw [HB.out]
    rintro e w1 ⟨rfl, d1⟩
    go_wp2
    go_loopw [4, 5] (fun o i wr => ∃ k : Nat, k + 1 ≤ l.length ∧ i = .int .i64 ((k : Int) + 1) ∧ wr.ownsRow w.heap.size 3 1 o (lensK l k).length (intVs (lensK l k)) ∧ Below w.heap.size w wr) (fun _ i _ => l.length - (intOf i).toNat)
    case atStart => exact ⟨0, by omega, rfl, own_drew (World.ownsRow_made w #[] 0 (Nat.le_refl _) (by decide) rfl) d1, Drew.below_trans ((Below.refl _ _).alloc (Nat.le_refl _) _) d1⟩
    case round =>
      obtain ⟨k, hk, rfl, hown, hbel⟩ := hrel
      have hkl : (lensK l k).length = k := lensK_len l k
      by_cases hlt : k + 1 < l.length
      · have HS := Lib.hid (lensK_succ l k)
        have HA1 := HA.out.below hbel hla
        obtain ⟨c0, _, _⟩ := HA1 k (by omega)
        obtain ⟨d0, _, _⟩ := HA1 (k + 1) hlt
        have bd0 := HL.out.bd (i := k) (by omega)
        have bd1 := HL.out.bd (i := k + 1) hlt
        have HX := Lib.hid (show slen l k = (nth l (k + 1)).a - (nth l k).a from rfl)
        clear HA1
        generalize (nth l k).a = A at *
        generalize (nth l (k + 1)).a = B at *
        have p1 : IntKind.i64.wrap ((k : Int) + 1 - 1) = (k : Int) := by rw [Int.add_sub_cancel]; exact IntWalk.i64_in _ (by omega)
        have p2 : IntKind.i64.wrap (k : Int) = (k : Int) := IntWalk.i64_in _ (by omega)
        have hs1 : IntKind.i64.wrap (B - A) = B - A := IntWalk.i64_in _ (by omega)
        have hi1 : k < l.length := by omega
        have p3 : ((k : Int) + 1).toNat = k + 1 := by omega
        have p4 : (0 : Int) ≤ (k : Int) + 1 := by omega
        have hi2 : (k : Int) + 1 < (l.length : Int) := by omega
        have hal : a < wr.heap.size := by have := hbel.size; omega
        have hab : u4.ownBlock ≠ some a := fun e => by have := (hown.lt a e).1; omega
        go_wp2_with fail
        go_region_held3 (fun w' => w'.cell? ⟨a, oa + k * 3, none⟩ = some (.int .i64 A) ∧ w'.cell? ⟨a, oa + (k + 1) * 3, none⟩ = some (.int .i64 B))
          (first
            | go_keep
            | (go_split_ands
               refine ⟨?_, ?_⟩
               · (rw [hgrow.cell_far _ (by simp; omega) (Ne.symm hab)]; assumption)
               · (rw [hgrow.cell_far _ (by simp; omega) (Ne.symm hab)]; assumption)))
          ((refine step_append_lies _ (by rfl) _ _ _ (by rfl) w.heap.size 3 i0 (.int .i64 0) 1 8 Try.underlying26 hi hz0 hz1 hz2 rfl (by omega) u4 (lensK l k).length (intVs (lensK l k)) (by rfl) ((hown.alloc _).drew)
              ⟨wr.heap.size, 0, none⟩ 1 1 [.int .i64 (B - A)] (by rfl) (by rfl) (World.news_of_block (cs := #[.int .i64 (B - A)]) (t := 3) (fr := (0, 0)) (heap_alloc_new wr _)) (by simp [Value.oneCell'])
              (by omega) (by rw [hkl]; unfold maxLen; omega) (by rw [hkl]; omega) (by have := hbel.size; simp; omega) (wr.heap.size + 1) (by simp) ?_; intro gg cap w1 hown1 hgrow hat hlt1))
        clear p1 p3
        rw [hkl] at hown1
        have HO1 := Lib.hid hown1
        have HG1 := Lib.hid hgrow
        clear hown1 hgrow
        go_wp2
        go_roundw
        case rel =>
          refine ⟨k + 1, by omega, by go_num, ?_, ((hbel.alloc hbel.size _).drew).grown HG1.out (by have := hbel.size; simp; omega) (fun j hj => (hown.lt j hj).1)⟩
          rw [HS.out, HX.out]
          simpa [intVs, hkl] using HO1.out
        case measure => simp [intOf]; omega
      · obtain rfl : k = l.length - 1 := by omega
        go_wp2
        go_ret2
        exact ⟨_, rfl, hown, hbel⟩
end Go.Proofs.Ytdnmmafnjhgeiab
