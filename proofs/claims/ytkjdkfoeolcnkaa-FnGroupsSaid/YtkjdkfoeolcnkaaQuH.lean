/- Queues with groups: impl.AfterCabin. Condition: sizes. -/
import Derived.Test.YtkjdkfoeolcnkaaQuG
namespace Go.Proofs.Ytkjdkfoeolcnkaa
open Go.RowKit
set_option linter.unusedVariables false
theorem ret_vib13 {g : Value} {x y : Int} {a b : Bool} (h1 : x = y) (h : a = b) : Ending.returned (.tuple #[g, .int .i64 x, .bool a]) = .returned (.tuple #[g, .int .i64 y, .bool b]) := by rw [h1, h]
theorem gros_snoc (l : List Gro) (x : Gro) : gros (l ++ [x]) = gros l ++ [.int .i64 x.z, .bool x.q] := by rw [gros_append, gros_one]
/-- What is left and who got in, the first k groups seen. -/
def afK (l : List Gro) (s : Int) (k : Nat) : List Gro := gs13 l (fun k => !in13 (szQ l) (qkQ l) l.length s k) k
def apK (l : List Gro) (s : Int) (k : Nat) : Int := su13 (in13 (szQ l) (qkQ l) l.length s) (szQ l) k
theorem fl_has {l : List Gro} {s : Int} (h : asQ l s = true) {k : Nat} (hk : k < l.length) : (flV l s).contains (k : Int) = in13 (szQ l) (qkQ l) l.length s k := by
  unfold flV
  rw [h, if_pos rfl, Bool.eq_iff_iff, List.contains_iff_mem, ix13_has]
  exact ⟨fun h => h.2, fun h => ⟨hk, h⟩⟩
theorem afK_in {l : List Gro} {s : Int} {k : Nat} (h : in13 (szQ l) (qkQ l) l.length s k = true) : afK l s (k + 1) = afK l s k ∧ apK l s (k + 1) = apK l s k + (gth l k).z :=
  ⟨gs13_no (by simp [h]), su13_yes h⟩
theorem afK_out {l : List Gro} {s : Int} {k : Nat} (h : in13 (szQ l) (qkQ l) l.length s k = false) : afK l s (k + 1) = afK l s k ++ [gth l k] ∧ apK l s (k + 1) = apK l s k :=
  ⟨gs13_yes (by simp [h]), su13_no h⟩
theorem apK_bd {l : List Gro} {s : Int} (h : isQ l = true) {k : Nat} (hk : k ≤ l.length) : 0 ≤ apK l s k ∧ apK l s k ≤ 96 := by
  have h1 := is_len h
  have := su13_bd (p := in13 (szQ l) (qkQ l) l.length s) (sz := szQ l) k fun i hi => by have := is_bd h i (by omega); omega
  unfold apK; omega
theorem af_yes {l : List Gro} {s : Int} (h : asQ l s = true) : afV l s = afK l s l.length ∧ apV l s = apK l s l.length := by
  unfold afV apV; rw [h]; exact ⟨rfl, rfl⟩
theorem af_no {l : List Gro} {s : Int} (h : asQ l s = false) : afV l s = [] ∧ apV l s = 0 := by
  unfold afV apV; rw [h]; exact ⟨rfl, rfl⟩
set_option maxRecDepth 100000 in
set_option maxHeartbeats 4000000 in
theorem implAfterCabin_c (v : Value) (l : List Gro) (s : Int) (w : World) (hr : Rs w v l.length (gros l)) (hn : l.length ≤ 1048576) :
    Calls Try.prog 25 #[v, .int .i64 s] w fun e w' => ∃ g, e = .returned (.tuple #[g, .int .i64 (apV l s), .bool (asQ l s)]) ∧ w'.ownsRow w.heap.size 34 2 g (afV l s).length (gros (afV l s)) ∧ Below w.heap.size w w' := by
  obtain ⟨i0, hi, hz0, hz1, hz2⟩ := info_parts Try.infoGro
  have E0 := Lib.hid (implFillCabin_c v l s w hr hn)
  obtain ⟨ao, a, oa, ca, rfl, hao, hat⟩ := hr.form_Gro
  have HA := Lib.hid hao
  have HL := Lib.hid hat
  clear hr hao hat
  cases hb : asQ l s with
  | false =>
    rw [hb] at E0
    obtain ⟨y1, y2⟩ := af_no hb
    rw [y1, y2]
    clear hb y1 y2
    go_enter Try.func25, Try.ntmps25
    go_wp2_with fail
    refine (E0.out).mono ?_
    rintro e w1 ⟨g, rfl, o1, b1⟩
    have HB1 := Lib.hid b1
    have hs1 := b1.size
    clear b1 o1
    go_wp2
    go_ret3
    exact ⟨_, rfl, World.ownsRow_made w1 #[] 0 hs1 (by decide) rfl, HB1.out.alloc hs1 _⟩
  | true =>
    rw [hb] at E0
    obtain ⟨y1, y2⟩ := af_yes hb
    rw [y1, y2]
    have hl12 : l.length ≤ 12 := is_len (as_is hb)
    have HBD := Lib.hid (fun k (hk : k ≤ l.length) => apK_bd (s := s) (as_is hb) hk)
    have HZ := Lib.hid (fun k (hk : k < l.length) => is_bd (as_is hb) k hk)
    have HHAS := Lib.hid (fun k (hk : k < l.length) => fl_has hb hk)
    have HF12 := flV_len l s
    have HAF : Hid (∀ k, (afK l s k).length ≤ k) := Lib.hid (fun k => gs13_le l _ k)
    clear hb y1 y2
    generalize flV l s = FL at *
    go_enter Try.func25, Try.ntmps25
    go_wp2_with fail
    refine (E0.out).mono ?_
    rintro e w1 ⟨g, rfl, o1, b1⟩
    have HB1 := Lib.hid b1
    have hs1 := b1.size
    have HE1 : Hid (∀ W (x : Int), Below w1.heap.size w1 W → _) := Lib.hid (fun W x (h : Below w1.heap.size w1 W) => contains13_c g FL x W ((Rd.of_own o1).below h rfl) (by omega))
    have HL1 := Lib.hid (fun W (h : Below w1.heap.size w1 W) (ha : a < w.heap.size) => (HL.out.below b1 ha).below h (by omega))
    obtain ⟨ga, gc, hg⟩ := (Rs.of_own o1).shape
    subst hg
    clear b1 o1
    go_wp2
    go_loopw [9, 10, 25] (fun o pp i wr => ∃ k : Nat, k ≤ l.length ∧ i = .int .i64 k ∧ pp = .int .i64 (apK l s k) ∧ wr.ownsRow w1.heap.size 34 2 o (afK l s k).length (gros (afK l s k)) ∧ Hid (Below w1.heap.size w1 wr)) (fun _ _ i _ => l.length - (intOf i).toNat)
    case atStart => exact ⟨0, by omega, rfl, by first | rfl | trivial, World.ownsRow_made w1 #[] 0 (Nat.le_refl _) (by decide) rfl, Lib.hid ((Below.refl _ _).alloc (Nat.le_refl _) _)⟩
    case round =>
      obtain ⟨k, hk, rfl, rfl, hown, hbel⟩ := hrel
      by_cases hlt : k < l.length
      · obtain ⟨rfl, hla, hlm⟩ := HA.out (by omega)
        obtain ⟨c0, c1⟩ := (HL1.out wr hbel.out hla) k hlt
        have hbs := hbel.out.size
        have hz : 1 ≤ (gth l k).z ∧ (gth l k).z ≤ 8 := HZ.out k hlt
        obtain ⟨p1, p2⟩ := HBD.out k (by omega)
        have hkl := HAF.out k
        have HIN := Lib.hid (afK_in (l := l) (s := s) (k := k))
        have HOUT := Lib.hid (afK_out (l := l) (s := s) (k := k))
        have HH := HHAS.out k hlt
        have HB2 := Lib.hid (hbel.out.alloc hbel.out.size (.cells #[.int .i64 (gth l k).z, .bool (gth l k).q] 34))
        have HO2 := Lib.hid (hown.alloc (.cells #[.int .i64 (gth l k).z, .bool (gth l k).q] 34))
        have HP2 : Hid ((wr.alloc (.cells #[.int .i64 (gth l k).z, .bool (gth l k).q] 34)).heap[wr.heap.size]? = some (.cells #[.int .i64 (gth l k).z, .bool (gth l k).q] 34 (0, 0))) := Lib.hid (heap_alloc_new _ _)
        have hz2s : wr.heap.size < (wr.alloc (.cells #[.int .i64 (gth l k).z, .bool (gth l k).q] 34)).heap.size := by simp
        have HC2 := Lib.hid (HE1.out _ (k : Int) HB2.out)
        have HGS := Lib.hid (gros_snoc (afK l s k) (gth l k))
        rw [HH] at HC2
        clear HH
        generalize in13 (szQ l) (qkQ l) l.length s k = bi at *
        generalize apK l s k = P0 at *
        generalize afK l s k = A0 at *
        generalize gth l k = D at *
        go_upto_region 8 with fail
        generalize wr.alloc (.cells #[.int .i64 D.z, .bool D.q] 34) = w2 at *
        clear hown c0 c1
        go_wp2_with fail
        refine (HC2.out).mono ?_
        rintro e w3 ⟨rfl, rfl⟩
        obtain ⟨d0, d1⟩ := blk_cell2 HP2.out
        cases bi with
        | true =>
          obtain ⟨x1, x2⟩ := HIN.out rfl
          have HX1 := Lib.hid x1
          have HX2 := Lib.hid x2
          clear x1 x2
          go_wp2
          go_roundw
          case rel => exact ⟨k + 1, by omega, by go_num, by rw [HX2.out] <;> go_num, by rw [HX1.out]; exact HO2.out, HB2⟩
          case measure => simp [intOf]; omega
        | false =>
          obtain ⟨x1, x2⟩ := HOUT.out rfl
          have HX1 := Lib.hid x1
          have HX2 := Lib.hid x2
          have hB2s := HB2.out.size
          clear x1 x2
          go_wp2_with (at_builtin; go_loud (refine wpList_append_any _ rfl _ _ 24 rfl w1.heap.size 34 i0 (.agg #[.int .i64 0, .bool false]) 2 16 Try.underlying24 hi hz0 hz1 hz2 rfl (by decide) _ _ _ rfl (HO2.out.alloc _) (some ⟨w3.heap.size, 0, none⟩) 1 1 [.int .i64 D.z, .bool D.q] rfl rfl (fun _ => ⟨_, rfl, World.news_of_block (cs := #[.int .i64 D.z, .bool D.q]) (t := 34) (fr := (0, 0)) (heap_alloc_new w3 _)⟩) (by simp [Value.oneCell']) (by unfold maxLen; omega) (by omega) (by simp; omega) ?_; intro v' w4 hown' hgrow _; have HO4 := Lib.hid hown'; have HB4 := Lib.hid ((HB2.out.alloc hB2s _).grown hgrow (by simp; omega) (fun j hj => (HO2.out.lt j hj).1)); clear hown' hgrow))
          go_roundw
          case rel => exact ⟨k + 1, by omega, by go_num, by rw [HX2.out], by rw [HX1.out, HGS.out, List.length_append]; exact HO4.out, HB4⟩
          case measure => simp [intOf]; omega
      · obtain rfl : k = l.length := by omega
        go_wp2
        go_ret3
        exact ⟨_, rfl, own_mono hown hs1, HB1.out.trans (hbel.out.mono hs1)⟩
end Go.Proofs.Ytkjdkfoeolcnkaa
