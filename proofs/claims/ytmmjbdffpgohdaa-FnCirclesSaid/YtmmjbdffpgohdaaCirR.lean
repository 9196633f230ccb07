/- RemoveCabin: the program's and the specification's answer as one function. Condition: sizes. -/
import Derived.Test.YtmmjbdffpgohdaaSrtI
import Derived.Test.YtmmjbdffpgohdaaWithI
import Derived.Test.YtmmjbdffpgohdaaBlk3
namespace Go.Proofs.Ytmmjbdffpgohdaa
open Go.RowKit Go.Sort
set_option linter.unusedVariables false
theorem deleteI_c (g ca k : Nat) (l : List Int) (w : World) (B : Nat) (ho : w.ownsRow B 3 1 (.slice (some ⟨g, 0, none⟩) l.length ca) l.length (intVs l)) (hk : k < l.length) (hn : l.length ≤ 1048576) :
    Calls Try.prog 93 #[.slice (some ⟨g, 0, none⟩) l.length ca, .int .i64 (k : Int), .int .i64 ((k : Int) + 1)] w fun e w' => e = .returned (.slice (some ⟨g, 0, none⟩) (l.length - 1) ca) ∧ w'.ownsRow B 3 1 (.slice (some ⟨g, 0, none⟩) (l.length - 1) ca) (l.length - 1) (intVs (l.take k ++ l.drop (k + 1))) ∧ w.grownBy w' (some g) := by
  rcases ho.2 with ⟨h, _⟩ | ⟨g', cap, cur, hv, hbase, hb, h1, h2, h3, h4⟩
  · cases h
  · cases hv
    have hH := holds_of_blockI hb (by rw [Nat.mul_one] at h4; exact h4)
    have hc := Try.slices_Delete_int g 0 ca k (k + 1) l w hH h1 (by unfold maxLen at h2; omega) (by omega) (by omega)
    rw [show ((k + 1 : Nat) : Int) = (k : Int) + 1 by omega, show k + 1 - k = 1 by omega] at hc
    refine hc.mono ?_
    rintro e w' ⟨rfl, q, rfl⟩
    have hts : (l.take k ++ l.drop (k + 1) ++ List.replicate 1 0).length = l.length := by simp; omega
    have hg0 := heap_sortedI (os := #[]) (n := q) (l.take k ++ l.drop (k + 1) ++ List.replicate 1 0).toArray hb
    have hgw := grownBy_sortedI (w := w) (g := g) (os := #[]) (n := q) (l.take k ++ l.drop (k + 1) ++ List.replicate 1 0).toArray
    have e0 : grow (putRow (Value.int .i64) (Sort.ahead w q) g 0 (l.take k ++ l.drop (k + 1) ++ List.replicate 1 0).toArray) #[] = putRow (Value.int .i64) (Sort.ahead w q) g 0 (l.take k ++ l.drop (k + 1) ++ List.replicate 1 0).toArray := by simp [grow]; rfl
    rw [e0] at hg0 hgw
    have ht := take_putCellsI cur (l.take k ++ l.drop (k + 1) ++ List.replicate 1 0) (by rw [hts]; omega)
    refine ⟨rfl, ⟨by simp [intVs]; omega, .inr ⟨g, ca, _, rfl, hbase, hg0, by omega, h2, by simp [putCells, h3], ?_⟩⟩, hgw⟩
    rw [hts] at ht
    have : ((putCells (Value.int .i64) 0 (l.take k ++ l.drop (k + 1) ++ List.replicate 1 0).toArray cur).toList.take l.length).take (l.length - 1) = ((l.take k ++ l.drop (k + 1) ++ List.replicate 1 0).map (Value.int .i64)).take (l.length - 1) := by rw [ht]
    rw [List.take_take, show min (l.length - 1) l.length = l.length - 1 by omega] at this
    rw [Nat.mul_one, this, List.map_append, List.take_left' (by simp; omega)]
def rcOk (L S : Int) (l : List Int) (k : Int) : Bool := cirV L S l && inR k 0 ((l.length : Int) - 1)
def rcL (L S : Int) (l : List Int) (k : Int) : Int := if rcOk L S l k then L else 0
def rcS (L S : Int) (l : List Int) (k : Int) : Int := if rcOk L S l k then S else 0
def rcR (L S : Int) (l : List Int) (k : Int) : List Int := if rcOk L S l k then l.take k.toNat ++ l.drop (k.toNat + 1) else []
theorem rc_no {L S : Int} {l : List Int} {k : Int} (h : rcOk L S l k = false) : rcL L S l k = 0 ∧ rcS L S l k = 0 ∧ rcR L S l k = [] := by simp [rcL, rcS, rcR, h]
theorem rc_yes {L S : Int} {l : List Int} {k : Int} (h : rcOk L S l k = true) : rcL L S l k = L ∧ rcS L S l k = S ∧ rcR L S l k = l.take k.toNat ++ l.drop (k.toNat + 1) := by simp [rcL, rcS, rcR, h]
theorem rcR_len (L S : Int) (l : List Int) (k : Int) : (rcR L S l k).length ≤ l.length := by
  unfold rcR
  split
  · simp; omega
  · simp
/-- the answer of a function that hands back a circle -/
def CirR (w : World) (X Y : Int) (r : List Int) (b : Bool) (e : Ending) (w' : World) : Prop :=
  ∃ g, e = .returned (.tuple #[.agg #[.int .i64 X, .int .i64 Y, g], .bool b]) ∧ w'.ownsRow w.heap.size 3 1 g r.length (intVs r) ∧ Below w.heap.size w w'
theorem cirR_no {w w' : World} {X Y : Int} {r : List Int} {b : Bool} (hX : X = 0 ∧ Y = 0 ∧ r = []) (hb : b = false) (h : Below w.heap.size w w') : CirR w X Y r b (.returned (.tuple #[.agg #[.int .i64 0, .int .i64 0, .slice none 0 0], .bool false])) w' := by
  obtain ⟨rfl, rfl, rfl⟩ := hX
  subst hb
  exact ⟨_, rfl, World.ownsRow_nil _ _ _ _, h⟩
set_option maxRecDepth 100000 in
set_option maxHeartbeats 4000000 in
theorem implRemoveCabin_c (L S : Int) (v : Value) (l : List Int) (k : Int) (w : World) (hr : Rd w v (intVs l)) (hn : l.length ≤ 1048576) (hwk : (Lit.int .i64 k).wf = true) :
    Calls Try.prog 47 #[.agg #[.int .i64 L, .int .i64 S, v], .int .i64 k] w (CirR w (rcL L S l k) (rcS L S l k) (rcR L S l k) (rcOk L S l k)) := by
  have E0 := Lib.hid (fun W v h => implIsCircle_c L S v l W h hn)
  have E1 := Lib.hid (fun W => within_c k 0 ((l.length : Int) - 1) W)
  have HR := Lib.hid hr
  obtain ⟨ao, a, oa, ca, rfl, hao, hat⟩ := hr.form8
  have HA := Lib.hid hao
  have HL := Lib.hid hat
  have HB := Lib.hid (((Below.refl w.heap.size w).alloc (Nat.le_refl _) (.cells #[.int .i64 L, .int .i64 S, .slice ao l.length ca] 55)).alloc (by simp) (.cells #[.int .i64 0, .int .i64 0, .slice none 0 0] 55))
  have HB0 := Lib.hid (blk_stay (o' := .cells #[.int .i64 0, .int .i64 0, .slice none 0 0] 55) (blk_new3 w (.int .i64 L) (.int .i64 S) (.slice ao l.length ca) 55))
  have hb1 := blk_new3 (w.alloc (.cells #[.int .i64 L, .int .i64 S, .slice ao l.length ca] 55)) (.int .i64 0) (.int .i64 0) (.slice none 0 0) 55
  simp only [World.size_alloc] at hb1
  have HB1 := Lib.hid hb1
  have hd : rcOk L S l k = (cirV L S l && inR k 0 ((l.length : Int) - 1)) := rfl
  have q1 : IntKind.i64.wrap ((l.length : Int) - 1) = (l.length : Int) - 1 := IntWalk.i64_in _ (by omega)
  clear hr hwk hb1 hao hat
  cases hk : cirV L S l with
  | false =>
    rw [hk] at E0 hd
    have HD : Hid (rcOk L S l k = false) := Lib.hid (by rw [hd]; rfl)
    have HN := Lib.hid (rc_no HD.out)
    clear hk hd E1
    go_enter Try.func47, Try.ntmps47
    go_wp2_with fail
    refine (E0.out _ _ (HR.out.below HB.out rfl)).mono ?_
    rintro e w1 ⟨rfl, b1⟩
    have HT := Lib.hid (HB.out.trans (b1.mono HB.out.size))
    have HK1 := Lib.hid (blk_keep HB1.out b1 (by simp))
    clear b1
    have KZ := HK1.out
    obtain ⟨r0, r1, r2⟩ := blk_cell3 KZ
    obtain ⟨s0, s1, s2⟩ := blk_froz3 KZ
    have Z := blk_all3 (x := .int .i64 0) (y := .int .i64 0) (z := .slice none 0 0) KZ
    obtain ⟨z0, z1, z2⟩ := blk_cell3 Z
    have Z0 := Lib.hid z0
    have Z1 := Lib.hid z1
    have Z2 := Lib.hid z2
    have HTF := Lib.hid (below_all3 HT.out (b := w.heap.size + 1) (by omega) (.int .i64 0) (.int .i64 0) (.slice none 0 0))
    clear Z z0 z1 z2 KZ
    go_wp2
    refine bodyPost_ret (v := .tuple #[.agg #[.int .i64 0, .int .i64 0, .slice none 0 0], .bool false]) (by simp [results, Try.results47, go_sem, Z0.out, Z1.out, Z2.out]) rfl (cirR_no HN.out HD.out HTF.out)
  | true =>
    cases hm : inR k 0 ((l.length : Int) - 1) with
    | false =>
      rw [hk] at E0
      rw [hm] at E1
      rw [hk, hm] at hd
      have HD : Hid (rcOk L S l k = false) := Lib.hid (by rw [hd]; rfl)
      have HN := Lib.hid (rc_no HD.out)
      clear hk hm hd
      go_enter Try.func47, Try.ntmps47
      go_wp2_with fail
      refine (E0.out _ _ (HR.out.below HB.out rfl)).mono ?_
      rintro e w1 ⟨rfl, b1⟩
      have HT := Lib.hid (HB.out.trans (b1.mono HB.out.size))
      have HK1 := Lib.hid (blk_keep HB1.out b1 (by simp))
      obtain ⟨c0, c1, c2⟩ := blk_cell3 (blk_keep HB0.out b1 (by simp; omega))
      clear b1
      go_wp2_with fail
      refine (E1.out _).mono ?_
      rintro e w2 ⟨rfl, rfl⟩
      have KZ := HK1.out
      obtain ⟨r0, r1, r2⟩ := blk_cell3 KZ
      obtain ⟨s0, s1, s2⟩ := blk_froz3 KZ
      have Z := blk_all3 (x := .int .i64 0) (y := .int .i64 0) (z := .slice none 0 0) KZ
      obtain ⟨z0, z1, z2⟩ := blk_cell3 Z
      have Z0 := Lib.hid z0
      have Z1 := Lib.hid z1
      have Z2 := Lib.hid z2
      have HTF := Lib.hid (below_all3 HT.out (b := w.heap.size + 1) (by omega) (.int .i64 0) (.int .i64 0) (.slice none 0 0))
      clear Z z0 z1 z2 KZ
      go_wp2
      refine bodyPost_ret (v := .tuple #[.agg #[.int .i64 0, .int .i64 0, .slice none 0 0], .bool false]) (by simp [results, Try.results47, go_sem, Z0.out, Z1.out, Z2.out]) rfl (cirR_no HN.out HD.out HTF.out)
    | true =>
      have hkb := (inR_iff k 0 ((l.length : Int) - 1)).1 hm
      have h12 := (cirV_parts hk).2.2.2
      rw [hk] at E0
      rw [hm] at E1
      rw [hk, hm] at hd
      have HD : Hid (rcOk L S l k = true) := Lib.hid (by rw [hd]; rfl)
      have HY := Lib.hid (rc_yes HD.out)
      obtain ⟨n, rfl⟩ : ∃ n : Nat, k = n := ⟨k.toNat, by omega⟩
      rw [Int.toNat_natCast] at HY
      have hnl : n < l.length := by omega
      obtain ⟨rfl, hla, hlm⟩ := HA.out (by omega)
      have q2 : IntKind.i64.wrap ((n : Int) + 1) = (n : Int) + 1 := IntWalk.i64_in _ (by omega)
      have HLEN : Hid ((l.take n ++ l.drop (n + 1)).length = l.length - 1) := Lib.hid (by simp; omega)
      clear hk hm hd
      go_enter Try.func47, Try.ntmps47
      go_wp2_with fail
      refine (E0.out _ _ (HR.out.below HB.out rfl)).mono ?_
      rintro e w1 ⟨rfl, b1⟩
      have HT := Lib.hid (HB.out.trans (b1.mono HB.out.size))
      have HK1 := Lib.hid (blk_keep HB1.out b1 (by simp))
      have HK0 := Lib.hid (blk_keep HB0.out b1 (by simp; omega))
      have hs1 : w.heap.size + 2 ≤ w1.heap.size := by have := b1.size; simpa using this
      clear b1
      obtain ⟨c0, c1, c2⟩ := blk_cell3 HK0.out
      go_wp2_with fail
      refine (E1.out _).mono ?_
      rintro e w2 ⟨rfl, rfl⟩
      go_wp2_with fail
      refine (cloneI_c _ l _ (HR.out.below HT.out rfl) (by omega)).mono ?_
      rintro e w3 ⟨g, rfl, o3, b3⟩
      rcases own_form o3 with ⟨hz, rfl⟩ | ⟨g, gc, rfl, hBg, hgw, hnc, hcm⟩
      · exact absurd hz (by omega)
      · have HT3 := Lib.hid (HT.out.trans (b3.mono HT.out.size))
        have HK3 := Lib.hid (blk_keep HK1.out b3 (by omega))
        have HK4 := Lib.hid (blk_keep HK0.out b3 (by omega))
        have hs3 := b3.size
        clear c0 c1 c2 b3
        go_wp2_with fail
        refine (deleteI_c g gc n l _ _ o3 hnl (by omega)).mono ?_
        rintro e w4 ⟨rfl, o4, g4⟩
        have HT4 := Lib.hid (HT3.out.grown g4 HT3.out.size (fun j hj => by cases hj; omega))
        have HK5 := Lib.hid ((g4.block (w.heap.size + 1) (by omega) (fun e => by cases e; omega)).trans HK3.out)
        obtain ⟨c0, c1, c2⟩ := blk_cell3 ((g4.block w.heap.size (by omega) (fun e => by cases e; omega)).trans HK4.out)
        have HO4 := Lib.hid (own_by (b := w.heap.size + 1) (own_mono o4 (show w.heap.size ≤ w2.heap.size by omega)) (grown_all3 w4 (w.heap.size + 1) (.int .i64 L) (.int .i64 S) (.slice (some ⟨g, 0, none⟩) (l.length - 1) gc)) (fun h => by simp [Value.ownBlock] at h; omega))
        clear o3 o4 g4
        have KZ := HK5.out
        obtain ⟨r0, r1, r2⟩ := blk_cell3 KZ
        obtain ⟨s0, s1, s2⟩ := blk_froz3 KZ
        have Z := blk_all3 (x := .int .i64 L) (y := .int .i64 S) (z := .slice (some ⟨g, 0, none⟩) (l.length - 1) gc) KZ
        obtain ⟨z0, z1, z2⟩ := blk_cell3 Z
        have Z0 := Lib.hid z0
        have Z1 := Lib.hid z1
        have Z2 := Lib.hid z2
        have HTF := Lib.hid (below_all3 HT4.out (b := w.heap.size + 1) (by omega) (.int .i64 L) (.int .i64 S) (.slice (some ⟨g, 0, none⟩) (l.length - 1) gc))
        clear Z z0 z1 z2 KZ
        go_wp2
        refine bodyPost_ret (v := .tuple #[.agg #[.int .i64 L, .int .i64 S, .slice (some ⟨g, 0, none⟩) (l.length - 1) gc], .bool true]) (by simp [results, Try.results47, go_sem, Z0.out, Z1.out, Z2.out]) rfl (⟨_, by rw [HY.out.1, HY.out.2.1, HD.out], by rw [HY.out.2.2, HLEN.out]; exact HO4.out, HTF.out⟩)
end Go.Proofs.Ytmmjbdffpgohdaa
