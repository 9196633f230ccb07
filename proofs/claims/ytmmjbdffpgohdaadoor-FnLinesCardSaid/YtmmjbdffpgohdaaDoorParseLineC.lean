/- ParseLine, the program's. Condition: the library's listed variables are as laid. -/
import Derived.Test.YtmmjbdffpgohdaaDoorParsePlain
import Derived.Deep.AppendLies
import Derived.Deep.Onto
namespace Go.Proofs.YtmmjbdffpgohdaaDoor
open Go.RowKit
set_option linter.unusedVariables false
theorem Tryd.infoSup' : (Tryd.prog.info? 33).map (fun i => (i.zero, i.size, i.bytes)) = some (some (.agg #[.int .i64 0, .int .i64 0, .bool false]), 3, 24) := Tryd.infoSup
set_option maxRecDepth 100000 in
set_option maxHeartbeats 4000000 in
theorem implParseLine_c (s : ByteArray) (w : World) (hs : s.size ≤ maxLen) (hv : Vars w) :
    Calls Tryd.prog 14 #[.string s] w fun e w' => ∃ g, e = .returned (.tuple #[g, .bool (plOk s)]) ∧ w'.ownsRow w.heap.size 33 3 g (plL s).length (sups (plL s)) ∧ Below w.heap.size w w' := by
  obtain ⟨i0, hi, hz0, hz1, hz2⟩ := info_parts Tryd.infoSup
  by_cases hbig : 4000 < s.size
  · obtain ⟨h1, h2⟩ := pl_big (s := s) (by omega)
    rw [h1, h2]
    clear h1 h2 hv
    go_enter Tryd.func14, Tryd.ntmps14
    go_wp2_with fail
    refine (SplitString_no s ⟨#[32]⟩ _ hs (by decide) (.inl hbig)).mono ?_
    rintro e w1 ⟨v, rfl, o, b1⟩
    have B1 := Lib.hid b1
    clear o b1
    go_wp2_with fail
    go_ret2
    exact ⟨_, rfl, World.ownsRow_made w1 #[] 0 B1.out.size (by decide) rfl, B1.out.alloc B1.out.size _⟩
  · have hW : Hid (∀ W, Below w.heap.size w W → Vars W) := Lib.hid (fun W hW => hv.below hW)
    have hsz : s.size ≤ 4000 := by omega
    have hlen := splitAll_len 32 s
    clear hv hbig
    go_enter Tryd.func14, Tryd.ntmps14
    go_wp2_with fail
    refine (SplitString_yes s ⟨#[32]⟩ 32 _ hsz (by decide) rfl rfl).mono ?_
    rintro e w1 ⟨v, rfl, o, b1⟩
    have hsh : ∃ a cap, v = .slice a (splitAll 32 s).length cap := by
      rcases own_cases o with ⟨h0, _, a, cap, rfl⟩ | ⟨g, cap, rfl, _⟩
      · omega
      · exact ⟨_, _, rfl⟩
    obtain ⟨va, vc, rfl⟩ := hsh
    have hpos : 0 < (splitAll 32 s).length := by omega
    have HR : Hid (Rd w1 (.slice va (splitAll 32 s).length vc) ((splitAll 32 s).map Value.string)) := Lib.hid (Rd.of_own o)
    obtain ⟨g1, rfl, hg1⟩ : ∃ g, va = some ⟨g, 0, none⟩ ∧ g < w1.heap.size := by
      rcases own_cases o with ⟨h0, _, _⟩ | ⟨g, cap, h, _, hg, _⟩
      · omega
      · simp at h; exact ⟨g, h.1, hg⟩
    have HC : Hid (∀ W, Below w1.heap.size w1 W → ∀ k (h : k < (splitAll 32 s).length), W.cell? ⟨g1, k, none⟩ = some (.string (splitAll 32 s)[k])) := Lib.hid (fun W hb k h => by
      have h1 := (hb.cell (p := ⟨g1, k, none⟩) hg1)
      rw [h1]
      exact (o.cellAt k (by omega)).trans (by simp [h]))
    have B1 := Lib.hid b1
    have hs1 := b1.size
    have HWz : Hid (∀ k (h : k < (splitAll 32 s).length), (splitAll 32 s)[k].size ≤ 4000) := Lib.hid (fun k h => by have := split_size 32 s (List.getElem_mem h); omega)
    have HNW : Hid (∀ k (h : k < (splitAll 32 s).length), ¬ Txt (splitAll 32 s)[k] → plOk s = false ∧ plL s = []) := Lib.hid (fun k h hx => pl_no (no_word h hx))
    have HST : Hid (∀ (l : List Sup) (k : Nat) (x : Sup) (hk : k < (splitAll 32 s).length), RdTo s l k → supT x = (splitAll 32 s)[k] → RdTo s (l ++ [x]) (k + 1)) := Lib.hid (fun l k x hk h hx => rdTo_step h hk hx)
    have HLn : Hid (∀ (l : List Sup) (k : Nat), k ≤ (splitAll 32 s).length → RdTo s l k → l.length = k) := Lib.hid (fun l k hk h => rdTo_len h hk)
    have HAll : Hid (∀ l : List Sup, RdTo s l (splitAll 32 s).length → lineT l = s) := Lib.hid (fun l h => rdTo_all h)
    have H0 : Hid (RdTo s [] 0) := Lib.hid (by simp [RdTo, txts])
    clear o b1 HR
    go_wp2_with fail
    go_loopw [6, 22] (fun v6 i wr => ∃ (k : Nat) (l : List Sup), k ≤ (splitAll 32 s).length ∧ i = .int .i64 k ∧ Hid (RdTo s l k) ∧ Hid (wr.ownsRow w1.heap.size 33 3 v6 k (sups l)) ∧ Hid (Below w1.heap.size w1 wr)) (fun _ i _ => (splitAll 32 s).length - (intOf i).toNat)
    case atStart => exact ⟨0, [], Nat.zero_le _, rfl, H0, Lib.hid (World.ownsRow_made w1 #[] 0 (Nat.le_refl _) (by decide) rfl), Lib.hid ((Below.refl _ _).alloc (Nat.le_refl _) _)⟩
    case round =>
      obtain ⟨k, l, hk, rfl, HT, HO, HB⟩ := hrel
      have TB := Lib.hid (B1.out.trans (HB.out.mono hs1))
      by_cases hlt : k < (splitAll 32 s).length
      · obtain ⟨x, b, hx⟩ := pick_txt ((splitAll 32 s)[k])
        have HX := Lib.hid hx
        have c0 := HC.out _ HB.out k hlt
        have hzk := HWz.out k hlt
        have hno := Lib.hid (HNW.out k hlt)
        have hst := Lib.hid (fun h => HST.out l k x hlt HT.out h)
        clear hx
        generalize (splitAll 32 s)[k] = t at *
        go_wp2_with fail
        refine (parseSupport_c t x b _ hzk (hW.out _ TB.out) HX.out).mono ?_
        rintro e w2 ⟨rfl, b2⟩
        unfold SupRes
        have O2 := Lib.hid (owns_below HO.out b2)
        have HB2 := Lib.hid (HB.out.trans (b2.mono HB.out.size))
        have TB2 := Lib.hid (TB.out.trans (b2.mono TB.out.size))
        clear b2 c0 HO HB TB
        cases b with
        | false =>
          obtain ⟨e1, e2⟩ : plOk s = false ∧ plL s = [] := by
            rcases HX.out with ⟨h, _⟩ | ⟨_, _, h⟩
            · cases h
            · exact hno.out h
          have HE := Lib.hid (And.intro e1 e2)
          clear e1 e2
          go_wp2
          go_ret2
          refine ⟨_, by rw [HE.out.1]; rfl, ?_, (TB2.out.alloc TB2.out.size _).alloc (by have := TB2.out.size; simp; omega) _⟩
          rw [HE.out.2]
          have hz9 : (w2.alloc (.cells #[.int .i64 x.a, .int .i64 x.h, .bool x.s] 33)).heap.size = w2.heap.size + 1 := by simp
          have h9 := World.ownsRow_made (base := w.heap.size) (e := 33) (size := 3) (w2.alloc (.cells #[.int .i64 x.a, .int .i64 x.h, .bool x.s] 33)) #[] 0 (by rw [hz9]; have := TB2.out.size; omega) (by decide) rfl
          rw [hz9] at h9
          exact h9
        | true =>
          have hsup : Hid (RdTo s (l ++ [x]) (k + 1)) := Lib.hid (by
            rcases HX.out with ⟨_, _, h⟩ | ⟨h, _⟩
            · exact hst.out h
            · cases h)
          have hown2 := (O2.out.alloc (.cells #[.int .i64 x.a, .int .i64 x.h, .bool x.s] 33)).alloc (.cells #[.int .i64 x.a, .int .i64 x.h, .bool x.s] 33)
          have hsz2 := TB2.out.size
          have hsz3 := HB2.out.size
          have hnb : ((w2.alloc (.cells #[.int .i64 x.a, .int .i64 x.h, .bool x.s] 33)).alloc (.cells #[.int .i64 x.a, .int .i64 x.h, .bool x.s] 33)).heap[w2.heap.size + 1]? = some (.cells #[.int .i64 x.a, .int .i64 x.h, .bool x.s] 33 (0, 0)) := by
            have h9 := heap_alloc_new (w2.alloc (.cells #[.int .i64 x.a, .int .i64 x.h, .bool x.s] 33)) (.cells #[.int .i64 x.a, .int .i64 x.h, .bool x.s] 33)
            simpa using h9
          have HNB := Lib.hid hnb
          clear hnb
          go_wp2_with (at_builtin; go_loud (refine wpList_append_own _ rfl _ _ 24 rfl w1.heap.size 33 i0 (.agg #[.int .i64 0, .int .i64 0, .bool false]) 3 24 Tryd.underlying24 hi hz0 hz1 hz2 rfl (by decide) _ _ _ rfl hown2 ⟨w2.heap.size + 1, 0, none⟩ 1 1 [.int .i64 x.a, .int .i64 x.h, .bool x.s] rfl rfl (World.news_of_block (cs := #[.int .i64 x.a, .int .i64 x.h, .bool x.s]) (t := 33) (fr := (0, 0)) HNB.out) (by simp [Value.oneCell']) (by unfold maxLen; omega) (by omega) (by simp; omega) ?_; intro v' w3 hown' hgrow _))
          go_roundw
          case rel =>
            refine ⟨k + 1, l ++ [x], by omega, by go_num, hsup, Lib.hid ?_, Lib.hid ?_⟩
            · rw [sups_append, sups_one]; exact hown'
            · exact ((HB2.out.alloc HB2.out.size _).alloc (by have := HB2.out.size; simp; omega) _).grown hgrow (by have := HB2.out.size; simp; omega) (fun j hj => (hown2.lt j hj).1)
          case measure => simp [intOf]; omega
      · obtain rfl : k = (splitAll 32 s).length := by omega
        have hll := HLn.out l _ (Nat.le_refl _) HT.out
        have hlt' := Lib.hid (HAll.out l HT.out)
        have O3 : Hid (Rs wr u6 l.length (sups l)) := Lib.hid (by rw [hll]; exact Rs.of_own HO.out)
        have HLL := Lib.hid hll
        clear hll
        go_wp2_with fail
        refine (implIsLine_c _ l _ O3.out (by rw [HLL.out]; omega)).mono ?_
        rintro e w2 ⟨rfl, b2⟩
        have O4 := Lib.hid (owns_below HO.out b2)
        have TB2 := Lib.hid (TB.out.trans (b2.mono TB.out.size))
        clear b2
        cases hb : isL l with
        | true =>
          have hp := pl_yes (s := s) (l := l) ⟨isL_yes hb, hlt'.out⟩
          have HE := Lib.hid hp
          clear hp hb
          go_wp2
          go_ret2
          refine ⟨_, by rw [HE.out.1]; rfl, ?_, TB2.out⟩
          rw [HE.out.2, HLL.out]
          exact World.ownsRow.mono O4.out hs1
        | false =>
          have hp := pl_no (s := s) (fun m hm => by
            have h1 := words_of hm
            have h2 : txts l = splitAll 32 s := by have := HT.out; unfold RdTo at this; rw [List.take_length] at this; exact this
            have h3 : l = m := txts_inj (h2.trans h1)
            exact isL_no hb (h3 ▸ hm.1))
          have HE := Lib.hid hp
          clear hp hb
          go_wp2
          go_ret2
          refine ⟨_, by rw [HE.out.1]; rfl, ?_, TB2.out.alloc TB2.out.size _⟩
          rw [HE.out.2]
          exact World.ownsRow_made _ #[] 0 TB2.out.size (by decide) rfl
end Go.Proofs.YtmmjbdffpgohdaaDoor
