/- Queues with groups: spec.AfterCabin. Condition: sizes. -/
import Derived.Test.YtkjdkfoeolcnkaaQuK
namespace Go.Proofs.Ytkjdkfoeolcnkaa
open Go.RowKit
set_option linter.unusedVariables false
set_option maxRecDepth 100000 in
set_option maxHeartbeats 4000000 in
theorem specAfterCabin_c (v : Value) (l : List Gro) (s : Int) (w : World) (hr : Rs w v l.length (gros l)) (hn : l.length ≤ 1048576) :
    Calls Try.prog 26 #[v, .int .i64 s] w fun e w' => ∃ g, e = .returned (.tuple #[g, .int .i64 (apV l s), .bool (asQ l s)]) ∧ w'.ownsRow w.heap.size 34 2 g (afV l s).length (gros (afV l s)) ∧ Below w.heap.size w w' := by
  obtain ⟨i0, hi, hz0, hz1, hz2⟩ := info_parts Try.infoGro
  have HB0 := Lib.hid ((Below.refl w.heap.size w).alloc (Nat.le_refl _) (.cells #[] 34))
  have HO0 : Hid ((w.alloc (.cells #[] 34)).ownsRow w.heap.size 34 2 (.slice (some ⟨w.heap.size, 0, none⟩) 0 0) 0 []) := Lib.hid (World.ownsRow_made w #[] 0 (Nat.le_refl _) (by decide) rfl)
  have hz1s : w.heap.size < (w.alloc (.cells #[] 34)).heap.size := by simp
  have E0 := Lib.hid (l13Asked_c v l s _ (hr.below HB0.out rfl) hn)
  have E1 := Lib.hid (fun h => specFill_c v l s _ (hr.below HB0.out rfl) h)
  obtain ⟨ao, a, oa, ca, rfl, hao, hat⟩ := hr.form_Gro
  have HA := Lib.hid hao
  have HL := Lib.hid hat
  clear hr hao hat
  cases hb : asQ l s with
  | false =>
    rw [hb] at E0
    obtain ⟨y1, y2⟩ := af_no hb
    rw [y1, y2]
    clear hb y1 y2 E1
    go_enter Try.func26, Try.ntmps26
    go_wp2_with fail
    refine (E0.out).mono ?_
    rintro e w1 ⟨rfl, rfl⟩
    go_wp2
    go_ret3
    exact ⟨_, rfl, HO0.out, HB0.out⟩
  | true =>
    rw [hb] at E0
    have E1' := Lib.hid (E1.out hb)
    obtain ⟨y1, y2⟩ := af_yes hb
    rw [y1, y2]
    have hl12 : l.length ≤ 12 := is_len (as_is hb)
    have HBD := Lib.hid (fun k (hk : k ≤ l.length) => apK_bd (s := s) (as_is hb) hk)
    have HZ := Lib.hid (fun k (hk : k < l.length) => is_bd (as_is hb) k hk)
    have HHAS := Lib.hid (fun k (hk : k < l.length) => fl_has hb hk)
    have HF12 := flV_len l s
    have HAF : Hid (∀ k, (afK l s k).length ≤ k) := Lib.hid (fun k => gs13_le l _ k)
    clear hb y1 y2 E1
    generalize flV l s = FL at *
    go_enter Try.func26, Try.ntmps26
    go_upto_region 2 with fail
    generalize w.alloc (.cells #[] 34) = w0 at *
    go_wp2_with fail
    refine (E0.out).mono ?_
    rintro e wq ⟨rfl, rfl⟩
    go_wp2_with fail
    refine (E1'.out).mono ?_
    rintro e w1 ⟨g, rfl, o1, b1⟩
    have HB1 := Lib.hid (HB0.out.trans (b1.mono HB0.out.size))
    have HO1 := Lib.hid (own_below HO0.out b1)
    have hs1 := HB1.out.size
    have hs2 := b1.size
    have hap := Lib.hid (apt_new HO0.out o1 (Nat.le_refl _))
    have HF1 := Lib.hid o1
    clear b1 o1
    go_wp2
    go_loopw [7, 8, 10] (fun o pp i wr => ∃ k : Nat, k ≤ l.length ∧ i = .int .i64 k ∧ pp = .int .i64 (apK l s k) ∧ wr.ownsRow w.heap.size 34 2 o (afK l s k).length (gros (afK l s k)) ∧ Hid (wr.ownsRow wq.heap.size 3 1 g FL.length (intVs FL)) ∧ Hid (Apt13 g o) ∧ Hid (Below w.heap.size w wr)) (fun _ _ i _ => l.length - (intOf i).toNat)
    case atStart => exact ⟨0, by omega, rfl, by first | rfl | trivial, HO1.out, HF1, hap, HB1⟩
    case round =>
      obtain ⟨k, hk, rfl, rfl, hown, hinn, happ, hbel⟩ := hrel
      by_cases hlt : k < l.length
      · obtain ⟨rfl, hla, hlm⟩ := HA.out (by omega)
        obtain ⟨c0, c1⟩ := (HL.out.below hbel.out hla) k hlt
        have hbs := hbel.out.size
        have hz : 1 ≤ (gth l k).z ∧ (gth l k).z ≤ 8 := HZ.out k hlt
        obtain ⟨p1, p2⟩ := HBD.out k (by omega)
        have hkl := HAF.out k
        have HIN := Lib.hid (afK_in (l := l) (s := s) (k := k))
        have HOUT := Lib.hid (afK_out (l := l) (s := s) (k := k))
        have HH := HHAS.out k hlt
        have HC2 := Lib.hid (l1Has13_c g FL (k : Int) wr (Rd.of_own hinn.out) (by omega))
        have HGS := Lib.hid (gros_snoc (afK l s k) (gth l k))
        rw [HH] at HC2
        clear HH
        generalize in13 (szQ l) (qkQ l) l.length s k = bi at *
        generalize apK l s k = P0 at *
        generalize afK l s k = A0 at *
        generalize gth l k = D at *
        go_wp2_with fail
        refine (HC2.out).mono ?_
        rintro e w3 ⟨rfl, rfl⟩
        cases bi with
        | true =>
          obtain ⟨x1, x2⟩ := HIN.out rfl
          have HX1 := Lib.hid x1
          have HX2 := Lib.hid x2
          clear x1 x2
          go_wp2
          go_roundw
          case rel => exact ⟨k + 1, by omega, by go_num, by rw [HX2.out] <;> go_num, by rw [HX1.out]; exact hown, hinn, happ, hbel⟩
          case measure => simp [intOf]; omega
        | false =>
          obtain ⟨x1, x2⟩ := HOUT.out rfl
          have HX1 := Lib.hid x1
          have HX2 := Lib.hid x2
          clear x1 x2
          go_wp2_with (at_builtin; go_loud (refine wpList_append_any _ rfl _ _ 24 rfl w.heap.size 34 i0 (.agg #[.int .i64 0, .bool false]) 2 16 Try.underlying24 hi hz0 hz1 hz2 rfl (by decide) _ _ _ rfl (hown.alloc _) (some ⟨w3.heap.size, 0, none⟩) 1 1 [.int .i64 D.z, .bool D.q] rfl rfl (fun _ => ⟨_, rfl, World.news_of_block (cs := #[.int .i64 D.z, .bool D.q]) (t := 34) (fr := (0, 0)) (heap_alloc_new w3 _)⟩) (by simp [Value.oneCell']) (by unfold maxLen; omega) (by omega) (by simp; omega) ?_; intro v' w4 hown' hgrow hat; have HO4 := Lib.hid hown'; have HB4 := Lib.hid ((hbel.out.alloc hbs _).grown hgrow (by simp; omega) (fun j hj => (hown.lt j hj).1)); have HI4 := Lib.hid (own_apt (hinn.out.alloc _) hgrow happ.out); have HP4 : Hid (Apt13 g v') := Lib.hid (by rcases hat with h | h; exact apt_eq happ.out h; exact apt_lt hinn.out h (by simp)); clear hown' hgrow hat))
          go_roundw
          case rel => exact ⟨k + 1, by omega, by go_num, by rw [HX2.out], by rw [HX1.out, HGS.out, List.length_append]; exact HO4.out, HI4, HP4, HB4⟩
          case measure => simp [intOf]; omega
      · obtain rfl : k = l.length := by omega
        go_wp2
        go_ret3
        exact ⟨_, rfl, hown, hbel.out⟩
end Go.Proofs.Ytkjdkfoeolcnkaa
