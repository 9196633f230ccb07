/- Queues with groups: impl.SplitGroups. Condition: sizes. -/
import Derived.Test.YtkjdkfoeolcnkaaQuH
namespace Go.Proofs.Ytkjdkfoeolcnkaa
open Go.RowKit
set_option linter.unusedVariables false
theorem sp_yes {l : List Gro} {s : Int} (h1 : isQ l = true) (h2 : inR s 1 10 = true) : spOk l s = decide ((sp13 s l).length ≤ 12) := by unfold spOk; rw [h1, h2]; rfl
theorem spV_yes {l : List Gro} {s : Int} (h : spOk l s = true) : spV l s = sp13 s l := by unfold spV; rw [h]; rfl
theorem spV_no {l : List Gro} {s : Int} (h : spOk l s = false) : spV l s = [] := by unfold spV; rw [h]; rfl
theorem sp_q {l : List Gro} {s : Int} (h : isQ l = false) : spOk l s = false := by unfold spOk; rw [h]; rfl
theorem sp_s {l : List Gro} {s : Int} (h : inR s 1 10 = false) : spOk l s = false := by unfold spOk; rw [h, Bool.and_false]; rfl
/-- What is left of a group behind j full cabins. -/
structure RemIs (s : Int) (D : Gro) (R : Nat → Int) (m : Nat) : Prop where
  zero : R 0 = D.z
  succ : ∀ j, R (j + 1) = R j - s
  more : ∀ j, j < m → s < R j
  last : ¬ s < R m
  pos : ∀ j, j ≤ m → 1 ≤ R j ∧ R j ≤ 8
  past : R (m + 1) ≤ 0
  split : pt13 s D = pf13 s D m ++ [⟨R m, D.q⟩]
  le : m ≤ 7
theorem rem_is {s : Int} {D : Gro} (hs : 1 ≤ s ∧ s ≤ 10) (hz : 1 ≤ D.z ∧ D.z ≤ 8) : ∃ R m, RemIs s D R m ∧ m = pc13 s D.z := by
  have hsu : ∀ j : Nat, D.z - ((j + 1 : Nat) : Int) * s = D.z - (j : Int) * s - s := fun j => by rw [Int.natCast_succ, Int.add_mul]; omega
  have hl := pc13_last hs.1 hz.1
  refine ⟨fun j => D.z - (j : Int) * s, pc13 s D.z, ⟨by simp, hsu, fun j hj => (pc13_more hs.1 hz.1 hj).1, ?_, fun j hj => ?_, ?_, rfl, ?_⟩, rfl⟩
  · omega
  · have h1 := pc13_nn (j := j) hs.1
    by_cases e : j = pc13 s D.z
    · subst e; omega
    · have := (pc13_more (j := j) hs.1 hz.1 (by omega)).1
      omega
  · rw [hsu]; omega
  · have := pc13_le hs.1 hz.1; omega
set_option maxRecDepth 100000 in
set_option maxHeartbeats 4000000 in
theorem implSplitGroups_c (v : Value) (l : List Gro) (s : Int) (w : World) (hr : Rs w v l.length (gros l)) (hn : l.length ≤ 1048576) :
    Calls Try.prog 32 #[v, .int .i64 s] w fun e w' => ∃ g, e = .returned (.tuple #[g, .bool (spOk l s)]) ∧ w'.ownsRow w.heap.size 34 2 g (spV l s).length (gros (spV l s)) ∧ Below w.heap.size w w' := by
  obtain ⟨i0, hi, hz0, hz1, hz2⟩ := info_parts Try.infoGro
  have E0 := Lib.hid (implIsQueue_c v l w hr hn)
  have E1 := Lib.hid (fun W => areSeats_c s W)
  obtain ⟨ao, a, oa, ca, rfl, hao, hat⟩ := hr.form_Gro
  have HA := Lib.hid hao
  have HL := Lib.hid hat
  clear hr hao hat
  cases hq : isQ l with
  | false =>
    rw [hq] at E0
    have HOK := Lib.hid (sp_q (s := s) hq)
    have HV := Lib.hid (spV_no HOK.out)
    clear hq
    rw [HV.out, HOK.out]
    go_enter Try.func32, Try.ntmps32
    go_wp2_with fail
    refine (E0.out).mono ?_
    rintro e w1 ⟨rfl, b1⟩
    have HB1 := Lib.hid b1
    have hs1 := b1.size
    clear b1
    go_wp2
    go_ret2
    exact ⟨_, rfl, World.ownsRow_made w1 #[] 0 hs1 (by decide) rfl, HB1.out.alloc hs1 _⟩
  | true =>
    rw [hq] at E0
    cases hs : inR s 1 10 with
    | false =>
      rw [hs] at E1
      have HOK := Lib.hid (sp_s (l := l) hs)
      have HV := Lib.hid (spV_no HOK.out)
      clear hq hs
      rw [HV.out, HOK.out]
      go_enter Try.func32, Try.ntmps32
      go_wp2_with fail
      refine (E0.out).mono ?_
      rintro e w1 ⟨rfl, b1⟩
      have HB1 := Lib.hid b1
      have hs1 := b1.size
      clear b1
      go_wp2_with fail
      refine (E1.out _).mono ?_
      rintro e w2 ⟨rfl, rfl⟩
      go_wp2
      go_ret2
      exact ⟨_, rfl, World.ownsRow_made _ #[] 0 hs1 (by decide) rfl, HB1.out.alloc hs1 _⟩
    | true =>
      rw [hs] at E1
      have HOK := Lib.hid (sp_yes hq hs)
      have hs' := (inR_iff _ _ _).1 hs
      have hl12 := is_len hq
      have HZ := Lib.hid (fun k (hk : k < l.length) => is_bd hq k hk)
      have HLN : Hid (∀ k, k ≤ l.length → (sp13 s (l.take k)).length ≤ 96) := Lib.hid (fun k hk => by
        have := sp13_len hs'.1 (l := l.take k) fun x hx => isQ_mem hq x (List.mem_of_mem_take hx)
        rw [List.length_take] at this
        omega)
      have HSY := Lib.hid (spV_yes (l := l) (s := s))
      have HSN := Lib.hid (spV_no (l := l) (s := s))
      clear hq hs
      go_enter Try.func32, Try.ntmps32
      go_wp2_with fail
      refine (E0.out).mono ?_
      rintro e w1 ⟨rfl, b1⟩
      have HB1 := Lib.hid b1
      have hs1 := b1.size
      have HL1 := Lib.hid (fun W (h : Below w1.heap.size w1 W) (ha : a < w.heap.size) => (HL.out.below b1 ha).below h (by omega))
      clear b1
      go_wp2_with fail
      refine (E1.out _).mono ?_
      rintro e w2 ⟨rfl, rfl⟩
      go_wp2
      go_loopw [6, 21] (fun o i wr => ∃ k : Nat, k ≤ l.length ∧ i = .int .i64 k ∧ wr.ownsRow w2.heap.size 34 2 o (sp13 s (l.take k)).length (gros (sp13 s (l.take k))) ∧ Hid (Below w2.heap.size w2 wr)) (fun _ i _ => l.length - (intOf i).toNat)
      case atStart => exact ⟨0, by omega, rfl, World.ownsRow_made w2 #[] 0 (Nat.le_refl _) (by decide) rfl, Lib.hid ((Below.refl _ _).alloc (Nat.le_refl _) _)⟩
      case round =>
        obtain ⟨k, hk, rfl, hown, hbel⟩ := hrel
        by_cases hlt : k < l.length
        · obtain ⟨rfl, hla, hlm⟩ := HA.out (by omega)
          obtain ⟨c0, c1⟩ := (HL1.out wr hbel.out hla) k hlt
          have hbs := hbel.out.size
          obtain ⟨R, m, hR, _⟩ := rem_is hs' (D := gth l k) (HZ.out k hlt)
          have HR := Lib.hid hR
          have hm7 := hR.le
          have hA := HLN.out k hk
          have HTK := Lib.hid (sp13_take (s := s) hlt)
          rw [hR.split] at HTK
          clear hR
          have HB2 := Lib.hid (hbel.out.alloc hbel.out.size (.cells #[.int .i64 (gth l k).z, .bool (gth l k).q] 34))
          have HO2 := Lib.hid (hown.alloc (.cells #[.int .i64 (gth l k).z, .bool (gth l k).q] 34))
          have HP2 : Hid ((wr.alloc (.cells #[.int .i64 (gth l k).z, .bool (gth l k).q] 34)).heap[wr.heap.size]? = some (.cells #[.int .i64 (gth l k).z, .bool (gth l k).q] 34 (0, 0))) := Lib.hid (heap_alloc_new _ _)
          have HNB : Hid (¬ Value.ownBlock _ = some wr.heap.size) := Lib.hid (fun e => absurd (hown.lt _ e).2 (Nat.lt_irrefl _))
          generalize sp13 s (l.take k) = A0 at *
          generalize gth l k = D at *
          go_upto_region 7 with fail
          generalize hP : wr.heap.size = P at *
          generalize wr.alloc (.cells #[.int .i64 D.z, .bool D.q] 34) = w3 at *
          clear hown c0 c1 hP
          go_wp2
          go_loopw [6] (fun o wx => ∃ j : Nat, j ≤ m ∧ Hid (wx.ownsRow w2.heap.size 34 2 o (A0.length + j) (gros (A0 ++ pf13 s D j))) ∧ Hid (o.ownBlock ≠ some P) ∧ Hid (wx.heap[P]? = some (.cells #[.int .i64 (R j), .bool D.q] 34 (0, 0))) ∧ Hid (Below w2.heap.size w2 wx)) (fun o _ => (A0.length + m) - sl13 o)
          case atStart => exact ⟨0, by omega, Lib.hid (by rw [show pf13 s D 0 = [] from rfl, List.append_nil]; exact HO2.out), Lib.hid HNB.out, Lib.hid (by rw [HR.out.zero]; exact HP2.out), HB2⟩
          case round =>
            obtain ⟨j, hj, hown, hnb, hbox, hbel⟩ := hrel
            have hbs := hbel.out.size
            have hPl : P < wr.heap.size := blk_lt hbox.out
            obtain ⟨d0, d1⟩ := blk_cell2 hbox.out
            obtain ⟨r1, r2⟩ := HR.out.pos j hj
            by_cases hjm : j < m
            · have hmore := HR.out.more j hjm
              have HSU := Lib.hid (HR.out.succ j)
              have HPF : Hid (gros (A0 ++ pf13 s D (j + 1)) = gros (A0 ++ pf13 s D j) ++ [.int .i64 s, .bool D.q]) := Lib.hid (by rw [pf13_succ, ← List.append_assoc, gros_snoc])
              obtain ⟨oa1, oc1, ho1⟩ := (Rs.of_own hown.out).shape
              subst ho1
              generalize R j = E at *
              have t3 : decide (s < E) = true := by simpa using hmore
              go_wp2_with (at_builtin; go_loud (refine wpList_append_any _ rfl _ _ 24 rfl w2.heap.size 34 i0 (.agg #[.int .i64 0, .bool false]) 2 16 Try.underlying24 hi hz0 hz1 hz2 rfl (by decide) _ _ _ rfl (hown.out.alloc _) (some ⟨wr.heap.size, 0, none⟩) 1 1 [.int .i64 s, .bool D.q] rfl rfl (fun _ => ⟨_, rfl, World.news_of_block (cs := #[.int .i64 s, .bool D.q]) (t := 34) (fr := (0, 0)) (heap_alloc_new wr _)⟩) (by simp [Value.oneCell']) (by unfold maxLen; omega) (by omega) (by simp; omega) ?_; intro v4 w4 hown4 hgrow4 hat4; have HB4 := Lib.hid ((hbel.out.alloc hbs _).grown hgrow4 (by simp; omega) (fun y hy => (hown.out.lt y hy).1)); have HBX4 : Hid (w4.heap[P]? = some (.cells #[.int .i64 E, .bool D.q] 34 (0, 0))) := Lib.hid ((hgrow4.block P (by simp; omega) (fun e => hnb.out e.symm)).trans ((heap_alloc_old wr _ hPl).trans hbox.out)); have HNB4 : Hid (v4.ownBlock ≠ some P) := Lib.hid (fun e => by rcases hat4 with h | h; exact hnb.out (h.symm.trans e); (rw [h] at e; simp at e; omega)); obtain ⟨va4, vc4, hv4⟩ := (Rs.of_own hown4).shape; subst hv4; obtain ⟨x0, x1⟩ := blk_cell2 HBX4.out; obtain ⟨f0, f1⟩ := blk_froz2 HBX4.out; have HO4 := Lib.hid hown4; clear hown4 hgrow4 hat4))
              have HP5 := Lib.hid (blk_put (i := 0) (v := .int .i64 (E - s)) HBX4.out)
              have HO5 := Lib.hid (own_by HO4.out (grown_put w4 ⟨P, 0, none⟩ (.int .i64 (E - s))) HNB4.out)
              have HB5 := Lib.hid (HB4.out.grown (grown_put w4 ⟨P, 0, none⟩ (.int .i64 (E - s))) HB4.out.size (fun y hy => by simp at hy; omega))
              have hE1 : 0 ≤ E - s ∧ E - s ≤ 8 := by omega
              go_wp2
              go_roundw
              case rel => exact ⟨j + 1, by omega, Lib.hid (by rw [HPF.out]; exact HO5.out), HNB4, Lib.hid (by rw [HSU.out]; exact HP5.out), HB5⟩
              case measure => simp [sl13]; omega
            · obtain rfl : j = m := by omega
              have hlast := HR.out.last
              generalize R j = E at *
              have t3 : decide (s < E) = false := by simp; omega
              obtain ⟨oa1, oc1, ho1⟩ := (Rs.of_own hown.out).shape
              subst ho1
              go_wp2_with (at_builtin; go_loud (refine wpList_append_any _ rfl _ _ 24 rfl w2.heap.size 34 i0 (.agg #[.int .i64 0, .bool false]) 2 16 Try.underlying24 hi hz0 hz1 hz2 rfl (by decide) _ _ _ rfl (hown.out.alloc _) (some ⟨wr.heap.size, 0, none⟩) 1 1 [.int .i64 E, .bool D.q] rfl rfl (fun _ => ⟨_, rfl, World.news_of_block (cs := #[.int .i64 E, .bool D.q]) (t := 34) (fr := (0, 0)) (heap_alloc_new wr _)⟩) (by simp [Value.oneCell']) (by unfold maxLen; omega) (by omega) (by simp; omega) ?_; intro v4 w4 hown4 hgrow4 hat4; have HB4 := Lib.hid ((hbel.out.alloc hbs _).grown hgrow4 (by simp; omega) (fun y hy => (hown.out.lt y hy).1)); have HO4 := Lib.hid hown4; clear hown4 hgrow4 hat4))
              have HG : Hid (gros (A0 ++ (pf13 s D j ++ [⟨E, D.q⟩])) = gros (A0 ++ pf13 s D j) ++ [.int .i64 E, .bool D.q]) := Lib.hid (by rw [← List.append_assoc, gros_snoc])
              have HLL : Hid ((A0 ++ (pf13 s D j ++ [(⟨E, D.q⟩ : Gro)])).length = A0.length + j + 1) := Lib.hid (by simp [pf13_len]; omega)
              go_wp2
              go_roundw
              case rel => exact ⟨k + 1, by omega, by go_num, by rw [HTK.out, HG.out, HLL.out]; exact HO4.out, HB4⟩
              case measure => simp [intOf]; omega
        · obtain rfl : k = l.length := by omega
          rw [List.take_length] at hown
          cases hok : decide ((sp13 s l).length ≤ 12) with
          | false =>
            have HOK2 : Hid (spOk l s = false) := Lib.hid (by rw [HOK.out]; exact hok)
            have HV := Lib.hid (HSN.out HOK2.out)
            obtain ⟨xa, xc, hx⟩ := (Rs.of_own hown).shape
            subst hx
            have hgt : 12 < (sp13 s l).length := by simpa using hok
            clear hown hok
            generalize (sp13 s l).length = n at *
            go_wp2
            go_ret2
            rw [HV.out, HOK2.out]
            exact ⟨_, rfl, World.ownsRow_made _ #[] 0 (by have := hbel.out.size; omega) (by decide) rfl, (HB1.out.trans (hbel.out.mono hs1)).alloc (by have := hbel.out.size; omega) _⟩
          | true =>
            have HOK2 : Hid (spOk l s = true) := Lib.hid (by rw [HOK.out]; exact hok)
            have HV := Lib.hid (HSY.out HOK2.out)
            have HO := Lib.hid hown
            obtain ⟨xa, xc, hx⟩ := (Rs.of_own hown).shape
            subst hx
            have hgt : (sp13 s l).length ≤ 12 := by simpa using hok
            clear hown hok
            generalize sp13 s l = SL at *
            go_wp2
            go_ret2
            rw [HV.out, HOK2.out]
            exact ⟨_, rfl, own_mono HO.out hs1, HB1.out.trans (hbel.out.mono hs1)⟩
end Go.Proofs.Ytkjdkfoeolcnkaa
