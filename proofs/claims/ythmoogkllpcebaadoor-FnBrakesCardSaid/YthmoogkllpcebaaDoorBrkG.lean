/- Speeds and ways with a set of brakes: the program's and the specification's answer as one function. Condition: sizes; the library's table is as laid. -/
import Derived.Test.YthmoogkllpcebaaDoorBrkF
namespace Go.Proofs.YthmoogkllpcebaaDoor
open Go.RowKit
set_option linter.unusedVariables false
theorem sw10_no {L S : Int} {l : List Brk} {x : Int} (h : ask10 L S l x = false) (s : Nat) : sw10 L S l x s = false ∧ spR10 L S l x s = [] ∧ wy10 L S l x s = 0 := by
  have : sw10 L S l x s = false := by simp [sw10, h]
  simp [spR10, wy10, this]
theorem sw10_stay {L S : Int} {l : List Brk} {x : Int} {s : Nat} (h : stp10 L S l x s = false) : sw10 L S l x s = false ∧ spR10 L S l x s = [] ∧ wy10 L S l x s = 0 := by
  have : sw10 L S l x s = false := by simp [sw10, h]
  simp [spR10, wy10, this]
theorem sw10_yes {L S : Int} {l : List Brk} {x : Int} {s : Nat} (h : ask10 L S l x = true) (g : stp10 L S l x s = true) : sw10 L S l x s = true ∧ spR10 L S l x s = spL L (frS S l s) x (rd10 L S l x s) ∧ wy10 L S l x s = way10 L S l x s := by
  have : sw10 L S l x s = true := by simp [sw10, h, g]
  simp [spR10, wy10, this]
/-- The first second at which it stands. -/
theorem rd_is {m : Int} {fr : Nat → Int} {v : Int} {k : Nat} (hv : 0 ≤ v) (h0 : ∀ j, j < k → 0 < spK m fr v j) (hz : spK m fr v k = 0) : ∀ n, k ≤ n → rdK m fr v n = k := by
  intro n hn
  obtain ⟨h1, h2⟩ := rdK_at (m := m) (fr := fr) hv n
  have hle := rdK_le m fr v n
  by_cases e : rdK m fr v n < k
  · have := h0 _ e
    have := h2 (by omega)
    omega
  · by_cases e2 : k < rdK m fr v n
    · have := h1 k e2
      omega
    · omega
theorem stp_here {L S : Int} {l : List Brk} {x : Int} {s k : Nat} (hx : 0 ≤ x) (hk : k ≤ 60) (h0 : ∀ j, j < k → 0 < spK L (frS S l s) x j) (hz : spK L (frS S l s) x k = 0) : stp10 L S l x s = true ∧ rd10 L S l x s = k := by
  refine ⟨?_, rd_is hx h0 hz 60 hk⟩
  have := spK_stay hz (60 - k)
  rw [show k + (60 - k) = 60 by omega] at this
  simp [stp10, this]
theorem stp_not {L S : Int} {l : List Brk} {x : Int} {s : Nat} (h : 0 < spK L (frS S l s) x 60) : stp10 L S l x s = false := by
  unfold stp10
  rw [decide_eq_false_iff_not]
  omega
theorem spL_zero (m : Int) (fr : Nat → Int) (v : Int) : spL m fr v 0 = [v] := by simp [spL, spK]
theorem nxt_max (m v f : Int) : max (v + 10 * f / m) 0 = nxt m v f := by unfold nxt; split <;> omega
theorem nxt_most (m v f : Int) : (if v + 10 * f / m < 0 then 0 else v + 10 * f / m) = nxt m v f := rfl
theorem ret_v10 {g : Value} {a b : Bool} (h : a = b) : Ending.returned (.tuple #[g, .bool a]) = .returned (.tuple #[g, .bool b]) := by rw [h]
set_option maxRecDepth 100000 in
set_option maxHeartbeats 4000000 in
theorem speedsWith_c (L S : Int) (v : Value) (l : List Brk) (x U : Int) (s : Nat) (w : World) (hr : Rs w v l.length (brks l)) (hn : l.length ≤ 1048576) (hU : ask10 L S l x = true → U = (s : Int) ∧ s < 2 ^ l.length) (hT : BruP w) :
    Calls Tryd.prog 65 #[.agg #[.int .i64 L, .int .i64 S, v], .int .i64 x, .int .u64 U] w fun e w' => ∃ g, e = .returned (.tuple #[g, .bool (sw10 L S l x s)]) ∧ w'.ownsRow w.heap.size 3 1 g (spR10 L S l x s).length (intVs (spR10 L S l x s)) ∧ Below w.heap.size w w' := by
  obtain ⟨i0, hi, hz0, hz1, hz2⟩ := info_parts Tryd.infoIntR
  have HR := Lib.hid hr
  obtain ⟨a, ca, rfl⟩ := hr.shape
  clear hr
  have E0 := Lib.hid (fun W h => implIsDrive_c L S (.slice a l.length ca) l W h hn)
  have E1 := Lib.hid (fun W => within_c x 0 100 W)
  have HB := Lib.hid ((Below.refl w.heap.size w).alloc (Nat.le_refl _) (.cells #[.int .i64 L, .int .i64 S, .slice a l.length ca] 26))
  have HB0 := Lib.hid (blk_new3 w (.int .i64 L) (.int .i64 S) (.slice a l.length ca) 26)
  have HTB := Lib.hid (hT.below HB.out)
  have HUU := Lib.hid hU
  have hd : ask10 L S l x = (drvOk L S l && inR x 0 100) := rfl
  clear hU hT
  cases hk : drvOk L S l with
  | false =>
    rw [hk] at E0 hd
    have HX := Lib.hid (sw10_no hd s)
    clear hk hd
    go_enter Tryd.func65, Tryd.ntmps65
    go_wp2
    go_step3
    go_wp2_with fail
    refine (E0.out _ (HR.out.below HB.out rfl)).mono ?_
    rintro e w1 ⟨rfl, b1⟩
    have HT1 := Lib.hid (HB.out.trans (b1.mono HB.out.size))
    clear b1
    go_wp2
    try rw [Exit.noGoto_ret]
    go_ret2
    exact ⟨_, ret_v10 HX.out.1.symm, by rw [HX.out.2.1]; exact World.ownsRow_made _ #[] 0 HT1.out.size (by decide) rfl, HT1.out.alloc HT1.out.size _⟩
  | true =>
    cases hm : inR x 0 100 with
    | false =>
      rw [hk] at E0
      rw [hm] at E1
      rw [hk, hm] at hd
      have HX := Lib.hid (sw10_no hd s)
      clear hk hm hd
      go_enter Tryd.func65, Tryd.ntmps65
      go_wp2
      go_step3
      go_wp2_with fail
      refine (E0.out _ (HR.out.below HB.out rfl)).mono ?_
      rintro e w1 ⟨rfl, b1⟩
      have HT1 := Lib.hid (HB.out.trans (b1.mono HB.out.size))
      clear b1
      go_wp2_with fail
      refine (E1.out _).mono ?_
      rintro e w2 ⟨rfl, rfl⟩
      go_wp2
      try rw [Exit.noGoto_ret]
      go_ret2
      exact ⟨_, ret_v10 HX.out.1.symm, by rw [HX.out.2.1]; exact World.ownsRow_made _ #[] 0 HT1.out.size (by decide) rfl, HT1.out.alloc HT1.out.size _⟩
    | true =>
      obtain ⟨hL, hS, hg⟩ := (drvOk_iff L S l).1 hk
      have hx := (inR_iff x 0 100).1 hm
      rw [hk, hm] at hd
      obtain ⟨rfl, hs⟩ := HUU.out hd
      have HA := Lib.hid hd
      rw [hk] at E0
      rw [hm] at E1
      have HNN := Lib.hid (fun k => spK_nonneg (m := L) (fr := frS S l s) hx.1 k)
      have HBD := Lib.hid (fun k => spK_bd (m := L) (fr := frS S l s) hL.1 (frS_bd hg hS s) hx k)
      have HFB := Lib.hid (fun k => frS_bd hg hS s k)
      have HFC := Lib.hid (fun (k : Nat) W h hk h2 => forceIn_c L S (.slice a l.length ca) l k s W h hg hS hk hs h2)
      clear hk hm hd hg HUU
      go_enter Tryd.func65, Tryd.ntmps65
      go_wp2
      go_step3
      go_wp2_with fail
      refine (E0.out _ (HR.out.below HB.out rfl)).mono ?_
      rintro e w1 ⟨rfl, b1⟩
      have HT1 := Lib.hid (HB.out.trans (b1.mono HB.out.size))
      have HK1 := Lib.hid (blk_keep HB0.out b1 (by simp))
      have HTW := Lib.hid (HTB.out.below b1)
      have hw1 : w.heap.size < w1.heap.size := by have := b1.size; simp at this; omega
      clear b1
      go_wp2_with fail
      refine (E1.out _).mono ?_
      rintro e w2 ⟨rfl, rfl⟩
      go_wp2
      go_step3
      go_wp2
      go_loopw [1, 8, 9] (fun p o i wr => ∃ k : Nat, k ≤ 60 ∧ i = .int .i64 k ∧ p = .int .i64 (spK L (frS S l s) x k) ∧ wr.ownsRow w2.heap.size 3 1 o (k + 1) (intVs (spL L (frS S l s) x k)) ∧ Hid (Below w2.heap.size w2 wr) ∧ Hid (∀ j, j < k → 0 < spK L (frS S l s) x j)) (fun _ _ i _ => 60 - (intOf i).toNat)
      case atStart => exact ⟨0, by omega, rfl, rfl, by rw [spL_zero]; exact own_lit1 _ _ _, Lib.hid ((Below.refl _ _).alloc (Nat.le_refl _) _), Lib.hid (fun j h => by omega)⟩
      case round =>
        obtain ⟨k, hk, rfl, rfl, hown, hbel, hno⟩ := hrel
        have hbs := hbel.out.size
        have HO := Lib.hid hown
        clear hown
        by_cases hst : spK L (frS S l s) x k = 0
        · obtain ⟨g1, g2⟩ := stp_here hx.1 hk hno.out hst
          have HY := Lib.hid (sw10_yes HA.out g1)
          rw [g2] at HY
          have t1 : (spK L (frS S l s) x k == 0) = true := by simpa using hst
          clear hst g1 g2
          generalize spK L (frS S l s) x k = X at *
          go_wp2
          try rw [Exit.noGoto_ret]
          go_ret2
          exact ⟨_, ret_v10 HY.out.1.symm, by rw [HY.out.2.1, spL_len]; exact own_mono HO.out (by omega), HT1.out.trans (hbel.out.mono HT1.out.size)⟩
        · have hpos : 0 < spK L (frS S l s) x k := by have := HNN.out k; omega
          have t1 : (spK L (frS S l s) x k == 0) = false := by simpa using hst
          by_cases h60 : k = 60
          · subst h60
            have HY := Lib.hid (sw10_stay (stp_not hpos))
            clear hst hpos
            generalize spK L (frS S l s) x 60 = X at *
            go_wp2
            try rw [Exit.noGoto_ret]
            go_ret2
            exact ⟨_, ret_v10 HY.out.1.symm, by rw [HY.out.2.1]; exact World.ownsRow_made _ #[] 0 (by have := HT1.out.size; omega) (by decide) rfl, (HT1.out.trans (hbel.out.mono HT1.out.size)).alloc (by have := HT1.out.size; omega) _⟩
          · have t2 : ((k : Int) == 60) = false := by simp; omega
            have HNX : Hid (∀ j, j < k + 1 → 0 < spK L (frS S l s) x j) := Lib.hid (fun j hj => by
              by_cases e : j = k
              · subst e; exact hpos
              · exact hno.out j (by omega))
            have HSU := Lib.hid (spL_succ L (frS S l s) x k)
            have HSP : Hid (spK L (frS S l s) x (k + 1) = nxt L (spK L (frS S l s) x k) (frS S l s k)) := Lib.hid (by simp only [spK]; rw [if_pos hpos])
            have hmx := nxt_max L (spK L (frS S l s) x k) (frS S l s k)
            have hXb := HBD.out k
            have hXn := HNN.out k
            have hFb := HFB.out k
            have hqb := quo_bd hL.1 hFb
            have HFW := Lib.hid (fun (y : Aft wr) => HFC.out k y.w (HR.out.below (HT1.out.trans ((hbel.out.trans (y.below.mono hbs)).mono HT1.out.size)) rfl) (by omega) (HTW.out.below (hbel.out.trans (y.below.mono hbs))))
            obtain ⟨d0, d1, d2⟩ := blk_cell3 (blk_keep HK1.out hbel.out hw1)
            have D0 : ∀ y : Aft wr, y.w.cell? ⟨w.heap.size, 0, none⟩ = some (.int .i64 L) := fun y => y.cell d0
            have D1 : ∀ y : Aft wr, y.w.cell? ⟨w.heap.size, 1, none⟩ = some (.int .i64 S) := fun y => y.cell d1
            have D2 : ∀ y : Aft wr, y.w.cell? ⟨w.heap.size, 2, none⟩ = some (.slice a l.length ca) := fun y => y.cell d2
            clear hst hpos d0 d1 d2
            generalize nxt L (spK L (frS S l s) x k) (frS S l s k) = Y at *
            generalize spK L (frS S l s) x k = X at *
            generalize frS S l s k = F at *
            have q1 : IntKind.i64.wrap (10 * F) = 10 * F := IntWalk.i64_in _ (by omega)
            have HRD := Lib.hid (fun W => roundedDown_c (10 * F) L W hL.1 (by omega))
            generalize hZ : 10 * F / L = Z at *
            have q2 : IntKind.i64.wrap (X + Z) = X + Z := IntWalk.i64_in _ (by omega)
            clear hZ
            go_wp2_with fail
            refine wp_region_aft (w0 := wr) (by kernel_rfl) (by kernel_rfl) (Below.refl _ _) ?_
            repeat (go_big_quiet_step (first | (go_at_call 71; exact aft_of (HFW.out _)) | (go_at_call 87; exact aft_same (HRD.out _)) | fail))
            refine wpQuiet_nil ?_
            rintro _ ⟨⟨Y3, b3⟩, rfl⟩
            try simp only []
            clear D0 D1 D2 HFW HRD
            have HB3 := Lib.hid (hbel.out.trans (b3.mono hbs))
            have HO3 := Lib.hid (owns_below HO.out b3)
            have hs3 := HB3.out.size
            clear b3 HO
            by_cases hneg : X + Z < 0
            · have hY : Y = 0 := by omega
              have HY := Lib.hid hY
              clear hY hmx
              go_wp2_with (at_builtin; go_loud (refine wpList_append_own _ rfl _ _ 29 rfl w2.heap.size 3 i0 (.int .i64 0) 1 8 Tryd.underlying29 hi hz0 hz1 hz2 rfl (by decide) _ _ _ rfl (HO3.out.alloc _) ⟨_, 0, none⟩ 1 1 [.int .i64 0] rfl rfl (cell_one_new _ _ _) (by simp [Value.oneCell']) (by unfold maxLen; omega) (by omega) (by simp; omega) ?_; intro v' w5 hown' hgrow _))
              go_roundw
              case rel => exact ⟨k + 1, by omega, by go_num, by rw [HSP.out, HY.out], by rw [HSU.out, HSP.out, HY.out, iv_one]; exact hown', Lib.hid ((HB3.out.alloc hs3 _).grown hgrow (by simp; omega) (fun j hj => (HO3.out.lt j hj).1)), HNX⟩
              case measure => simp [intOf]; omega
            · have hY : Y = X + Z := by omega
              have HY := Lib.hid hY
              clear hY hmx
              go_wp2_with (at_builtin; go_loud (refine wpList_append_own _ rfl _ _ 29 rfl w2.heap.size 3 i0 (.int .i64 0) 1 8 Tryd.underlying29 hi hz0 hz1 hz2 rfl (by decide) _ _ _ rfl (HO3.out.alloc _) ⟨_, 0, none⟩ 1 1 [.int .i64 (X + Z)] rfl rfl (cell_one_new _ _ _) (by simp [Value.oneCell']) (by unfold maxLen; omega) (by omega) (by simp; omega) ?_; intro v' w5 hown' hgrow _))
              go_roundw
              case rel => exact ⟨k + 1, by omega, by go_num, by rw [HSP.out, HY.out], by rw [HSU.out, HSP.out, HY.out, iv_one]; exact hown', Lib.hid ((HB3.out.alloc hs3 _).grown hgrow (by simp; omega) (fun j hj => (HO3.out.lt j hj).1)), HNX⟩
              case measure => simp [intOf]; omega
end Go.Proofs.YthmoogkllpcebaaDoor
