/- ChordAt: the program's and the specification's answer as one function of the line and the place. Condition: sizes. -/
import Derived.Test.YtdnmmafnjhgeiabChordMath
import Derived.Deep.RegionHeld3
import Derived.Deep.RegionWith
namespace Go.Proofs.Ytdnmmafnjhgeiab
open Go.RowKit
set_option linter.unusedVariables false
set_option maxHeartbeats 1000000 in
theorem fraction_c (n d : Int) (w : World) (h0 : 0 ≤ n) (h1 : n ≤ 1099511627776) (h2 : 0 < d) (h3 : d ≤ 1099511627776) :
    Calls Try.prog 30 #[.int .i64 n, .int .i64 d] w fun e w' => e = .returned (.tuple #[.int .i64 (n / gcdI n d), .int .i64 (d / gcdI n d)]) ∧ Drew w w' := by
  have hg := gcdI_pos (n := n) h2
  have hgl := gcdI_le (n := n) h2
  have HG : Hid (gcdI n d = (Nat.gcd n.toNat d.toNat : Int)) := Lib.hid rfl
  have hq1 : n / gcdI n d ≤ n := Int.ediv_le_self _ h0
  have hq2 : 0 ≤ n / gcdI n d := Int.ediv_nonneg h0 (by omega)
  have hq3 : d / gcdI n d ≤ d := Int.ediv_le_self _ (by omega)
  have hq4 : 0 ≤ d / gcdI n d := Int.ediv_nonneg (by omega) (by omega)
  have HA : Hid (iabs n = n) := Lib.hid (by unfold iabs; rw [if_neg (by omega)])
  go_enter Try.func30, Try.ntmps30
  go_wp2_with fail
  refine (absolute_c n _ (by omega) (by omega)).mono ?_
  rw [HA.out]
  rintro e w' ⟨rfl, rfl⟩
  go_wp2
  go_loopw [6, 7] (fun x y wr => ∃ X Y : Nat, x = .int .i64 (X : Int) ∧ y = .int .i64 (Y : Int) ∧ (0 < X ∧ X ≤ 1099511627776) ∧ Y ≤ 1099511627776 ∧ Hid (Nat.gcd X Y = Nat.gcd n.toNat d.toNat) ∧ Drew w wr) (fun _ y _ => (intOf y).toNat)
  case atStart =>
    refine ⟨d.toNat, n.toNat, by rw [Int.toNat_of_nonneg (by omega)], by rw [Int.toNat_of_nonneg h0], by omega, by omega, Lib.hid (Nat.gcd_comm _ _), Drew.refl _⟩
  case round =>
    obtain ⟨X, Y, rfl, rfl, ⟨hx, hx'⟩, hy, HE, hd⟩ := hrel
    by_cases hz : 0 < Y
    · have hyb : ((Y : Int) != 0) = true := by rw [bne_iff_ne]; omega
      have hyn : ((Y : Int) == 0) = false := by rw [beq_eq_false_iff_ne]; omega
      have hrm : (X : Int) % (Y : Int) = ((X % Y : Nat) : Int) := by simp
      have hrl : X % Y < Y := Nat.mod_lt _ hz
      have HR := Lib.hid hrm
      clear hrm
      go_wp2
      go_quiet (fail)
      go_wp2
      go_roundw
      case rel =>
        refine ⟨Y, X % Y, rfl, by rw [HR.out], ⟨hz, hy⟩, by omega, Lib.hid ((gcd_step X Y hz).trans HE.out), hd.more _⟩
      case measure => simp [intOf]; omega
    · obtain rfl : Y = 0 := by omega
      have hX : (X : Int) = gcdI n d := by
        have := HE.out
        rw [Nat.gcd_zero_right] at this
        rw [HG.out, this]
      rw [hX] at *
      clear hX
      go_wp2
      go_quiet (fail)
      go_wp2
      go_ret2
      exact ⟨rfl, hd.more _⟩
set_option maxHeartbeats 1000000 in
theorem l2Reduce_c (n d : Int) (w : World) (h0 : 0 ≤ n) (h1 : n ≤ 1099511627776) (h2 : 0 < d) (h3 : d ≤ 1099511627776) :
    Calls Try.prog 33 #[.int .i64 n, .int .i64 d] w fun e w' => e = .returned (.tuple #[.int .i64 (n / gcdI n d), .int .i64 (d / gcdI n d)]) ∧ Drew w w' := by
  have hg := gcdI_pos (n := n) h2
  have hgl := gcdI_le (n := n) h2
  have HG : Hid (gcdI n d = (Nat.gcd n.toNat d.toNat : Int)) := Lib.hid rfl
  have hq1 : n / gcdI n d ≤ n := Int.ediv_le_self _ h0
  have hq2 : 0 ≤ n / gcdI n d := Int.ediv_nonneg h0 (by omega)
  have hq3 : d / gcdI n d ≤ d := Int.ediv_le_self _ (by omega)
  have hq4 : 0 ≤ d / gcdI n d := Int.ediv_nonneg (by omega) (by omega)
  have HA : Hid (imax n (-n) = n) := Lib.hid (by unfold imax; split <;> omega)
  go_enter Try.func33, Try.ntmps33
  go_wp2_with fail
  refine (l1Most_c n (-n) _).mono ?_
  rw [HA.out]
  rintro e w' ⟨rfl, rfl⟩
  go_wp2
  go_loopw [6, 7] (fun x y wr => ∃ X Y : Nat, x = .int .i64 (X : Int) ∧ y = .int .i64 (Y : Int) ∧ X ≤ 1099511627776 ∧ Y ≤ 1099511627776 ∧ Hid (Nat.gcd X Y = Nat.gcd n.toNat d.toNat) ∧ Drew w wr) (fun _ y _ => (intOf y).toNat)
  case atStart =>
    refine ⟨n.toNat, d.toNat, by rw [Int.toNat_of_nonneg h0], by rw [Int.toNat_of_nonneg (by omega)], by omega, by omega, Lib.hid rfl, Drew.refl _⟩
  case round =>
    obtain ⟨X, Y, rfl, rfl, hx, hy, HE, hd⟩ := hrel
    by_cases hz : 0 < Y
    · have hyb : ((Y : Int) != 0) = true := by rw [bne_iff_ne]; omega
      have hyn : ((Y : Int) == 0) = false := by rw [beq_eq_false_iff_ne]; omega
      have hrm : (X : Int) % (Y : Int) = ((X % Y : Nat) : Int) := by simp
      have hrl : X % Y < Y := Nat.mod_lt _ hz
      have HR := Lib.hid hrm
      clear hrm
      go_wp2
      go_roundw
      case rel =>
        refine ⟨Y, X % Y, rfl, by rw [HR.out], by omega, by omega, Lib.hid ((gcd_step X Y hz).trans HE.out), hd⟩
      case measure => simp [intOf]; omega
    · obtain rfl : Y = 0 := by omega
      have hX : (X : Int) = gcdI n d := by
        have := HE.out
        rw [Nat.gcd_zero_right] at this
        rw [HG.out, this]
      rw [hX] at *
      clear hX
      go_wp2
      go_quiet (fail)
      go_wp2
      go_ret2
      exact ⟨rfl, hd.more _⟩
set_option maxHeartbeats 1000000 in
theorem implChordAt_c (v : Value) (l : List Sup) (p : Int) (w : World) (hr : Rs w v l.length (sups l)) (hn : l.length ≤ 1048576) (hp : (Lit.int .i64 p).wf = true) :
    Calls Try.prog 15 #[v, .int .i64 p] w fun e w' => e = .returned (.tuple #[.int .i64 (chN l p), .int .i64 (chD l p), .bool (onL l p)]) ∧ Below w.heap.size w w' := by
  have HP := Lib.hid hp
  clear hp
  cases ho : onL l p with
  | false =>
    have h1 : chN l p = 0 := by simp [chN, ho]
    have h2 : chD l p = 0 := by simp [chD, ho]
    have h3 : spanOf l p = 0 := by simp [spanOf, ho]
    rw [h1, h2]
    have HO := Lib.hid (And.intro h3 ho)
    have HR := Lib.hid hr
    clear hr h1 h2 h3 ho
    go_enter Try.func15, Try.ntmps15
    go_wp2_with fail
    refine (implSpanAt_c v l p _ HR.out hn HP.out).mono ?_
    rw [HO.out.1, HO.out.2]
    rintro e w1 ⟨rfl, b1⟩
    go_wp2
    go_ret3
    exact ⟨rfl, b1⟩
  | true =>
    have HOn := onAt ho
    have h3 : spanOf l p = ((spanN l p : Nat) : Int) := by simp [spanOf, ho]
    have h1 : chN l p = chRaw l (spanN l p) p / gcdI (chRaw l (spanN l p) p) (slen l (spanN l p)) := by simp [chN, ho]
    have h2 : chD l p = slen l (spanN l p) / gcdI (chRaw l (spanN l p) p) (slen l (spanN l p)) := by simp [chD, ho]
    rw [h1, h2]
    have HO := Lib.hid (And.intro h3 ho)
    generalize spanN l p = z at *
    have hl := HOn.line
    have hlt := HOn.lt
    have hlo := HOn.lo
    have hhi := HOn.hi
    have h8 := hl.eight
    have hzero := HOn.zero
    have HL := Lib.hid hl
    have hrb := srise_bd hl hlt
    have hsb := slen_bd hl hlt
    have hcb := chRaw_bd hl hlt hlo hhi
    have HC := Lib.hid (chRaw_eq l z p)
    have b0 := hl.bd (i := z) (by omega)
    have b1 := hl.bd hlt
    obtain ⟨a, oa, ca, rfl, hla, hm, hs⟩ := hr.sup (by omega)
    have HR := Lib.hid hr
    have HA := Lib.hid hs
    clear hr h1 h2 h3 ho HOn hl hs
    have hslx : (nth l (z + 1)).a - (nth l z).a = slen l z := rfl
    have hpd : 0 ≤ p - (nth l z).a ∧ p - (nth l z).a ≤ 3000 := by omega
    have hml : -6000000 ≤ srise l z * (p - (nth l z).a) ∧ srise l z * (p - (nth l z).a) ≤ 6000000 := by
      have h1 := Int.mul_le_mul_of_nonneg_right hrb.1 hpd.1
      have h2 := Int.mul_le_mul_of_nonneg_right hrb.2 hpd.1
      omega
    have hmh := mulB ⟨b0.2.2.1, b0.2.2.2⟩ (y := slen l z) (by omega)
    clear hslx hhi b1
    go_enter Try.func15, Try.ntmps15
    go_wp2_with fail
    refine (implSpanAt_c _ l p _ HR.out hn HP.out).mono ?_
    rw [HO.out.1, HO.out.2]
    rintro e w1 ⟨rfl, bb1⟩
    go_wp2_with fail
    refine (spanLength_c _ l z w1 (HR.out.below bb1 rfl) HL.out hlt).mono ?_
    rintro e w2 ⟨rfl, d2⟩
    have bb2 := Drew.below_trans bb1 d2
    obtain ⟨c0, c1, _⟩ := (HA.out.below bb2 hla) z (by omega)
    have hR2 : Hid (∀ n, Rs (w2.drewN n) (.slice (some ⟨a, oa, none⟩) l.length ca) l.length (sups l)) := Lib.hid (fun n => (HR.out.below bb2 rfl).drewN n)
    clear d2 bb1
    have hi1 : z < l.length := by omega
    have s1 : IntKind.i64.wrap (p - (nth l z).a) = p - (nth l z).a := IntWalk.i64_in _ (by omega)
    have s2 : IntKind.i64.wrap (srise l z * (p - (nth l z).a)) = srise l z * (p - (nth l z).a) := IntWalk.i64_in _ (by omega)
    generalize hLs : slen l z = L at *
    have HLs := Lib.hid hLs
    clear hLs
    go_wp2_with fail
    go_quiet ((go_at_call 28; exact quiet_drew (spanRise_c _ l z _ (hR2.out _) HL.out hlt)))
    clear s1 s2
    go_wp2_with fail
    rw [HC.out]
    refine (fraction_c (chRaw l z p) L _ (by omega) (by omega) (by omega) (by omega)).mono ?_
    rintro e w3 ⟨rfl, d3⟩
    go_wp2
    go_ret3
    refine ⟨?_, Drew.below_trans (below_drewN bb2 _) d3⟩
    rw [HLs.out]
    rfl
set_option maxHeartbeats 1000000 in
theorem l2Span_s (v : Value) (l : List Sup) (p : Int) (w : World) (hr : Rs w v l.length (sups l)) (ho : OnAt l p (spanN l p)) :
    Calls Try.prog 36 #[v, .int .i64 p] w fun e w' => e = .returned (.int .i64 ((spanN l p : Nat) : Int)) ∧ w' = w := by
  have hl := ho.line
  have hlt := ho.lt
  have hit := ho.hi
  have h8 := hl.eight
  have HLe : Hid (∀ j, j < spanN l p → (nth l (j + 1)).a < p) := Lib.hid (fun j hj => spanN_least hj)
  obtain ⟨a, oa, ca, rfl, hla, hm, hs⟩ := hr.sup (by omega)
  have HA := Lib.hid hs
  clear hr hs hl ho
  generalize hz : spanN l p = z at *
  clear hz
  go_enter Try.func36, Try.ntmps36
  go_wp2
  go_loop [5] (fun i => ∃ k : Nat, k ≤ z ∧ i = .int .i64 k) (fun i => l.length - (intOf i).toNat)
  case atStart => exact ⟨0, by omega, rfl⟩
  case round =>
    obtain ⟨k, hk, rfl⟩ := hrel
    obtain ⟨c0, _, _⟩ := HA.out (k + 1) (by omega)
    have hi1 : k + 1 < l.length := by omega
    by_cases hlt1 : k < z
    · have hx := HLe.out k hlt1
      clear hit
      generalize (nth l (k + 1)).a = B at *
      go_wp2
      go_round
      case rel => exact ⟨k + 1, by omega, by go_num⟩
      case measure => simp [intOf]; omega
    · obtain rfl : k = z := by omega
      generalize (nth l (k + 1)).a = B at *
      go_wp2
      go_ret
      exact ⟨rfl, rfl⟩
set_option maxRecDepth 100000 in
set_option maxHeartbeats 2000000 in
theorem l2Chord_c (v : Value) (l : List Sup) (p : Int) (w : World) (hr : Rs w v l.length (sups l)) (ho : OnAt l p (spanN l p)) :
    Calls Try.prog 32 #[v, .int .i64 p] w fun e w' => e = .returned (.tuple #[.int .i64 (chRaw l (spanN l p) p), .int .i64 (slen l (spanN l p))]) ∧ Below w.heap.size w w' := by
  have hl := ho.line
  have hlt := ho.lt
  have hlo := ho.lo
  have hhi := ho.hi
  have h8 := hl.eight
  obtain ⟨a, oa, ca, rfl, hla, hm, hs⟩ := hr.sup (by omega)
  have HR := Lib.hid hr
  have HO := Lib.hid ho
  have HSp : Hid (∀ W, Below w.heap.size w W → Calls Try.prog 36 #[.slice (some ⟨a, oa, none⟩) l.length ca, .int .i64 p] W fun e w' => e = .returned (.int .i64 ((spanN l p : Nat) : Int)) ∧ w' = W) := Lib.hid (fun W hW => l2Span_s _ l p W (hr.below hW rfl) ho)
  clear hr ho
  generalize spanN l p = z at *
  obtain ⟨c0, c1, c2⟩ := hs z (by omega)
  obtain ⟨d0, d1, d2⟩ := hs (z + 1) hlt
  have b0 := hl.bd (i := z) (by omega)
  have b1 := hl.bd hlt
  clear hs hl
  have hi1 : z < l.length := by omega
  obtain ⟨p1, p2, p3⟩ := succ_in z (by omega)
  have hi2 : (z : Int) + 1 < (l.length : Int) := by omega
  have HX : Hid (chRaw l z p = (nth l z).h * ((nth l (z + 1)).a - p) + (nth l (z + 1)).h * (p - (nth l z).a) ∧ slen l z = (nth l (z + 1)).a - (nth l z).a) := Lib.hid ⟨rfl, rfl⟩
  have m1 := mulB ⟨b0.2.2.1, b0.2.2.2⟩ (y := (nth l (z + 1)).a - p) (by omega)
  have m2 := mulB ⟨b1.2.2.1, b1.2.2.2⟩ (y := p - (nth l z).a) (by omega)
  have s1 : IntKind.i64.wrap ((nth l (z + 1)).a - p) = (nth l (z + 1)).a - p := IntWalk.i64_in _ (by omega)
  have s2 : IntKind.i64.wrap (p - (nth l z).a) = p - (nth l z).a := IntWalk.i64_in _ (by omega)
  have s3 : IntKind.i64.wrap ((nth l (z + 1)).a - (nth l z).a) = (nth l (z + 1)).a - (nth l z).a := IntWalk.i64_in _ (by omega)
  have s4 : IntKind.i64.wrap ((nth l z).h * ((nth l (z + 1)).a - p)) = (nth l z).h * ((nth l (z + 1)).a - p) := IntWalk.i64_in _ (by omega)
  have s5 : IntKind.i64.wrap ((nth l (z + 1)).h * (p - (nth l z).a)) = (nth l (z + 1)).h * (p - (nth l z).a) := IntWalk.i64_in _ (by omega)
  have s6 : IntKind.i64.wrap ((nth l z).h * ((nth l (z + 1)).a - p) + (nth l (z + 1)).h * (p - (nth l z).a)) = (nth l z).h * ((nth l (z + 1)).a - p) + (nth l (z + 1)).h * (p - (nth l z).a) := IntWalk.i64_in _ (by omega)
  clear m1 m2 b0 b1
  go_enter Try.func32, Try.ntmps32
  go_wp2_with fail
  go_region_held3 (fun w' => w'.cell? ⟨a, oa + z * 3, none⟩ = some (.int .i64 (nth l z).a) ∧ w'.cell? ⟨a, oa + z * 3 + 1, none⟩ = some (.int .i64 (nth l z).h) ∧ w'.cell? ⟨a, oa + z * 3 + 2, none⟩ = some (.bool (nth l z).s) ∧
      w'.cell? ⟨a, oa + (z + 1) * 3, none⟩ = some (.int .i64 (nth l (z + 1)).a) ∧ w'.cell? ⟨a, oa + (z + 1) * 3 + 1, none⟩ = some (.int .i64 (nth l (z + 1)).h) ∧ w'.cell? ⟨a, oa + (z + 1) * 3 + 2, none⟩ = some (.bool (nth l (z + 1)).s)) (go_keep)
    (first | (go_at_call 36; refine (HSp.out _ ?_).mono ?_; (first | exact (Below.refl _ _).drew | exact ((Below.refl _ _).alloc (Nat.le_refl _) _).drew | exact (((Below.refl _ _).alloc (Nat.le_refl _) _).alloc (by simp) _).drew); rintro e w1 ⟨rfl, rfl⟩))
  all_goals clear p1 p2 p3
  all_goals (go_wp2_with fail; go_quiet (fail); go_wp2; go_ret2)
  all_goals refine ⟨by rw [HX.out.1, HX.out.2]; rfl, ?_⟩
  all_goals first | exact below_drewN (((Below.refl _ _).alloc (Nat.le_refl _) _).alloc (by simp) _) _ | exact below_drewN ((((Below.refl _ _).alloc (Nat.le_refl _) _).alloc (by simp) _).drew) _ | exact (below_drewN (((Below.refl _ _).alloc (Nat.le_refl _) _).alloc (by simp) _) _).drew
set_option maxHeartbeats 1000000 in
theorem specChordAt_c (v : Value) (l : List Sup) (p : Int) (w : World) (hr : Rs w v l.length (sups l)) (hn : l.length ≤ 1048576) (hp : (Lit.int .i64 p).wf = true) :
    Calls Try.prog 17 #[v, .int .i64 p] w fun e w' => e = .returned (.tuple #[.int .i64 (chN l p), .int .i64 (chD l p), .bool (onL l p)]) ∧ Below w.heap.size w w' := by
  clear hp
  have HR := Lib.hid hr
  clear hr
  cases ho : onL l p with
  | false =>
    have h1 : chN l p = 0 := by simp [chN, ho]
    have h2 : chD l p = 0 := by simp [chD, ho]
    rw [h1, h2]
    have HO := Lib.hid ho
    clear h1 h2 ho
    go_enter Try.func17, Try.ntmps17
    go_wp2_with fail
    refine (l2On_c v l p _ HR.out hn).mono ?_
    rw [HO.out]
    rintro e w1 ⟨rfl, d1⟩
    go_wp2
    go_ret3
    exact ⟨rfl, d1.below _⟩
  | true =>
    have HOn := Lib.hid (onAt ho)
    have h1 : chN l p = chRaw l (spanN l p) p / gcdI (chRaw l (spanN l p) p) (slen l (spanN l p)) := by simp [chN, ho]
    have h2 : chD l p = slen l (spanN l p) / gcdI (chRaw l (spanN l p) p) (slen l (spanN l p)) := by simp [chD, ho]
    rw [h1, h2]
    have hcb := chRaw_bd HOn.out.line HOn.out.lt HOn.out.lo HOn.out.hi
    have hsb := slen_bd HOn.out.line HOn.out.lt
    have HO := Lib.hid ho
    clear h1 h2 ho
    go_enter Try.func17, Try.ntmps17
    go_wp2_with fail
    refine (l2On_c v l p _ HR.out hn).mono ?_
    rw [HO.out]
    rintro e w1 ⟨rfl, d1⟩
    go_wp2_with fail
    refine (l2Chord_c v l p _ (d1.rs HR.out) HOn.out).mono ?_
    rintro e w2 ⟨rfl, b2⟩
    have t2 := (d1.below w.heap.size).trans (b2.mono (Nat.le_of_eq d1.size.symm))
    go_wp2_with fail
    refine (l2Reduce_c _ _ _ (by omega) (by omega) (by omega) (by omega)).mono ?_
    rintro e w3 ⟨rfl, d3⟩
    go_wp2
    go_ret3
    exact ⟨rfl, Drew.below_trans t2 d3⟩
end Go.Proofs.Ytdnmmafnjhgeiab
