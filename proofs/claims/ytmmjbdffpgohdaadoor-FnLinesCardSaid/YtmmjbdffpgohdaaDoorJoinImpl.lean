/- The walk of impl.JoinStrings. Condition: sizes. -/
import Derived.Test.YtmmjbdffpgohdaaDoorJoinSpec
import Derived.Test.YtmmjbdffpgohdaaDoorShelf
import Derived.Deep.LoopGhost
import Derived.WalkMore
namespace Go.Proofs.YtmmjbdffpgohdaaDoor
open Go.RowKit
set_option linter.unusedVariables false
theorem joinAll_len (l : List ByteArray) (sep : ByteArray) (hp : sep.size = 1) : (Lib.join (l.map (·.data.toList)) sep.data.toList).length = szs l + (l.length - 1) := by
  have h := jnK_size l sep hp l.length (Nat.le_refl _)
  rw [jnK_all, List.take_length] at h
  rw [← h]; simp [joinAll, ByteArray.size]
/-- strings.Join, as the walk meets it. -/
theorem join_any (a oa ca m : Nat) (l : List ByteArray) (sep : ByteArray) (w wo : World) (hw : Hid (wo = w.drewN m)) (hla : a < w.heap.size) (hcap : l.length ≤ ca) (hln : l.length ≤ 1048576) (hz : szs l + (l.length - 1) ≤ 4000) (hp : Hid (sep.size = 1))
    (hc : Hid (∀ (k : Nat) (h : k < l.length), w.cell? ⟨a, oa + k, none⟩ = some (.string l[k]))) :
    Calls Tryd.prog 35 #[.slice (some ⟨a, oa, none⟩) l.length ca, .string sep] wo fun e w' => e = .returned (.string (joinAll l sep)) ∧ Below w.heap.size w w' := by
  have e := hw.out
  subst e
  refine (Tryd.strings_Join a oa ca l sep (w.drewN m) (fun j x hj => ?_) hla (by omega) hcap (by rw [joinAll_len l sep hp.out]; omega)).mono ?_
  · obtain ⟨h, rfl⟩ := List.getElem?_eq_some_iff.1 hj
    exact hc.out j h
  · rintro e w' ⟨rfl, hb⟩
    exact ⟨rfl, (below_drewN (Below.refl _ _) m).trans hb⟩
set_option maxHeartbeats 1000000 in
theorem JoinStrings_yes (v : Value) (l : List ByteArray) (sep : ByteArray) (c : UInt8) (w : World) (hr : Rd w v (l.map Value.string)) (h0 : l ≠ []) (hp0 : 0 < sep.size) (hp : sep.size = 1) (hc : sep[0] = c) (hok : Jok l c) :
    Calls Tryd.prog 24 #[v, .string sep] w fun e w' => e = .returned (.tuple #[.string (joinAll l sep), .bool true]) ∧ Below w.heap.size w w' := by
  obtain ⟨a, oa, ca, rfl, hla, hcap, hm, hca⟩ := hr.strs h0
  have hn0 : 1 ≤ l.length := by have : l.length ≠ 0 := by simpa using h0
                                omega
  have hpb : ((sep.size : Int) != 1) = false := by simp; omega
  have hnb : ((l.length : Int) == 0) = false := by simp; exact h0
  have HA := Lib.hid hca
  have HK := Lib.hid hok
  have hz1 : szs l + (l.length - 1) ≤ 4000 := hok.2
  have HP := Lib.hid hp
  have HC := Lib.hid hc
  clear hca hr hok hp h0 hc
  go_enter Tryd.func24, Tryd.ntmps24
  go_wp2
  go_step3
  go_wp2
  go_step3
  go_wp2
  go_loopg [6, 7, 24] l.length (fun g s6 s7 s24 wx => ∃ k m : Nat, k + g = l.length ∧ s24 = .int .i64 k ∧ s6 = .int .i64 ((l.length - 1 + szs (l.take k) : Nat) : Int) ∧ s7 = .bool true ∧ Hid (wx = w.drewN m))
  case atStart => exact ⟨0, 0, by omega, rfl, by simp [szs]; omega, rfl, rfl⟩
  case round =>
    obtain ⟨k, m, hkg, rfl, rfl, rfl, HW⟩ := hrel
    obtain ⟨wo, hwo⟩ : ∃ wo, wo = wr := ⟨_, rfl⟩
    subst hwo
    cases gk with
    | zero =>
      have hkz : ¬ ((k : Int) < (l.length : Int)) := by omega
      go_wp2_with (go_at_call 35; refine (join_any a oa ca m l sep w wo HW hla hcap (by omega) hz1 HP HA).mono ?_; rintro e w' ⟨rfl, hb⟩)
      try rw [Exit.noGoto_ret]
      go_ret2
      exact ⟨rfl, hb⟩
    | succ g =>
      have hlt : k < l.length := by omega
      have c1 : wo.cell? ⟨a, oa + k, none⟩ = some (.string l[k]) := by rw [HW.out]; exact HA.out k hlt
      have hkz : (k : Int) < (l.length : Int) := by omega
      have hs1 := szs_take l k hlt
      have hs2 := szs_take_le l (k + 1)
      have HS := Lib.hid hs1
      have HN := Lib.hid (HK.out.1 l[k] (List.getElem_mem hlt))
      have hsum : l.length - 1 + szs (l.take k) + l[k].size ≤ 4000 := by omega
      clear hs1 hs2
      go_wp2
      go_loopg [7, 36] l[k].size (fun g2 s7 s36 wy => ∃ j n : Nat, j + g2 = l[k].size ∧ s36 = .int .i64 j ∧ s7 = .bool true ∧ Hid (wy = wo.drewN n))
      case atStart => exact ⟨0, 0, by omega, rfl, rfl, rfl⟩
      case round =>
        obtain ⟨j, n, hjg, rfl, rfl, HW2⟩ := hrel
        cases gk with
        | zero =>
          have hjz : ¬ ((j : Int) < (l[k].size : Int)) := by omega
          go_wp2
          go_roundg g
          case measure => omega
          case rel => exact ⟨k + 1, m + n, by omega, by go_num, by rw [HS.out]; go_num, rfl, by rw [HW2.out, HW.out, World.drewN_drewN]; rfl⟩
        | succ g2 =>
          have hjz : (j : Int) < (l[k].size : Int) := by omega
          have hj : j < l[k].size := by omega
          have hcb : (((l[k])[j].toNat : Int) == (sep[0].toNat : Int)) = false := by
            rw [beq_eq_false_iff_ne]; intro h
            have e : (l[k])[j] = c := (UInt8.toNat_inj.1 (by omega)).trans HC.out
            exact HN.out (List.mem_of_getElem? ((at_some l[k] j hj).trans (by rw [e])))
          go_wp2
          go_quiet (fail)
          go_wp2
          go_roundg g2
          case measure => omega
          case rel => exact ⟨j + 1, n + nq, by omega, by go_num, rfl, by rw [HW2.out, World.drewN_drewN]; rfl⟩
set_option maxHeartbeats 400000 in
theorem JoinStrings_arg (v : Value) (l : List ByteArray) (sep : ByteArray) (w : World) (hr : Rd w v (l.map Value.string)) (hp : sep.size ≤ maxLen) (hl : l.length ≤ maxLen) (h : l = [] ∨ sep.size ≠ 1) :
    Calls Tryd.prog 24 #[v, .string sep] w fun e w' => e = .returned (.tuple #[.string ⟨#[]⟩, .bool false]) ∧ w' = w := by
  unfold maxLen at hp hl
  obtain ⟨a, ca, rfl⟩ := hr.slc
  clear hr
  by_cases h1 : l.length = 0
  · have h2 : ((l.length : Int) == 0) = true := by simp [h1]
    clear h1 h
    go_enter Tryd.func24, Tryd.ntmps24
    go_wp2
    go_step3
    go_wp2
    try rw [Exit.noGoto_ret]
    go_ret2
    exact ⟨rfl, rfl⟩
  · have h2 : ((l.length : Int) == 0) = false := by rw [beq_eq_false_iff_ne]; omega
    have h3 : ((sep.size : Int) != 1) = true := by
      rcases h with h | h
      · subst h; exact absurd rfl h1
      · simp; omega
    clear h1 h
    go_enter Tryd.func24, Tryd.ntmps24
    go_wp2
    go_step3
    go_wp2
    try rw [Exit.noGoto_ret]
    go_ret2
    exact ⟨rfl, rfl⟩
set_option maxHeartbeats 1000000 in
theorem JoinStrings_no (v : Value) (l : List ByteArray) (sep : ByteArray) (c : UInt8) (w : World) (hr : Rd w v (l.map Value.string)) (h0 : l ≠ []) (hp0 : 0 < sep.size) (hp : sep.size = 1) (hc : sep[0] = c) (hok : ¬ Jok l c) (hsz : szs l ≤ 1048576) (hln : l.length ≤ 1048576) :
    Calls Tryd.prog 24 #[v, .string sep] w fun e w' => e = .returned (.tuple #[.string ⟨#[]⟩, .bool false]) ∧ ∃ n, w' = w.drewN n := by
  obtain ⟨a, oa, ca, rfl, hla, hcap, hm, hca⟩ := hr.strs h0
  have hn0 : 1 ≤ l.length := by have : l.length ≠ 0 := by simpa using h0
                                omega
  have hpb : ((sep.size : Int) != 1) = false := by simp; omega
  have hnb : ((l.length : Int) == 0) = false := by simp; exact h0
  have HA := Lib.hid hca
  have HK := Lib.hid hok
  have HC := Lib.hid hc
  clear hca hr hok hp h0 hc
  go_enter Tryd.func24, Tryd.ntmps24
  go_wp2
  go_step3
  go_wp2
  go_step3
  go_wp2
  go_loopg [6, 7, 24] l.length (fun g s6 s7 s24 wx => ∃ k m : Nat, k + g = l.length ∧ s24 = .int .i64 k ∧ s6 = .int .i64 ((l.length - 1 + szs (l.take k) : Nat) : Int) ∧ s7 = .bool true ∧ (k = 0 ∨ l.length - 1 + szs (l.take k) ≤ 4000) ∧ Hid (∀ j, j < k → ∀ h : j < l.length, c ∉ l[j].data.toList) ∧ Hid (wx = w.drewN m))
  case atStart => exact ⟨0, 0, by omega, rfl, by simp [szs]; omega, rfl, .inl rfl, fun j hj => by omega, rfl⟩
  case round =>
    obtain ⟨k, m, hkg, rfl, rfl, rfl, hle, HN, HW⟩ := hrel
    obtain ⟨wo, hwo⟩ : ∃ wo, wo = wr := ⟨_, rfl⟩
    subst hwo
    cases gk with
    | zero =>
      exfalso
      obtain rfl : k = l.length := by omega
      refine HK.out ⟨fun x hx => ?_, ?_⟩
      · obtain ⟨j, hj, rfl⟩ := List.getElem_of_mem hx
        exact HN.out j hj hj
      · rw [List.take_length] at hle
        omega
    | succ g =>
      have hlt : k < l.length := by omega
      have c1 : wo.cell? ⟨a, oa + k, none⟩ = some (.string l[k]) := by rw [HW.out]; exact HA.out k hlt
      have hkz : (k : Int) < (l.length : Int) := by omega
      have hs1 := szs_take l k hlt
      have hs2 := szs_take_le l (k + 1)
      have HS := Lib.hid hs1
      have hsum : l.length - 1 + szs (l.take k) + l[k].size ≤ 2097152 := by omega
      clear hs1 hs2
      by_cases hbig : (4000 : Int) < ((l.length - 1 : Nat) : Int) + (szs (l.take k) : Int) + (l[k].size : Int)
      · go_wp2
        try rw [Exit.noGoto_ret]
        go_ret2
        exact ⟨rfl, m, HW.out⟩
      · by_cases hin : c ∈ l[k].data.toList
        · obtain ⟨q, hq, he⟩ := List.getElem_of_mem hin
          have hq : q < l[k].size := by simpa using hq
          have HQ := Lib.hid (show (l[k])[q] = c from he)
          clear hin he
          go_wp2
          go_loopg [7, 36] l[k].size (fun g2 s7 s36 wy => ∃ j n : Nat, j + g2 = l[k].size ∧ j ≤ q ∧ s36 = .int .i64 j ∧ s7 = .bool true ∧ Hid (wy = wo.drewN n))
          case atStart => exact ⟨0, 0, by omega, Nat.zero_le _, rfl, rfl, rfl⟩
          case round =>
            obtain ⟨j, n, hjg, hjq, rfl, rfl, HW2⟩ := hrel
            obtain ⟨g2, rfl⟩ : ∃ g2, gk = g2 + 1 := ⟨gk - 1, by omega⟩
            have hjz : (j : Int) < (l[k].size : Int) := by omega
            have hj : j < l[k].size := by omega
            by_cases hjc : (l[k])[j] = sep[0]
            · have hcb : (((l[k])[j].toNat : Int) == (sep[0].toNat : Int)) = true := by simp [hjc]
              clear hjc
              go_wp2
              go_quiet (fail)
              go_wp2
              try rw [Exit.noGoto_ret]
              go_ret2
              exact ⟨rfl, m + (n + nq), by rw [HW2.out, HW.out, World.drewN_drewN, World.drewN_drewN]⟩
            · have hcb : (((l[k])[j].toNat : Int) == (sep[0].toNat : Int)) = false := by
                rw [beq_eq_false_iff_ne]; intro h; exact hjc (UInt8.toNat_inj.1 (by omega))
              have hne : j ≠ q := by
                rintro rfl; exact hjc (HQ.out.trans HC.out.symm)
              clear hjc
              go_wp2
              go_quiet (fail)
              go_wp2
              go_roundg g2
              case measure => omega
              case rel => exact ⟨j + 1, n + nq, by omega, by omega, by go_num, rfl, by rw [HW2.out, World.drewN_drewN]; rfl⟩
        · have HI := Lib.hid hin
          clear hin
          have HN' : Hid (∀ j, j < k + 1 → ∀ h : j < l.length, c ∉ l[j].data.toList) := by
            intro j hj hjl
            by_cases e : j = k
            · subst e; exact HI.out
            · exact HN.out j (by omega) hjl
          go_wp2
          go_loopg [7, 36] l[k].size (fun g2 s7 s36 wy => ∃ j n : Nat, j + g2 = l[k].size ∧ s36 = .int .i64 j ∧ s7 = .bool true ∧ Hid (wy = wo.drewN n))
          case atStart => exact ⟨0, 0, by omega, rfl, rfl, rfl⟩
          case round =>
            obtain ⟨j, n, hjg, rfl, rfl, HW2⟩ := hrel
            cases gk with
            | zero =>
              have hjz : ¬ ((j : Int) < (l[k].size : Int)) := by omega
              go_wp2
              go_roundg g
              case measure => omega
              case rel => exact ⟨k + 1, m + n, by omega, by go_num, by rw [HS.out]; go_num, rfl, .inr (by rw [HS.out]; omega), HN'.out, by rw [HW2.out, HW.out, World.drewN_drewN]; rfl⟩
            | succ g2 =>
              have hjz : (j : Int) < (l[k].size : Int) := by omega
              have hj : j < l[k].size := by omega
              have hcb : (((l[k])[j].toNat : Int) == (sep[0].toNat : Int)) = false := by
                rw [beq_eq_false_iff_ne]; intro h
                have e : (l[k])[j] = c := (UInt8.toNat_inj.1 (by omega)).trans HC.out
                exact HI.out (List.mem_of_getElem? ((at_some l[k] j hj).trans (by rw [e])))
              go_wp2
              go_quiet (fail)
              go_wp2
              go_roundg g2
              case measure => omega
              case rel => exact ⟨j + 1, n + nq, by omega, by go_num, rfl, by rw [HW2.out, World.drewN_drewN]; rfl⟩
end Go.Proofs.YtmmjbdffpgohdaaDoor
