/- The walks of the model's JoinStrings, and of what the laws use around it. Condition: sizes. -/
import Derived.Test.YthnbbaefeojanaaRows
import Derived.Test.YthnbbaefeojanaaRd
import Derived.Test.YthnbbaefeojanaaJoinMath
import Derived.Test.YthnbbaefeojanaaStandsW
import Derived.LoopTactic
import Derived.OwnWalk
import Derived.Below
import Derived.Outline
import Derived.WalkKit
import Derived.Lib.Hide
import Derived.Deep.QuietTactic
import Derived.BigQuiet
import Derived.Laws.MakeOwn
namespace Go.Proofs.Ythnbbaefeojanaa
open Go.RowKit
set_option linter.unusedVariables false
/-- A reader's slice of strings that is not empty. -/
theorem Rd.strs {w : World} {v : Value} {l : List ByteArray} (h : Rd w v (l.map Value.string)) (h0 : l ≠ []) :
    ∃ b off cap, v = .slice (some ⟨b, off, none⟩) l.length cap ∧ b < w.heap.size ∧ l.length ≤ cap ∧ l.length ≤ 9223372036854775807 ∧ ∀ (k : Nat) (h : k < l.length), w.cell? ⟨b, off + k, none⟩ = some (.string l[k]) := by
  rcases h with ⟨h, _⟩ | ⟨b, o, c, h, h1, h2, h3⟩
  · simp at h; exact absurd h h0
  · simp at h h2
    exact ⟨b, o, c, h, h1, h2.1, by have := h2.2; unfold maxLen at this; omega, fun k hk => h3 k _ (by simp [hk])⟩
theorem Rd.slc {w : World} {v : Value} {l : List ByteArray} (h : Rd w v (l.map Value.string)) : ∃ a cap, v = .slice a l.length cap := by
  obtain ⟨a, c, h⟩ := h.lt (base := 0)
  exact ⟨a, c, by simpa using h⟩
theorem Rd.empty {w : World} {v : Value} (h : Rd w v []) : ∃ a cap, v = .slice a 0 cap := by
  rcases h with ⟨_, h⟩ | ⟨b, o, c, h, _⟩
  · exact h
  · exact ⟨_, _, h⟩
set_option maxHeartbeats 400000 in
theorem specJoin_yes (v : Value) (l : List ByteArray) (sep : ByteArray) (c : UInt8) (w : World) (hr : Rd w v (l.map Value.string)) (h0 : l ≠ []) (hp0 : 0 < sep.size) (hp : sep.size = 1) (hc : sep[0] = c) (hok : Jok l c) :
    Calls Try.prog 13 #[v, .string sep] w fun e w' => e = .returned (.tuple #[.string (joinAll l sep), .bool true]) ∧ ∃ n, w' = w.drewN n := by
  obtain ⟨a, oa, ca, rfl, hla, _, hm, hca⟩ := hr.strs h0
  have hn0 : l.length ≠ 0 := by simpa using h0
  have hpb : ((sep.size : Int) != 1) = false := by simp; omega
  have hnb : ((l.length : Int) == 0) = false := by simp; exact h0
  have HA := Lib.hid hca
  have HK := Lib.hid hok
  have HS := Lib.hid (jnK_size l sep hp)
  have hz1 : szs l + (l.length - 1) ≤ 4000 := hok.2
  have HP := Lib.hid hp
  clear hca hr hok hp h0
  go_enter Try.func13, Try.ntmps13
  go_wp2
  go_loopw [6, 7] (fun o i wr => ∃ k m : Nat, k ≤ l.length ∧ i = .int .i64 k ∧ o = .string (jnK l sep k) ∧ Hid (wr = w.drewN m)) (fun _ i _ => l.length - (intOf i).toNat)
  case atStart => exact ⟨0, 0, Nat.zero_le _, rfl, rfl, rfl⟩
  case round =>
    obtain ⟨k, m, hk, rfl, rfl, HW⟩ := hrel
    by_cases hlt : k < l.length
    · have c1 : wr.cell? ⟨a, oa + k, none⟩ = some (.string l[k]) := by rw [HW.out]; exact HA.out k hlt
      have hx : l[k].size ≤ 4000 := by
        have h1 := szs_take l k hlt
        have h2 := szs_take_le l (k + 1)
        omega
      have hsz1 : (jnK l sep k).size ≤ 4000 := by
        rw [HS.out k hk]; have := szs_take_le l k; omega
      have hps : sep.size ≤ 1 := Nat.le_of_eq HP.out
      have E := Lib.hid (show jnK l sep (k + 1) = (if k = 0 then jnK l sep k else jnK l sep k ++ sep) ++ l[k] from by rw [jnK, List.getElem?_eq_getElem hlt]; rfl)
      have hsz2 : (jnK l sep (k + 1)).size ≤ 4000 := by
        rw [HS.out (k + 1) (by omega)]; have := szs_take_le l (k + 1); omega
      have HN := Lib.hid (HK.out.1 l[k] (List.getElem_mem hlt))
      go_wp2
      go_quiet ((go_at_call 31; first | exact Calls.quiet_of_same (l1Stands_no l[k] c _ (by unfold maxLen; omega) HN.out) | exact Calls.quiet_of_same (l1Stands_no l[k] sep[0] _ (by unfold maxLen; omega) (by rw [hc]; exact HN.out))))
      by_cases hk0 : k = 0
      · have hkp : ¬ (0 : Int) < (k : Int) := by omega
        have E2 := Lib.hid (show jnK l sep k ++ l[k] = jnK l sep (k + 1) from by rw [E.out, if_pos hk0])
        have hsum : (jnK l sep k).size + l[k].size ≤ 4000 := by rw [← E2.out, ByteArray.size_append] at hsz2; exact hsz2
        clear hk0
        go_wp2
        go_roundw
        case rel => exact ⟨k + 1, m + nq, by omega, by go_num, by rw [E2.out], by rw [HW.out, World.drewN_drewN]; rfl⟩
        case measure => simp [intOf]; omega
      · have hkp : (0 : Int) < (k : Int) := by omega
        have E2 := Lib.hid (show jnK l sep k ++ sep ++ l[k] = jnK l sep (k + 1) from by rw [E.out, if_neg hk0])
        have hsum : (jnK l sep k).size + sep.size + l[k].size ≤ 4000 := by rw [← E2.out, ByteArray.size_append, ByteArray.size_append] at hsz2; exact hsz2
        go_wp2
        go_roundw
        case rel => exact ⟨k + 1, m + nq, by omega, by go_num, by rw [E2.out], by rw [HW.out, World.drewN_drewN]; rfl⟩
        case measure => simp [intOf]; omega
    · go_wp2
      go_ret2
      obtain rfl : k = l.length := by omega
      exact ⟨ret_sb (jnK_all l sep) rfl, m, HW.out⟩
set_option maxHeartbeats 400000 in
theorem specJoin_arg (v : Value) (l : List ByteArray) (sep : ByteArray) (w : World) (hr : Rd w v (l.map Value.string)) (hp : sep.size ≤ maxLen) (h : l = [] ∨ sep.size ≠ 1) :
    Calls Try.prog 13 #[v, .string sep] w fun e w' => e = .returned (.tuple #[.string ⟨#[]⟩, .bool false]) ∧ w' = w := by
  unfold maxLen at hp
  obtain ⟨a, ca, rfl⟩ := hr.slc
  clear hr
  by_cases h1 : sep.size = 1
  · have h2 : ((sep.size : Int) != 1) = false := by simp; omega
    obtain rfl : l = [] := by rcases h with h | h; exact h; exact absurd h1 h
    clear h1 h
    go_enter Try.func13, Try.ntmps13
    go_wp2
    go_ret2
    exact ⟨rfl, rfl⟩
  · have h2 : ((sep.size : Int) != 1) = true := by simp; omega
    clear h1 h
    go_enter Try.func13, Try.ntmps13
    go_wp2
    go_ret2
    exact ⟨rfl, rfl⟩
set_option maxHeartbeats 1000000 in
theorem specJoin_no (v : Value) (l : List ByteArray) (sep : ByteArray) (c : UInt8) (w : World) (hr : Rd w v (l.map Value.string)) (h0 : l ≠ []) (hp0 : 0 < sep.size) (hp : sep.size = 1) (hc : sep[0] = c) (hok : ¬ Jok l c) (hsz : szs l ≤ 1048576) (hln : l.length ≤ 1048576) :
    Calls Try.prog 13 #[v, .string sep] w fun e w' => e = .returned (.tuple #[.string ⟨#[]⟩, .bool false]) ∧ ∃ n, w' = w.drewN n := by
  obtain ⟨a, oa, ca, rfl, hla, _, hm, hca⟩ := hr.strs h0
  have hn0 : l.length ≠ 0 := by simpa using h0
  have hpb : ((sep.size : Int) != 1) = false := by simp; omega
  have hnb : ((l.length : Int) == 0) = false := by simp; exact h0
  have HA := Lib.hid hca
  have HK := Lib.hid hok
  have HS := Lib.hid (jnK_size l sep hp)
  have HP := Lib.hid hp
  clear hca hr hok hp h0
  go_enter Try.func13, Try.ntmps13
  go_wp2
  go_loopw [6, 7] (fun o i wr => ∃ k m : Nat, k ≤ l.length ∧ i = .int .i64 k ∧ o = .string (jnK l sep k) ∧ (jnK l sep k).size ≤ 4000 ∧ (∀ j, j < k → ∀ h : j < l.length, c ∉ l[j].data.toList) ∧ Hid (wr = w.drewN m)) (fun _ i _ => l.length - (intOf i).toNat)
  case atStart => exact ⟨0, 0, Nat.zero_le _, rfl, rfl, by show 0 ≤ 4000; omega, fun j hj => by omega, rfl⟩
  case round =>
    obtain ⟨k, m, hk, rfl, rfl, hsz1, hnot, HW⟩ := hrel
    have HN := Lib.hid hnot
    clear hnot
    by_cases hlt : k < l.length
    · have c1 : wr.cell? ⟨a, oa + k, none⟩ = some (.string l[k]) := by rw [HW.out]; exact HA.out k hlt
      have hx : l[k].size ≤ 1048576 := by
        have h1 := szs_take l k hlt
        have h2 := szs_take_le l (k + 1)
        omega
      have hps : sep.size ≤ 1 := Nat.le_of_eq HP.out
      have E := Lib.hid (show jnK l sep (k + 1) = (if k = 0 then jnK l sep k else jnK l sep k ++ sep) ++ l[k] from by rw [jnK, List.getElem?_eq_getElem hlt]; rfl)
      by_cases hin : c ∈ l[k].data.toList
      · have HI := Lib.hid hin
        clear hin
        go_wp2
        go_quiet ((go_at_call 31; exact Calls.quiet_of_same (l1Stands_yes l[k] c _ (by unfold maxLen; omega) HI.out)))
        go_wp2
        go_ret2
        exact ⟨rfl, m + nq, by rw [HW.out, World.drewN_drewN]⟩
      · have HI := Lib.hid hin
        clear hin
        have HN' : Hid (∀ j, j < k + 1 → ∀ h : j < l.length, c ∉ l[j].data.toList) := by
          intro j hj hjl
          by_cases e : j = k
          · subst e; exact HI.out
          · exact HN.out j (by omega) hjl
        go_wp2
        go_quiet ((go_at_call 31; exact Calls.quiet_of_same (l1Stands_no l[k] c _ (by unfold maxLen; omega) HI.out)))
        by_cases hk0 : k = 0
        · have hkp : ¬ (0 : Int) < (k : Int) := by omega
          have E2 := Lib.hid (show jnK l sep k ++ l[k] = jnK l sep (k + 1) from by rw [E.out, if_pos hk0])
          have E3 := Lib.hid (show (jnK l sep (k + 1)).size = (jnK l sep k).size + l[k].size from by rw [← E2.out, ByteArray.size_append])
          clear hk0
          by_cases hbig : (4000 : Int) < ((jnK l sep k).size : Int) + (l[k].size : Int)
          · go_wp2
            go_ret2
            exact ⟨rfl, m + nq, by rw [HW.out, World.drewN_drewN]⟩
          · go_wp2
            go_roundw
            case rel => exact ⟨k + 1, m + nq, by omega, by go_num, by rw [E2.out], by rw [E3.out]; omega, HN'.out, by rw [HW.out, World.drewN_drewN]; rfl⟩
            case measure => simp [intOf]; omega
        · have hkp : (0 : Int) < (k : Int) := by omega
          have E2 := Lib.hid (show jnK l sep k ++ sep ++ l[k] = jnK l sep (k + 1) from by rw [E.out, if_neg hk0])
          have E3 := Lib.hid (show (jnK l sep (k + 1)).size = (jnK l sep k).size + sep.size + l[k].size from by rw [← E2.out, ByteArray.size_append, ByteArray.size_append])
          by_cases hbig : (4000 : Int) < ((jnK l sep k).size : Int) + (sep.size : Int) + (l[k].size : Int)
          · go_wp2
            go_ret2
            exact ⟨rfl, m + nq, by rw [HW.out, World.drewN_drewN]⟩
          · go_wp2
            go_roundw
            case rel => exact ⟨k + 1, m + nq, by omega, by go_num, by rw [E2.out], by rw [E3.out]; omega, HN'.out, by rw [HW.out, World.drewN_drewN]; rfl⟩
            case measure => simp [intOf]; omega
    · exfalso
      obtain rfl : k = l.length := by omega
      refine HK.out ⟨fun x hx => ?_, ?_⟩
      · obtain ⟨j, hj, rfl⟩ := List.getElem_of_mem hx
        exact HN.out j hj hj
      · have := HS.out l.length (Nat.le_refl _)
        rw [List.take_length] at this
        omega
end Go.Proofs.Ythnbbaefeojanaa
