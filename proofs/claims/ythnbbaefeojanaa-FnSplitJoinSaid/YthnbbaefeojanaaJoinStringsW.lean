/- The law FnExactJoinStrings's walk. Condition: each string has at most maxLen bytes. -/
import Derived.Test.YthnbbaefeojanaaJoinImpl
import Derived.Test.YthnbbaefeojanaaStrTo
namespace Go.Proofs.Ythnbbaefeojanaa
open Go.RowKit
set_option linter.unusedVariables false
set_option maxHeartbeats 1000000 in
theorem joinLaw_far (v : Value) (l : List ByteArray) (sep : ByteArray) (w : World) (hr : Rd w v (l.map Value.string)) (hl : l.length ≤ maxLen) (hz : ∀ x ∈ l, x.size ≤ maxLen) (hp : sep.size ≤ maxLen) (h : 1048576 < sep.size ∨ 1048576 < l.length + szs l) :
    Calls Try.prog 5 #[v, .string sep] w fun e w' => e = .returned (.bool true) ∧ Below w.heap.size w w' := by
  have hp' := hp
  unfold maxLen at hp'
  by_cases h1 : (1048576 : Int) < (sep.size : Int)
  · clear hr hz h
    go_enter Try.func5, Try.ntmps5
    go_wp2_with fail
    go_ret
    exact ⟨rfl, Below.refl _ _⟩
  · have h2 : 1048576 < l.length + szs l := by omega
    have HR := Lib.hid hr
    have HZ := Lib.hid hz
    clear hr hz h
    go_enter Try.func5, Try.ntmps5
    go_wp2_with fail
    refine (szStringS_big _ l _ _ HR.out (by omega) (by omega) hl HZ.out (by omega)).mono ?_
    rintro e w1 ⟨rfl, rfl⟩
    go_wp2_with fail
    go_ret
    exact ⟨rfl, Below.refl _ _⟩
set_option maxHeartbeats 1000000 in
theorem joinLaw_near (v : Value) (l : List ByteArray) (sep : ByteArray) (w : World) (hr : Rd w v (l.map Value.string)) (hp : sep.size ≤ 1048576) (h : l.length + szs l ≤ 1048576) (r : ByteArray) (p : Bool)
    (hS : ∀ (v : Value) (w : World), Rd w v (l.map Value.string) → Calls Try.prog 13 #[v, .string sep] w fun e w' => e = .returned (.tuple #[.string r, .bool p]) ∧ Below w.heap.size w w')
    (hI : ∀ (v : Value) (w : World), Rd w v (l.map Value.string) → Calls Try.prog 12 #[v, .string sep] w fun e w' => e = .returned (.tuple #[.string r, .bool p]) ∧ Below w.heap.size w w') :
    Calls Try.prog 5 #[v, .string sep] w fun e w' => e = .returned (.bool true) ∧ Below w.heap.size w w' := by
  have HS := Lib.hid hS
  have HI := Lib.hid hI
  have HR := Lib.hid hr
  clear hS hI hr
  have hn : l.length ≤ 1048576 := by omega
  go_enter Try.func5, Try.ntmps5
  go_wp2_with fail
  refine (szStringS_ok _ l _ _ HR.out (by omega) (by omega)).mono ?_
  rintro e w1 ⟨rfl, rfl⟩
  go_wp2_with fail
  refine (toStringS_any _ l _ HR.out hn).mono ?_
  rintro e w1 ⟨v1, rfl, o1, b1⟩
  have HR1 := Lib.hid (HR.out.below b1 rfl)
  have R1 := Lib.hid (Rd.of_own o1)
  clear o1
  go_wp2_with fail
  refine (HS.out _ _ R1.out).mono ?_
  rintro e w2 ⟨rfl, b2⟩
  have HR2 := Lib.hid (HR1.out.below b2 rfl)
  go_wp2_with fail
  refine (toStringS_any _ l _ HR2.out hn).mono ?_
  rintro e w3 ⟨v3, rfl, o3, b3⟩
  have HR3 := Lib.hid (HR2.out.below b3 rfl)
  have R3 := Lib.hid (Rd.of_own o3)
  clear o3
  go_wp2_with fail
  refine (HI.out _ _ R3.out).mono ?_
  rintro e w4 ⟨rfl, b4⟩
  have HR4 := Lib.hid (HR3.out.below b4 rfl)
  have R4 := Lib.hid (R3.out.below b4 rfl)
  go_wp2_with fail
  refine (toStringS_any _ l _ HR4.out hn).mono ?_
  rintro e w5 ⟨v5, rfl, o5, b5⟩
  have R5 := Lib.hid (Rd.of_own o5)
  have R4' := Lib.hid (R4.out.below b5 rfl)
  clear o5
  go_wp2_with fail
  refine (eqStringS_same _ _ l _ R4'.out R5.out).mono ?_
  rintro e w6 ⟨rfl, m, rfl⟩
  go_wp2_with fail
  go_ret
  refine ⟨rfl, ?_⟩
  have t2 := b1.trans (b2.mono b1.size)
  have t3 := t2.trans (b3.mono t2.size)
  have t4 := t3.trans (b4.mono t3.size)
  have t5 := t4.trans (b5.mono t4.size)
  exact below_drewN t5 m
/-- What both functions come to at one list and separator. -/
def JoinBoth (l : List ByteArray) (sep : ByteArray) (r : ByteArray) (p : Bool) : Prop :=
  (∀ (v : Value) (w : World), Rd w v (l.map Value.string) → Calls Try.prog 13 #[v, .string sep] w fun e w' => e = .returned (.tuple #[.string r, .bool p]) ∧ Below w.heap.size w w') ∧
  (∀ (v : Value) (w : World), Rd w v (l.map Value.string) → Calls Try.prog 12 #[v, .string sep] w fun e w' => e = .returned (.tuple #[.string r, .bool p]) ∧ Below w.heap.size w w')
theorem join_both (l : List ByteArray) (sep : ByteArray) (hp : sep.size ≤ maxLen) (hln : l.length ≤ 1048576) (hsz : szs l ≤ 1048576) : ∃ r p, JoinBoth l sep r p := by
  by_cases ha : l = [] ∨ sep.size ≠ 1
  · exact ⟨⟨#[]⟩, false,
      (fun v w r => (specJoin_arg v l sep w r hp ha).mono fun e w' ⟨h1, h2⟩ => ⟨h1, by subst h2; exact Below.refl _ _⟩),
      (fun v w r => (JoinStrings_arg v l sep w r hp (by unfold maxLen; omega) ha).mono fun e w' ⟨h1, h2⟩ => ⟨h1, by subst h2; exact Below.refl _ _⟩)⟩
  · have h0 : l ≠ [] := fun e => ha (.inl e)
    have h1 : sep.size = 1 := by by_cases e : sep.size = 1; exact e; exact absurd (.inr e) ha
    have hp0 : 0 < sep.size := by omega
    by_cases hok : Jok l sep[0]
    · exact ⟨joinAll l sep, true,
        (fun v w r => (specJoin_yes v l sep _ w r h0 hp0 h1 rfl hok).mono fun e w' ⟨h1, n, h2⟩ => ⟨h1, by subst h2; exact below_drewN (Below.refl _ _) n⟩),
        (fun v w r => JoinStrings_yes v l sep _ w r h0 hp0 h1 rfl hok)⟩
    · exact ⟨⟨#[]⟩, false,
        (fun v w r => (specJoin_no v l sep _ w r h0 hp0 h1 rfl hok hsz hln).mono fun e w' ⟨h1, n, h2⟩ => ⟨h1, by subst h2; exact below_drewN (Below.refl _ _) n⟩),
        (fun v w r => (JoinStrings_no v l sep _ w r h0 hp0 h1 rfl hok hsz hln).mono fun e w' ⟨h1, n, h2⟩ => ⟨h1, by subst h2; exact below_drewN (Below.refl _ _) n⟩)⟩
theorem FnExactJoinStrings_walk (v : Value) (l : List ByteArray) (sep : ByteArray) (w : World) (hr : Rd w v (l.map Value.string)) (hl : l.length ≤ maxLen) (hz : ∀ x ∈ l, x.size ≤ maxLen) (hp : sep.size ≤ maxLen) :
    Calls Try.prog 5 #[v, .string sep] w fun e w' => e = .returned (.bool true) ∧ Below w.heap.size w w' := by
  by_cases h : 1048576 < sep.size ∨ 1048576 < l.length + szs l
  · exact joinLaw_far v l sep w hr hl hz hp h
  · obtain ⟨r, p, h1, h2⟩ := join_both l sep hp (by omega) (by omega)
    exact joinLaw_near v l sep w hr (by omega) (by omega) r p h1 h2
end Go.Proofs.Ythnbbaefeojanaa
