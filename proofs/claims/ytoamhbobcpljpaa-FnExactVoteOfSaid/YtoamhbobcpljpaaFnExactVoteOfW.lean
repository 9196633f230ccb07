/- The law FnExactVoteOf's walk. Condition: sizes. -/
import Derived.Test.YtoamhbobcpljpaaVotB
import Derived.Test.YtoamhbobcpljpaaIntC
import Derived.Test.YtoamhbobcpljpaaToInt
namespace Go.Proofs.Ytoamhbobcpljpaa
open Go.RowKit
set_option linter.unusedVariables false
set_option maxRecDepth 100000 in
set_option maxHeartbeats 4000000 in
theorem FnExactVoteOf_walk (v0 : Value) (l : List Int) (w : World) (hr0 : Rd w v0 (intVs l)) (hn0 : l.length ≤ maxLen) :
    Calls Try.prog 5 #[v0] w fun e w' => e = .returned (.bool true) ∧ Below w.heap.size w w' := by
  have hsh0 : ∃ a c, v0 = .slice a l.length c := by rcases hr0 with ⟨h0, a, c, rfl⟩ | ⟨b, off, c, rfl, _⟩ <;> simp_all [intVs]
  obtain ⟨as0, cs0, rfl⟩ := hsh0
  have HR0 := Lib.hid hr0
  clear hr0
  have hm0 := hn0
  unfold maxLen at hm0
  by_cases hq0 : l.length ≤ 1048576
  · skip
    have hl0 : l.length ≤ 1048576 := by omega
    have hg0 : ¬ ((1048576 : Int) < (l.length : Int)) := by omega
    go_enter Try.func5, Try.ntmps5
    go_wp2_with fail
    have t0 := Below.refl w.heap.size w
    go_wp2_with fail
    refine (toIntS_any _ l _ (HR0.out.below t0 rfl) hl0).mono ?_
    rintro e W1 ⟨vs0, rfl, ns0, b1⟩
    have t1 := t0.trans (b1.mono t0.size)
    have z1 := b1.size
    have os0 := ns0
    have ls0 := betw_of os0
    go_wp2_with fail
    refine (specVoteOf_c vs0 l _ (Rd.of_own os0) hl0).mono ?_
    rintro e W2 ⟨rfl, b2⟩
    have os0 := owns_below os0 b2
    have t2 := t1.trans (b2.mono t1.size)
    have z2 := b2.size
    go_wp2_with fail
    refine (toIntS_any _ l _ (HR0.out.below t2 rfl) hl0).mono ?_
    rintro e W3 ⟨vx0, rfl, nx0, b3⟩
    have t3 := t2.trans (b3.mono t2.size)
    have z3 := b3.size
    have ox0 := nx0
    have lx0 := betw_of ox0
    go_wp2_with fail
    refine (implVoteOf_c vx0 l _ (Rd.of_own ox0) hl0).mono ?_
    rintro e W4 ⟨rfl, b4⟩
    have ox0 := owns_below ox0 b4
    have t4 := t3.trans (b4.mono t3.size)
    have z4 := b4.size
    go_wp2_with fail
    refine (toIntS_any _ l _ (HR0.out.below t4 rfl) hl0).mono ?_
    rintro e W5 ⟨vy0, rfl, ny0, b5⟩
    have ox0 := owns_below ox0 b5
    have t5 := t4.trans (b5.mono t4.size)
    have z5 := b5.size
    have oy0 := ny0
    have ly0 := betw_of oy0
    go_wp2_with fail
    refine (eqIntS_c vx0 vy0 l _ (Rd.of_own ox0) (Rd.of_own oy0)).mono ?_
    rintro e W6 ⟨rfl, b6⟩
    have ox0 := owns_below ox0 b6
    have oy0 := owns_below oy0 b6
    have t6 := t5.trans (b6.mono t5.size)
    have z6 := b6.size
    go_wp2_with fail
    go_ret
    exact ⟨rfl, t6⟩
  · skip
    have hg0 : (1048576 : Int) < (l.length : Int) := by omega
    go_enter Try.func5, Try.ntmps5
    go_wp2
    go_ret
    exact ⟨rfl, Below.refl _ _⟩
end Go.Proofs.Ytoamhbobcpljpaa
