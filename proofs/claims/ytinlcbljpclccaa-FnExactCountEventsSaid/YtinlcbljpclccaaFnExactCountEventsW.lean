/- The law FnExactCountEvents's walk. Condition: sizes. -/
import Derived.Test.YtinlcbljpclccaaBpD
import Derived.Test.YtinlcbljpclccaaBoG
import Derived.Test.YtinlcbljpclccaaBevA
import Derived.Test.YtinlcbljpclccaaMarkW
import Derived.Deep.DeepCutAuto
import Derived.Deep.RegionHeld3
namespace Go.Proofs.Ytinlcbljpclccaa
open Go.RowKit
set_option linter.unusedVariables false
set_option maxRecDepth 100000 in
set_option maxHeartbeats 4000000 in
theorem FnExactCountEvents_walk (v0 : Value) (l : List Bev) (k : ByteArray) (w : World) (hr0 : Rs w v0 l.length (bevs l)) (hn0 : l.length ≤ maxLen) (hz0 : ∀ z ∈ l, z.wf) (hw1 : k.size ≤ maxLen) :
    Calls Try.prog 11 #[v0, .string k] w fun e w' => e = .returned (.bool true) ∧ Below w.heap.size w w' := by
  have HR0 := Lib.hid hr0
  have HZ := Lib.hid hz0
  clear hr0 hz0
  have hm0 := hn0
  unfold maxLen at hm0
  have HK := Lib.hid hw1
  have hk1 := hw1
  unfold maxLen at hk1
  clear hw1
  by_cases hks : (1048576 : Int) < (k.size : Int)
  · obtain ⟨a0, ca0, rfl⟩ := HR0.out.shape
    go_enter Try.func11, Try.ntmps11
    go_wp2_with fail
    go_ret
    exact ⟨rfl, Below.refl _ _⟩
  by_cases hsz : l.length + totBev l ≤ 1048576
  · have hs1 : ((l.length + totBev l : Nat) : Int) ≤ 1048576 := by omega
    have h1 : l.length ≤ 1048576 := by omega
    have hs2 : ¬ (1048576 - ((l.length + totBev l : Nat) : Int) < 0) := by omega
    have hs3 : ¬ (1048576 - ((l.length : Int) + (totBev l : Int)) < 0) := by omega
    go_enter Try.func11, Try.ntmps11
    have t0 := Below.refl w.heap.size w
    go_wp2_with fail
    refine (szBoardEventS_ok v0 l _ _ (HR0.out.below t0 rfl) (by omega) hs1).mono ?_
    rintro e W1 ⟨rfl, b1⟩
    have t2 := t0.trans (b1.mono t0.size)
    go_wp2_with fail
    refine (toBoardEventS_any v0 l _ (HR0.out.below t2 rfl) h1).mono ?_
    rintro e W3 ⟨vs, rfl, ns, b3⟩
    have t4 := t2.trans (b3.mono t2.size)
    have os := ns
    have ls := betw_of os
    go_wp2_with fail
    refine (specCountEvents_c vs l k _ (Rs.of_own os) hn0).mono ?_
    rintro e W5 ⟨rfl, b5⟩
    have os := owns_below os b5
    have t6 := t4.trans (b5.mono t4.size)
    go_wp2_with fail
    refine (toBoardEventS_any v0 l _ (HR0.out.below t6 rfl) h1).mono ?_
    rintro e W7 ⟨vx, rfl, nx, b7⟩
    have os := owns_below os b7
    have t8 := t6.trans (b7.mono t6.size)
    have ox := nx
    have lx := betw_of ox
    go_wp2_with fail
    refine (implCountEvents_c vx l k _ (Rs.of_own ox) hn0).mono ?_
    rintro e W9 ⟨rfl, b9⟩
    have os := owns_below os b9
    have ox := owns_below ox b9
    have t10 := t8.trans (b9.mono t8.size)
    go_wp2_with fail
    refine (toBoardEventS_any v0 l _ (HR0.out.below t10 rfl) h1).mono ?_
    rintro e W11 ⟨vy, rfl, ny, b11⟩
    have os := owns_below os b11
    have ox := owns_below ox b11
    have t12 := t10.trans (b11.mono t10.size)
    have oy := ny
    have ly := betw_of oy
    go_wp2_with fail
    refine (eqBoardEventS_same vx vy l _ (Rs.of_own ox) (Rs.of_own oy)).mono ?_
    rintro e W13 ⟨rfl, b13⟩
    have os := owns_below os b13
    have ox := owns_below ox b13
    have oy := owns_below oy b13
    have t14 := t12.trans (b13.mono t12.size)
    go_wp2_with fail
    go_ret
    exact ⟨rfl, t14⟩
  · have hs1 : (1048576 : Int) < ((l.length + totBev l : Nat) : Int) := by omega
    go_enter Try.func11, Try.ntmps11
    have t0 := Below.refl w.heap.size w
    go_wp2_with fail
    refine (szBoardEventS_big v0 l _ _ (HR0.out.below t0 rfl) (by omega) (by omega) hn0 (fun z hz => (HZ.out z hz).1) hs1).mono ?_
    rintro e W15 ⟨rfl, b15⟩
    have t16 := t0.trans (b15.mono t0.size)
    go_wp2_with fail
    go_ret
    exact ⟨rfl, t16⟩
end Go.Proofs.Ytinlcbljpclccaa
