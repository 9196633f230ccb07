/- The law FnExactParseCabin's walk. Condition: the tables and the library's listed variables are as laid. -/
import Derived.Test.YtphdnanmlajhoabDoorPcSpec
namespace Go.Proofs.YtphdnanmlajhoabDoor
open Go.RowKit
set_option linter.unusedVariables false
set_option maxRecDepth 100000 in
set_option maxHeartbeats 4000000 in
theorem FnExactParseCabin_walk (s : ByteArray) (w : World) (hs : s.size ≤ maxLen) (ht : TabP w) (he : ErrP w) (hm : MlP w) (hst : StaP w) :
    Calls Tryd.prog 4 #[.string s] w fun e w' => e = .returned (.bool true) ∧ Below w.heap.size w w' := by
  have HV : Hid (∀ W, Below w.heap.size w W → PcV W) := Lib.hid (fun W hW => (PcV.mk ht he hm hst).below hW)
  clear ht he hm hst
  by_cases h1 : s.size ≤ 1048576
  · have hb1 : ¬ (1048576 : Int) < (s.size : Int) := by omega
    clear hs
    have E1 := Lib.hid (fun W => specParseCabin_c s W h1)
    have E2 := Lib.hid (fun W hW => implParseCabin_c s W h1 hW)
    unfold PcRes at E1 E2
    generalize pcC s = c at *
    generalize pcOk s = ok at *
    have E3 := Lib.hid (fun W => eqCabin_same c W)
    go_enter Tryd.func4, Tryd.ntmps4
    go_wp2_with fail
    have t0 := Below.refl w.heap.size w
    refine (E1.out _).mono ?_
    rintro e W1 ⟨rfl, b1⟩
    have t1 := t0.trans (b1.mono t0.size)
    have z1 := b1.size
    go_wp2_with fail
    have t1a : Below w.heap.size w (W1.alloc (.cells #[.int .i64 c.i, .int .i64 c.s, .int .i64 c.w, .int .i64 c.g, .int .i64 c.p] 26)) := t1.alloc t1.size _
    refine (E2.out _ (HV.out _ t1a)).mono ?_
    rintro e W2 ⟨rfl, b2⟩
    have t2 := t1a.trans (b2.mono t1a.size)
    have t2a : Below w.heap.size w (W2.alloc (.cells #[.int .i64 c.i, .int .i64 c.s, .int .i64 c.w, .int .i64 c.g, .int .i64 c.p] 26)) := t2.alloc t2.size _
    have b3 : Below (W1.heap.size + 1) (W1.alloc (.cells #[.int .i64 c.i, .int .i64 c.s, .int .i64 c.w, .int .i64 c.g, .int .i64 c.p] 26)) (W2.alloc (.cells #[.int .i64 c.i, .int .i64 c.s, .int .i64 c.w, .int .i64 c.g, .int .i64 c.p] 26)) := (b2.mono (by simp)).alloc (by have := b2.size; simp at this; omega) _
    obtain ⟨y0, y1, y2, y3, y4⟩ := box_Cab W1 c 26 _ rfl _ b3
    obtain ⟨x0, x1, x2, x3, x4⟩ := box_Cab W2 c 26 _ rfl _ (Below.refl _ _)
    have z2 := b2.size
    clear b3
    go_wp2_with fail
    refine (E3.out _).mono ?_
    rintro e W3 ⟨rfl, b4⟩
    have t3 := t2a.trans (b4.mono t2a.size)
    go_wp2_with fail
    go_ret
    exact ⟨rfl, t3⟩
  · have hb1 : (1048576 : Int) < (s.size : Int) := by omega
    clear HV h1 hs
    go_enter Tryd.func4, Tryd.ntmps4
    go_wp2
    go_ret
    exact ⟨rfl, Below.refl _ _⟩
end Go.Proofs.YtphdnanmlajhoabDoor
