/- The fastest profile under limits, the program's: its closure and its two loops. Condition: sizes. -/
import Derived.Test.YtklfipmjdhkkiaaProfM
import Derived.Test.YtklfipmjdhkkiaaProfD
namespace Go.Proofs.Ytklfipmjdhkkiaa
open Go.RowKit
set_option linter.unusedVariables false
set_option maxRecDepth 100000 in
set_option maxHeartbeats 4000000 in
theorem lower_c (J M : Int) (j m n : Nat) (r : List Int) (a : Int) (P Q gb gc B : Nat) (W : World) (hJ : J = (j : Int)) (hM : M = (m : Int)) (hP : W.cell? ⟨P, 0, none⟩ = some (.slice (some ⟨gb, 0, none⟩) n gc)) (hQ : W.cell? ⟨Q, 0, none⟩ = some (.int .i64 a))
    (ho : W.ownsRow B 3 1 (.slice (some ⟨gb, 0, none⟩) n gc) n (intVs r)) (hn : r.length = n) (hn30 : n ≤ 30) (hj : j < n) (hm : m < n) (hx : 0 ≤ r.getD j 0 ∧ r.getD j 0 ≤ 100) (hy : 0 ≤ r.getD m 0 ∧ r.getD m 0 ≤ 100) (ha : 1 ≤ a ∧ a ≤ 20) (hPl : P < W.heap.size) (hPg : P ≠ gb) :
    Calls Try.prog 44 #[.int .i64 J, .int .i64 M, .pointer (some ⟨P, 0, none⟩), .pointer (some ⟨Q, 0, none⟩)] W fun e w' => e = .returned (.tuple #[]) ∧ w'.ownsRow B 3 1 (.slice (some ⟨gb, 0, none⟩) n gc) n (intVs (r.set j (if r.getD m 0 + a < r.getD j 0 then r.getD m 0 + a else r.getD j 0))) ∧ Below B W w' ∧ w'.cell? ⟨P, 0, none⟩ = some (.slice (some ⟨gb, 0, none⟩) n gc) ∧ W.heap.size ≤ w'.heap.size := by
  subst hJ hM
  have hBg := (ho.lt gb rfl).1
  have hBW := (ho.lt gb rfl).2
  have hod := ho.drew
  have c0 : W.drew.cell? ⟨P, 0, none⟩ = some (.slice (some ⟨gb, 0, none⟩) n gc) := hP
  have c1 : W.drew.cell? ⟨Q, 0, none⟩ = some (.int .i64 a) := hQ
  have c2 := (hod.cellAt j (by omega)).trans (int_at (l := r) (by omega))
  have c3 := (hod.cellAt m (by omega)).trans (int_at (l := r) (by omega))
  have f0 := hod.frozenAt j
  have hmn : min (r.getD j 0) (r.getD m 0 + a) = (if r.getD m 0 + a < r.getD j 0 then r.getD m 0 + a else r.getD j 0) := by split <;> omega
  have HX : Hid (∀ Z : Int, W.drew.setCell ⟨gb, j, none⟩ (.int .i64 Z) = W.drew.setCell ⟨gb, j, none⟩ (.int .i64 Z)) := Lib.hid (fun _ => rfl)
  have hzz : (0 : Int) ≤ (if r.getD m 0 + a < r.getD j 0 then r.getD m 0 + a else r.getD j 0) := by split <;> omega
  have HST := Lib.hid (own_set9 hod j (if r.getD m 0 + a < r.getD j 0 then r.getD m 0 + a else r.getD j 0))
  have HG := Lib.hid (hod.stored j (.int .i64 (if r.getD m 0 + a < r.getD j 0 then r.getD m 0 + a else r.getD j 0))).2
  generalize (if r.getD m 0 + a < r.getD j 0 then r.getD m 0 + a else r.getD j 0) = Z at *
  generalize r.getD j 0 = X at *
  generalize r.getD m 0 = Y at *
  have q1 : IntKind.i64.wrap (Y + a) = Y + a := IntWalk.i64_in _ (by omega)
  have t1 : (j : Int) < (n : Int) := by omega
  have t2 : (m : Int) < (n : Int) := by omega
  have HB : Hid (Below B W (W.drew.setCell ⟨gb, j, none⟩ (.int .i64 Z))) := Lib.hid (((Below.refl W.heap.size W).drew.mono (by omega)).setCell (p := ⟨gb, j, none⟩) hBg (.int .i64 Z))
  have HP : Hid ((W.drew.setCell ⟨gb, j, none⟩ (.int .i64 Z)).cell? ⟨P, 0, none⟩ = some (.slice (some ⟨gb, 0, none⟩) n gc)) := Lib.hid ((HG.out.cell_far ⟨P, 0, none⟩ hPl (by simpa using hPg)).trans c0)
  have HS : Hid (W.heap.size ≤ (W.drew.setCell ⟨gb, j, none⟩ (.int .i64 Z)).heap.size) := Lib.hid HG.out.size
  clear ho hP hQ hod HX
  go_enter Try.func44, Try.ntmps44
  go_wp2_with fail
  go_still_tail 14, (by kernel_rfl)
  change wpList _ _ _ _ _ W.drew
  generalize W.drew = w2 at *
  clear c0 c1 c3
  go_wp2
  go_end0
  exact ⟨rfl, HST.out, HB.out, HP.out, HS.out⟩
end Go.Proofs.Ytklfipmjdhkkiaa
