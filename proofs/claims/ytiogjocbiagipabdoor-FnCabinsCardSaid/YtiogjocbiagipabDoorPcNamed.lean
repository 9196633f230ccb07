/- cabinStateNamed. Condition: the table is as laid. -/
import Derived.Test.YtiogjocbiagipabDoorPcMath
namespace Go.Proofs.YtiogjocbiagipabDoor
open Go.RowKit
set_option linter.unusedVariables false
theorem sta_cells {w : World} (h : StaP w) : w.cell? ⟨1, 0, none⟩ = some (.string (staT 0)) ∧ w.cell? ⟨1, 1, none⟩ = some (.string (staT 1)) ∧ w.cell? ⟨1, 2, none⟩ = some (.string (staT 2)) ∧ w.cell? ⟨1, 3, none⟩ = some (.string (staT 3)) :=
  ⟨World.var?_cell gSta h 0, World.var?_cell gSta h 1, World.var?_cell gSta h 2, World.var?_cell gSta h 3⟩
theorem ret_i {a b : Int} (h : a = b) : Ending.returned (.int .i64 a) = .returned (.int .i64 b) := by rw [h]
theorem staT_k (k : Nat) (h : k < 4) : staT (k : Int) = [staT 0, staT 1, staT 2, staT 3][k]'(by simpa using h) := by
  match k, h with
  | 0, _ => rfl
  | 1, _ => rfl
  | 2, _ => rfl
  | 3, _ => rfl
set_option maxRecDepth 100000 in
set_option maxHeartbeats 4000000 in
theorem named_c (s : ByteArray) (w : World) (hs : StaP w) :
    Calls Tryd.prog 61 #[.string s] w fun e w' => e = .returned (.int .i64 (stN s)) ∧ w = w' := by
  obtain ⟨c0, c1, c2, c3⟩ := sta_cells hs
  have i0 : ∀ w, (Instr.index 69 (.agg #[.string (staT 0), .string (staT 1), .string (staT 2), .string (staT 3)]) (.int .i64 0)).run Tryd.prog w = .ok (.string (staT 0)) w := fun _ => by kernel_rfl
  have i1 : ∀ w, (Instr.index 69 (.agg #[.string (staT 0), .string (staT 1), .string (staT 2), .string (staT 3)]) (.int .i64 1)).run Tryd.prog w = .ok (.string (staT 1)) w := fun _ => by kernel_rfl
  have i2 : ∀ w, (Instr.index 69 (.agg #[.string (staT 0), .string (staT 1), .string (staT 2), .string (staT 3)]) (.int .i64 2)).run Tryd.prog w = .ok (.string (staT 2)) w := fun _ => by kernel_rfl
  have i3 : ∀ w, (Instr.index 69 (.agg #[.string (staT 0), .string (staT 1), .string (staT 2), .string (staT 3)]) (.int .i64 3)).run Tryd.prog w = .ok (.string (staT 3)) w := fun _ => by kernel_rfl
  go_enter Tryd.func61, Tryd.ntmps61
  go_wp2_with fail
  go_loopw [6] (fun i wr => ∃ k : Nat, k ≤ 4 ∧ i = .int .i64 k ∧ Hid (∀ j : Nat, j < k → staT j ≠ s) ∧ wr = w) (fun i _ => 4 - (intOf i).toNat)
  case atStart => exact ⟨0, by omega, rfl, Lib.hid (fun j h => absurd h (Nat.not_lt_zero _)), rfl⟩
  case round =>
    obtain ⟨k, hk, rfl, HN, rfl⟩ := hrel
    rcases (by omega : k = 0 ∨ k = 1 ∨ k = 2 ∨ k = 3 ∨ k = 4) with rfl | rfl | rfl | rfl | rfl
    · by_cases he : staT 0 = s
      · have HR : Hid (0 = stN s) := Lib.hid (by subst he; decide)
        have z : ((staT 0).toList == s.toList) = true := by rw [he]; exact beq_self_eq_true _
        clear HN he
        go_wp2
        go_ret
        exact ⟨ret_i HR.out, rfl⟩
      · have HS : Hid (∀ j : Nat, j < 1 → staT j ≠ s) := Lib.hid (fun j hj => by
          by_cases h : j < 0
          · exact HN.out j h
          · have : j = 0 := by omega
            subst this; exact he)
        have z : ((staT 0).toList == s.toList) = false := str_ne he
        clear HN he
        go_wp2
        exact ⟨⟨1, by omega, rfl, HS, trivial⟩, by simp only [intOf]; omega⟩
    · by_cases he : staT 1 = s
      · have HR : Hid (1 = stN s) := Lib.hid (by subst he; decide)
        have z : ((staT 1).toList == s.toList) = true := by rw [he]; exact beq_self_eq_true _
        clear HN he
        go_wp2
        go_ret
        exact ⟨ret_i HR.out, rfl⟩
      · have HS : Hid (∀ j : Nat, j < 2 → staT j ≠ s) := Lib.hid (fun j hj => by
          by_cases h : j < 1
          · exact HN.out j h
          · have : j = 1 := by omega
            subst this; exact he)
        have z : ((staT 1).toList == s.toList) = false := str_ne he
        clear HN he
        go_wp2
        exact ⟨⟨2, by omega, rfl, HS, trivial⟩, by simp only [intOf]; omega⟩
    · by_cases he : staT 2 = s
      · have HR : Hid (2 = stN s) := Lib.hid (by subst he; decide)
        have z : ((staT 2).toList == s.toList) = true := by rw [he]; exact beq_self_eq_true _
        clear HN he
        go_wp2
        go_ret
        exact ⟨ret_i HR.out, rfl⟩
      · have HS : Hid (∀ j : Nat, j < 3 → staT j ≠ s) := Lib.hid (fun j hj => by
          by_cases h : j < 2
          · exact HN.out j h
          · have : j = 2 := by omega
            subst this; exact he)
        have z : ((staT 2).toList == s.toList) = false := str_ne he
        clear HN he
        go_wp2
        exact ⟨⟨3, by omega, rfl, HS, trivial⟩, by simp only [intOf]; omega⟩
    · by_cases he : staT 3 = s
      · have HR : Hid (3 = stN s) := Lib.hid (by subst he; decide)
        have z : ((staT 3).toList == s.toList) = true := by rw [he]; exact beq_self_eq_true _
        clear HN he
        go_wp2
        go_ret
        exact ⟨ret_i HR.out, rfl⟩
      · have HS : Hid (∀ j : Nat, j < 4 → staT j ≠ s) := Lib.hid (fun j hj => by
          by_cases h : j < 3
          · exact HN.out j h
          · have : j = 3 := by omega
            subst this; exact he)
        have z : ((staT 3).toList == s.toList) = false := str_ne he
        clear HN he
        go_wp2
        exact ⟨⟨4, by omega, rfl, HS, trivial⟩, by simp only [intOf]; omega⟩
    · have HR : Hid (-1 = stN s) := Lib.hid (by
        have h0 := HN.out 0 (by omega); have h1 := HN.out 1 (by omega); have h2 := HN.out 2 (by omega); have h3 := HN.out 3 (by omega)
        unfold stN
        rw [if_neg (fun e => h0 e.symm), if_neg (fun e => h1 e.symm), if_neg (fun e => h2 e.symm), if_neg (fun e => h3 e.symm)])
      clear HN
      go_wp2
      go_ret
      exact ⟨ret_i HR.out, rfl⟩
end Go.Proofs.YtiogjocbiagipabDoor
