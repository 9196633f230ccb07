/- slices.Clone at damages. Condition: sizes. -/
import Derived.Test.YteglekfiannncaaAppAny
import Derived.Test.YteglekfiannncaaAddMath
import Derived.Test.YteglekfiannncaaAreDmgW
import Derived.Lib.SliceRun
namespace Go.Proofs.Yteglekfiannncaa
open Go.RowKit
set_option linter.unusedVariables false
set_option maxRecDepth 100000 in
set_option maxHeartbeats 2000000 in
theorem clone_c (v : Value) (l : List Dmg) (w : World) (B : Nat) (ho : w.ownsRow B 55 3 v l.length (dmgs l)) (hn : l.length ≤ 15) :
    Calls Try.prog 107 #[v] w fun e w' => ∃ g, e = .returned g ∧ w'.ownsRow w.heap.size 55 3 g l.length (dmgs l) ∧ Below w.heap.size w w' := by
  obtain ⟨i0, hi, hz0, hz1, hz2⟩ := info_parts Try.infoDmg
  have HO := Lib.hid ho
  have hq := fun (W : World) (a : Option Addr) (n c : Nat) => Lib.run_eql_slice_nil (P := Try.prog) W 48 55 a n c 0 0 Try.underlying48
  rcases own_form ho with ⟨h0, rfl⟩ | ⟨g, ca, rfl, hBg, hgw, hnc, hcm⟩
  · have H0 := Lib.hid (List.eq_nil_of_length_eq_zero h0)
    clear ho
    go_enter Try.func107, Try.ntmps107
    go_wp2
    go_ret
    refine ⟨_, rfl, ?_, Below.refl _ _⟩
    rw [H0.out]
    exact World.ownsRow_nil w _ _ _
  · clear ho
    have H1 := Lib.hid (dmgs_one_cell l)
    have hld := dmgs_len l
    go_enter Try.func107, Try.ntmps107
    go_wp2_with (at_builtin; refine wpList_append_any _ rfl _ _ 48 rfl w.heap.size 55 i0 (.agg #[.int .i64 0, .int .i64 0, .int .i64 0]) 3 24 Try.underlying48 hi hz0 hz1 hz2 rfl (by omega) (.slice (some ⟨w.heap.size, 0, none⟩) 0 0) 0 [] rfl (World.ownsRow_made w #[] 0 (Nat.le_refl _) (by decide) rfl) (some ⟨g, 0, none⟩) l.length ca (dmgs l) rfl hld (fun _ => ⟨_, rfl, fun j u hu => by
      have h := HO.out.cells (g := g) rfl j u hu
      rw [gs_addr] at h ⊢
      rw [World.cell?_alloc_past _ _ _ hgw]; exact h⟩) H1.out (by unfold maxLen; omega) (by omega) (by simp) ?_; intro v' w3 hown' hgrow _)
    go_ret
    refine ⟨_, rfl, ?_, ((Below.refl _ _).alloc (Nat.le_refl _) _).grown hgrow (by simp) (fun k hk => by simp [Value.ownBlock] at hk; omega)⟩
    rw [show ([] : List Value) ++ dmgs l = dmgs l from rfl, Nat.zero_add] at hown'
    exact hown'
end Go.Proofs.Yteglekfiannncaa
