/- slices.SortFunc at cabins. Condition: at most twelve of them. -/
import Derived.Test.YtiogjocbiagipabDoorCloF
import Derived.Test.YtiogjocbiagipabDoorCloW
import Derived.Shelf.SlSortCmp.NoneTotal
namespace Go.Proofs.YtiogjocbiagipabDoor
open Go.RowKit Go.Sort Go.Shelf Go.Lib
set_option linter.unusedVariables false
theorem lenU (n : Nat) (W : World) (h : n ≤ 12) : Calls Tryd.prog (Tryd.sortCab_ren.f 15) #[.int .u64 n] W fun e w' => (∃ l : Int, e = .returned (.int .i64 l)) ∧ w' = W :=
  (Tryd.bits_Len n W (by omega) (by omega)).mono fun _ _ ⟨he, hw⟩ => ⟨⟨_, he⟩, hw⟩
theorem enters_few : ∀ args w, (callFunc 74 args).run Tryd.prog w = .ok (.enter 74 args) w := enters_of Tryd.func74 (by kernel_rfl) rfl
theorem sort_few (v : Value) (B : Nat) (l : List Cab) (w : World) (ho : w.ownsRow B 34 5 v l.length (cabs l)) (hn : l.length ≤ 12) :
    Calls Tryd.prog 73 #[v, .func (.func 74) #[] #[]] w fun e w' => e = .returned (.tuple #[]) ∧ ∃ d : Array Cab, PermIn 0 l.length l.toArray d ∧ SortedIn (ltOf (cfC false)) 0 l.length d ∧ w'.ownsRow B 34 5 v l.length (cabs d.toList) ∧ w.grownBy w' v.ownBlock := by
  rcases own_form ho with ⟨h0, rfl⟩ | ⟨g, ca, rfl, hBg, hgw, hnc, hcm⟩
  · obtain rfl := List.eq_nil_of_length_eq_zero h0
    refine (show Calls Tryd.prog 73 _ w _ from AnyF.slices_SortFunc_none Tryd.sortCab none 0 _ w).mono ?_
    rintro e w' ⟨he, rfl⟩
    exact ⟨he, #[], ⟨rfl, fun _ _ => rfl, by simp⟩, fun i j _ _ h => by simp at h, ho, World.grownBy.refl _ _⟩
  · have h := AnyQ.slices_SortFunc_small_sorted Tryd.sortCab 5 Tryd.isAgg34 Tryd.sizeOf34 Cab.enc Cab.enc_len cab_cell (cfC false) 74 #[] (cfC_swo false) g 0 ca l.toArray w enters_few (fun m os dk hdk x y => (clo_few x y _).mono fun _ _ ⟨h, g⟩ => ⟨h, g.out⟩) (holdsK_own Cab.enc_len ho) hgw (by simpa using hn) lenU
    refine (show Calls Tryd.prog 73 _ w _ from h).mono ?_
    rintro e w' ⟨he, d, n, os, h1, h2, rfl⟩
    have hds : d.size = l.length := by simpa using h1.1
    refine ⟨he, d, by simpa using h1, by simpa using h2, own_sortedK Cab.enc_len hds ho, grownBy_sortWorldK⟩
theorem enters_worn : ∀ args w, (callFunc 81 args).run Tryd.prog w = .ok (.enter 81 args) w := enters_of Tryd.func81 (by kernel_rfl) rfl
theorem sort_worn (v : Value) (B : Nat) (l : List Cab) (w : World) (ho : w.ownsRow B 34 5 v l.length (cabs l)) (hn : l.length ≤ 12) :
    Calls Tryd.prog 73 #[v, .func (.func 81) #[] #[]] w fun e w' => e = .returned (.tuple #[]) ∧ ∃ d : Array Cab, PermIn 0 l.length l.toArray d ∧ SortedIn (ltOf (cfC true)) 0 l.length d ∧ w'.ownsRow B 34 5 v l.length (cabs d.toList) ∧ w.grownBy w' v.ownBlock := by
  rcases own_form ho with ⟨h0, rfl⟩ | ⟨g, ca, rfl, hBg, hgw, hnc, hcm⟩
  · obtain rfl := List.eq_nil_of_length_eq_zero h0
    refine (show Calls Tryd.prog 73 _ w _ from AnyF.slices_SortFunc_none Tryd.sortCab none 0 _ w).mono ?_
    rintro e w' ⟨he, rfl⟩
    exact ⟨he, #[], ⟨rfl, fun _ _ => rfl, by simp⟩, fun i j _ _ h => by simp at h, ho, World.grownBy.refl _ _⟩
  · have h := AnyQ.slices_SortFunc_small_sorted Tryd.sortCab 5 Tryd.isAgg34 Tryd.sizeOf34 Cab.enc Cab.enc_len cab_cell (cfC true) 81 #[] (cfC_swo true) g 0 ca l.toArray w enters_worn (fun m os dk hdk x y => (clo_worn x y _).mono fun _ _ ⟨h, g⟩ => ⟨h, g.out⟩) (holdsK_own Cab.enc_len ho) hgw (by simpa using hn) lenU
    refine (show Calls Tryd.prog 73 _ w _ from h).mono ?_
    rintro e w' ⟨he, d, n, os, h1, h2, rfl⟩
    have hds : d.size = l.length := by simpa using h1.1
    refine ⟨he, d, by simpa using h1, by simpa using h2, own_sortedK Cab.enc_len hds ho, grownBy_sortWorldK⟩
end Go.Proofs.YtiogjocbiagipabDoor
