/- The walk of impl.IsLine. Condition: sizes. -/
import Derived.Test.YtmmjbdffpgohdaaDoorL2LineW
namespace Go.Proofs.YtmmjbdffpgohdaaDoor
open Go.RowKit
set_option linter.unusedVariables false
set_option maxHeartbeats 4000000 in
theorem IsLine_b (v : Value) (l : List Sup) (b : Bool) (w : World) (hr : Rs w v l.length (sups l)) (hn : l.length ≤ 1048576) (hb : b = true ↔ IsL l) :
    Calls Tryd.prog 9 #[v] w fun e w' => e = .returned (.bool b) ∧ Below w.heap.size w w' := by
  have HB := Lib.hid hb
  clear hb
  by_cases hlen : 2 ≤ l.length ∧ l.length ≤ 8
  · obtain ⟨h2, h8⟩ := hlen
    obtain ⟨a, oa, ca, rfl, hla, hm, hs⟩ := hr.sup (by omega)
    have HS := Lib.hid hs
    clear hs hr
    go_enter Tryd.func9, Tryd.ntmps9
    go_wp2
    go_loopw [17] (fun i wr => ∃ k : Nat, k ≤ l.length ∧ i = .int .i64 k ∧ Below w.heap.size w wr ∧ Hid (∀ i, i < k → OkAt l i)) (fun i _ => l.length - (intOf i).toNat)
    case atStart => exact ⟨0, Nat.zero_le _, rfl, Below.refl _ _, Lib.hid (fun i hi => by omega)⟩
    case round =>
      obtain ⟨k, hk, rfl, hb, HO⟩ := hrel
      have HS1 := Lib.hid (HS.out.below hb hla)
      have hsz := hb.size
      have hla1 : a < wr.heap.size := by omega
      by_cases hlt : k < l.length
      · by_cases hok : OkAt l k
        · have HO1 : Hid (∀ i, i < k + 1 → OkAt l i) := Lib.hid (fun i hi => by
            by_cases e : i = k
            · subst e; exact hok
            · exact HO.out i (by omega))
          obtain ⟨o1, o2, o3, o4, o5⟩ := hok
          by_cases hp : 0 < k
          · obtain ⟨c0, c1, c2⟩ := HS1.out k hlt
            have b0 := (HS1.out (k - 1) (by omega)).1
            have o5 := o5 hp
            generalize (nth l k).a = A at *
            generalize (nth l k).h = B at *
            generalize (nth l (k - 1)).a = C at *
            have hgt : (0 : Int) < (k : Int) := by omega
            go_wp2
            obtain ⟨p1, p2, p3⟩ := pred_in k hp (by omega)
            go_quiet (fail)
            clear p1 p3
            go_wp2
            go_roundw
            case rel => exact ⟨k + 1, by omega, by go_num, below_drewN (hb.alloc hb.size _) _, HO1⟩
            case measure => simp [intOf]; omega
          · obtain rfl : k = 0 := by omega
            clear o5
            obtain ⟨c0, c1, c2⟩ := HS1.out.zero (by omega)
            generalize (nth l 0).a = A at *
            generalize (nth l 0).h = B at *
            go_wp2
            go_quiet (fail)
            go_wp2
            go_roundw
            case rel => exact ⟨0 + 1, by omega, by go_num, below_drewN (hb.alloc hb.size _) _, HO1⟩
            case measure => simp [intOf]; omega
        · have HN : Hid (¬ IsL l) := Lib.hid (fun hl => hok (hl.ok k hlt))
          obtain ⟨c0, c1, c2⟩ := HS1.out k hlt
          rcases okAt_cases hok with (hq | hq) | ⟨o1, o2, (hq | hq)⟩ | ⟨o1, o2, o3, o4, hp, hq⟩
          · clear hok
            generalize (nth l k).a = A at *
            generalize (nth l k).h = B at *
            go_wp2
            go_ret
            exact ⟨ret_bool (b_no HB HN.out), hb.alloc hb.size _⟩
          · clear hok
            generalize (nth l k).a = A at *
            generalize (nth l k).h = B at *
            go_wp2
            go_ret
            exact ⟨ret_bool (b_no HB HN.out), hb.alloc hb.size _⟩
          · clear hok
            generalize (nth l k).a = A at *
            generalize (nth l k).h = B at *
            go_wp2
            go_ret
            exact ⟨ret_bool (b_no HB HN.out), hb.alloc hb.size _⟩
          · clear hok
            generalize (nth l k).a = A at *
            generalize (nth l k).h = B at *
            go_wp2
            go_ret
            exact ⟨ret_bool (b_no HB HN.out), hb.alloc hb.size _⟩
          · clear hok
            have b0 := (HS1.out (k - 1) (by omega)).1
            generalize (nth l k).a = A at *
            generalize (nth l k).h = B at *
            generalize (nth l (k - 1)).a = C at *
            have hgt : (0 : Int) < (k : Int) := by omega
            go_wp2
            obtain ⟨p1, p2, p3⟩ := pred_in k hp (by omega)
            go_quiet (fail)
            clear p1 p3
            go_wp2
            go_ret
            exact ⟨ret_bool (b_no HB HN.out), below_drewN (hb.alloc hb.size _) _⟩
      · obtain ⟨z0, z1, z2⟩ := HS1.out.zero (by omega)
        obtain ⟨y0, y1, y2⟩ := HS1.out (l.length - 1) (by omega)
        have hz : 0 < l.length := by omega
        have hz1 : l.length - 1 < l.length := by omega
        have hz2 : (l.length : Int) - 1 < (l.length : Int) := by omega
        have HE : Hid (b = ((nth l 0).a == 0 && (nth l 0).s && (nth l (l.length - 1)).s)) := Lib.hid (by
          cases b with
          | true => have := HB.out.1 rfl; simp [this.a0, this.s0, this.sl]
          | false =>
            by_cases e : ((nth l 0).a == 0 && (nth l 0).s && (nth l (l.length - 1)).s) = true
            · simp at e
              have : false = true := HB.out.2 ⟨h2, h8, e.1.1, e.1.2, e.2, fun i hi => HO.out i (by omega)⟩
              cases this
            · simpa using e)
        generalize (nth l 0).a = A at *
        generalize (nth l 0).s = S at *
        generalize (nth l (l.length - 1)).s = T at *
        go_wp2
        obtain ⟨p1, p2, p3⟩ := pred_in l.length (by omega) (by omega)
        go_region
        all_goals clear p1 p3
        all_goals go_wp2
        all_goals go_ret
        all_goals exact ⟨ret_bool (by rw [HE.out]; simp_all), ((hb.alloc hb.size _).alloc (by simp; omega) _).drew⟩
  · obtain ⟨a, ca, rfl⟩ := hr.shape
    have HN : Hid (¬ IsL l) := Lib.hid (fun hl => hlen ⟨hl.two, hl.eight⟩)
    by_cases h2 : l.length < 2
    · clear hr hlen
      go_enter Tryd.func9, Tryd.ntmps9
      go_wp2
      go_ret
      exact ⟨ret_bool (b_no HB HN.out), Below.refl _ _⟩
    · have h8 : 8 < l.length := by omega
      clear hr hlen
      go_enter Tryd.func9, Tryd.ntmps9
      go_wp2
      go_ret
      exact ⟨ret_bool (b_no HB HN.out), Below.refl _ _⟩
end Go.Proofs.YtmmjbdffpgohdaaDoor
