/- slices.Insert of one damage. Condition: sizes. -/
import Derived.Test.YteglekfiannncaaInsDef
import Derived.WalkSpells
import Derived.Deep.DeepCutAuto
namespace Go.Proofs.Yteglekfiannncaa
open Go.RowKit
set_option linter.unusedVariables false
set_option maxRecDepth 100000 in
set_option maxHeartbeats 4000000 in
theorem insert_grow (g ca : Nat) (l : List Dmg) (i c : Nat) (d : Dmg) (w : World) (B : Nat) (ho : w.ownsRow B 55 3 (.slice (some ⟨g, 0, none⟩) l.length ca) l.length (dmgs l)) (hB : B ≤ w.heap.size) (hn : l.length ≤ 15) (hil : i < l.length)
    (hc : w.heap[c]? = some (.cells #[.int .i64 d.a, .int .i64 d.s, .int .i64 d.w] 55 (0, 0))) (hcg : c ≠ g) (hBg : B ≤ g) (hgw : g < w.heap.size) (hnc : l.length ≤ ca) (hcm : ca ≤ maxLen) (hroom : ¬ l.length + 1 ≤ ca) :
    Calls Try.prog 110 #[.slice (some ⟨g, 0, none⟩) l.length ca, .int .i64 (i : Int), .slice (some ⟨c, 0, none⟩) 1 1] w fun e w' => ∃ g, e = .returned g ∧ w'.ownsRow B 55 3 g (insL l i d).length (dmgs (insL l i d)) ∧ Below B w w' := by
  have hi0 : i ≤ l.length := by omega
  obtain ⟨i0, hi, hz0, hz1, hz2⟩ := info_parts Try.infoDmg
  have HO := Lib.hid ho
  have HCn := Lib.hid (World.news_of_block hc)
  have HC := Lib.hid hc
  have hcw : c < w.heap.size := (Array.getElem?_eq_some_iff.1 hc).1
  have HI := Lib.hid (And.intro (insL_len l i d hi0) (insL_cells l i d))
  have ei : IntKind.i64.wrap ((i : Int) + 1) = (i : Int) + 1 := IntWalk.i64_in _ (by omega)
  have en : IntKind.i64.wrap ((l.length : Int) + 1) = (l.length : Int) + 1 := IntWalk.i64_in _ (by omega)
  have es : IntKind.i64.wrap ((l.length : Int) + 1 - (i : Int)) = (l.length : Int) + 1 - (i : Int) := IntWalk.i64_in _ (by omega)
  clear hc
  have hiI : (i : Int) < (l.length : Int) := by omega
  have hne2 : ((i : Int) == (l.length : Int)) = false := by rw [beq_eq_false_iff_ne]; omega
  have hci : ¬ ca = i := by omega
  have HX1 := Lib.hid (dmgs_one_cell (l.drop i))
  have hxl : (dmgs (l.drop i)).length = (l.length - i) * 3 := by rw [dmgs_len, List.length_drop]
  have hal : (dmgs (l.take i)).length = i * 3 := dmgs_take_len l i (by omega)
  have HSp : Hid (dmgs l = dmgs (l.take i) ++ dmgs (l.drop i)) := Lib.hid (by rw [← dmgs_append, List.take_append_drop])
  have HSr : Hid (∀ j u, (dmgs (l.drop i))[j]? = some u → w.cell? ⟨g, i * 3 + j, none⟩ = some u) := Lib.hid (fun j u hu => by
    have h := HO.out.cells (g := g) rfl (i * 3 + j) u (by rw [HSp.out, List.getElem?_append_right (by omega), hal, Nat.add_sub_cancel_left]; exact hu)
    rw [gs_addr] at h; simpa using h)
  have zb1 : (0 : Int) ≤ (i : Int) := by omega
  have zb2 : (i : Int) ≤ (l.length : Int) := by omega
  have zb3 : (i : Int) ≤ (l.length : Int) + 1 := by omega
  have zb4 : (0 : Int) ≤ (i : Int) + 1 := by omega
  have zb5 : (i : Int) + 1 ≤ (l.length : Int) + 1 := by omega
  have zb6 : ((i : Int) + 1).toNat = i + 1 := by omega
  have zb7 : ((l.length : Int) + 1).toNat = l.length + 1 := by omega
  have zb8 : ¬ ((i : Int) + 1 < 0) := by omega
  have zb9 : (0 : Int) ≤ (l.length : Int) + 1 := by omega
  have zb12 : (i : Int) ≤ (ca : Int) := by omega
  have zb13 : (i : Int) ≤ (ca : Int) := by omega
  have hcap1 : (ca : Int) < (l.length : Int) + 1 := by omega
  have hcae : ca = l.length := by omega
  obtain ⟨G, hG⟩ : ∃ G, G = grownCap w (l.length + 1) ca 55 := ⟨_, rfl⟩
  have hGn : l.length + 1 ≤ G := by rw [hG]; exact grownCap_ge w _ _ _
  have hGm : G ≤ maxLen := by rw [hG]; exact grownCap_le_maxLen w _ _ _ (by unfold maxLen; omega)
  have hkk : (l.length : Int) + 1 - (i : Int) = ((l.length + 1 - i : Nat) : Int) := by omega
  have hik : i + (l.length + 1 - i) = l.length + 1 := by omega
  have hold : (Builtin.firstCells i0.size i (.slice (some ⟨g, 0, none⟩) i ca)).run Try.prog w.drew = .ok (dmgs (l.take i)).toArray w.drew := by
    rw [hz1]
    exact run_firstCells_some w.drew 3 i ⟨g, 0, none⟩ i ca (dmgs (l.take i)) hal (fun j u hu => HO.out.cells (g := g) rfl j u (by rw [HSp.out, List.getElem?_append_left (List.getElem?_eq_some_iff.1 hu).1]; exact hu))
  obtain ⟨ROW, hROW⟩ : ∃ ROW : Array Value, ROW = (dmgs (l.take i)).toArray ++ Builtin.zeroCells (Value.agg #[.int .i64 0, .int .i64 0, .int .i64 0]).cells (l.length + 1 - i) ++ Builtin.zeroCells (Value.agg #[.int .i64 0, .int .i64 0, .int .i64 0]).cells (G - (l.length + 1)) := ⟨_, rfl⟩
  have hrz : ∀ ty, (Builtin.append_ #[48, 3] ty #[.slice (some ⟨g, 0, none⟩) i ca, .int .i64 ((l.length : Int) + 1 - (i : Int))]).run Try.prog w =
      .ok (.slice (some ⟨w.heap.size, 0, none⟩) (l.length + 1) G) (w.drew.alloc (.cells ROW 55)) := fun ty => by
    have h := Lib.run_append_grow_zeros w 48 3 ty 55 i0 _ .i64 .i64 Try.underlying48 Try.underlying3 hi hz0 (some ⟨g, 0, none⟩) i ca (dmgs (l.take i)) hold (l.length + 1 - i) (by omega) (by omega) (by omega) (by omega) (by rw [hz2]; omega) (by rw [hz2, hik]; exact growslice_fits (by omega) (by omega))
    rw [hik, ← hG, ← hROW] at h
    rw [hkk]
    exact h
  have hRl : ROW.toList.length = G * 3 := by
    rw [hROW]
    simp [Builtin.zeroCells, Value.cells, hal]
    omega
  have hRt : ROW.toList.take (i * 3) = dmgs (l.take i) := by
    rw [hROW]
    simp only [Array.toList_append, List.append_assoc]
    rw [List.take_append_of_le_length (by simpa using Nat.le_of_eq hal.symm)]
    exact List.take_of_length_le (by simpa using Nat.le_of_eq hal)
  have hGi : ¬ G = i := by omega
  have zb14 : (i : Int) ≤ (G : Int) := by omega
  have zb15 : (i : Int) + 1 ≤ (G : Int) := by omega
  have zb16 : (l.length : Int) + 1 ≤ (G : Int) := by omega
  have hGi1 : ¬ G = i + 1 := by omega
  have HRN : Hid ((w.drew.alloc (.cells ROW 55)).heap[w.heap.size]? = some (.cells ROW.toList.toArray 55 (0, 0))) := Lib.hid (by simpa using heap_alloc_new w.drew (.cells ROW 55))
  have HCa : Hid (∀ j u, ([.int .i64 d.a, .int .i64 d.s, .int .i64 d.w] : List Value)[j]? = some u → (w.drew.alloc (.cells ROW 55)).cell? ((⟨c, 0, none⟩ : Addr).add j) = some u) := Lib.hid (fun j u hu => by
    have h := HCn.out j u hu
    rw [gs_addr] at h ⊢
    rw [World.cell?_alloc_past (w := w.drew) _ c _ hcw]
    exact h)
  have HBa : Hid (Below B w (w.drew.alloc (.cells ROW 55))) := Lib.hid ((Below.refl B w).drew.alloc (by simp; exact hB) _)
  have HSa : Hid (∀ j u, (dmgs (l.drop i))[j]? = some u → (w.drew.alloc (.cells ROW 55)).cell? ⟨g, i * 3 + j, none⟩ = some u) := Lib.hid (fun j u hu => by
    rw [World.cell?_alloc_past (w := w.drew) _ g _ hgw]
    exact HSr.out j u hu)
  have hszN : (w.drew.alloc (.cells ROW 55)).heap.size = w.heap.size + 1 := by simp
  have hgN : g ≠ w.heap.size := by omega
  have hcN : c ≠ w.heap.size := by omega
  clear ho hold hROW hG hkk hik hcae
  generalize hWN : w.drew.alloc (.cells ROW 55) = WN at *
  generalize hN : w.heap.size = N at *
  go_enter Try.func110, Try.ntmps110
  go_upto_region 10 with (at_builtin; refine Lib.wpList_append_run _ rfl _ _ _ _ rfl _ _ rfl rfl _ _ (hrz _) ?_)
  go_wp2_with (refine wpList_copy_at (o := ⟨some 45, _, _, _, _, _⟩) rfl (.tmp 43) (.tmp 44) 48 48 rfl 55 3 Try.underlying48 sized N (i * 3) _ _ 1 ⟨c, 0, none⟩ 1 1 rfl rfl ROW.toList 55 [.int .i64 d.a, .int .i64 d.s, .int .i64 d.w] HRN.out (by simp only [Nat.min_def]; split <;> omega) rfl HCa.out (by simp only [List.length_cons, List.length_nil]; omega) (by simp [Value.oneCell']) ?_; intro w4 hc4)
  go_region_held3 (fun _ => True) (trivial)
    ((refine step_copy_at (by rfl) _ _ _ _ (by rfl) 55 3 Try.underlying48 sized N ((i + 1) * 3) _ _ (l.length - i) ⟨g, i * 3, none⟩ _ _ (by rfl) (by rfl) (splice ROW.toList (i * 3) [.int .i64 d.a, .int .i64 d.s, .int .i64 d.w]) 55 (dmgs (l.drop i)) hc4.row (by simp only [Nat.min_def]; split <;> omega) hxl (fun j u hu => by rw [gs_addr]; exact hc4.gr.cell (HSa.out j u hu) (by simp; exact hgN)) (by rw [length_splice _ _ _ (by simp only [List.length_cons, List.length_nil]; omega)]; omega) HX1.out ?_; intro w5 hc5))
  go_wp2
  go_ret
  refine ⟨_, rfl, ⟨by rw [HI.out.2, HI.out.1]; simp only [List.length_append, List.length_cons, List.length_nil]; omega, .inr ⟨N, G, _, (by rw [HI.out.1]; rfl), hB, hc5.row, by rw [HI.out.1]; exact hGn, hGm, ?_, ?_⟩⟩, ?_⟩
  · rw [List.size_toArray, length_splice _ _ _ (by rw [length_splice _ _ _ (by simp only [List.length_cons, List.length_nil]; omega)]; omega), length_splice _ _ _ (by simp only [List.length_cons, List.length_nil]; omega)]
    exact hRl
  · rw [HI.out.2, HI.out.1]
    have h := ins_down ROW.toList (dmgs (l.take i)) (dmgs (l.drop i)) [.int .i64 d.a, .int .i64 d.s, .int .i64 d.w] (i * 3) 3 hal rfl hRt (by omega)
    rw [hxl, show i * 3 + 3 + (l.length - i) * 3 = (l.length + 1) * 3 by omega] at h
    rw [show (i + 1) * 3 = i * 3 + 3 by omega]
    exact h
  · have h2 := HBa.out.grown hc4.gr (by omega) (fun k hk => by cases hk; exact hB)
    exact (h2.drew).grown hc5.gr (by have := hc4.gr.size; simp; omega) (fun k hk => by cases hk; exact hB)
end Go.Proofs.Yteglekfiannncaa
