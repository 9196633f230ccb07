/- slices.Insert of one damage. Condition: sizes. -/
import Derived.Test.YteglekfiannncaaInsDef
namespace Go.Proofs.Yteglekfiannncaa
open Go.RowKit
set_option linter.unusedVariables false
set_option maxRecDepth 100000 in
set_option maxHeartbeats 4000000 in
theorem insert_room (g ca : Nat) (l : List Dmg) (i c : Nat) (d : Dmg) (w : World) (B : Nat) (ho : w.ownsRow B 55 3 (.slice (some ⟨g, 0, none⟩) l.length ca) l.length (dmgs l)) (hB : B ≤ w.heap.size) (hn : l.length ≤ 15) (hil : i < l.length)
    (hc : w.heap[c]? = some (.cells #[.int .i64 d.a, .int .i64 d.s, .int .i64 d.w] 55 (0, 0))) (hcg : c ≠ g) (hBg : B ≤ g) (hgw : g < w.heap.size) (hnc : l.length ≤ ca) (hcm : ca ≤ maxLen) (hroom : l.length + 1 ≤ ca) :
    Calls Try.prog 110 #[.slice (some ⟨g, 0, none⟩) l.length ca, .int .i64 (i : Int), .slice (some ⟨c, 0, none⟩) 1 1] w fun e w' => ∃ g, e = .returned g ∧ w'.ownsRow B 55 3 g (insL l i d).length (dmgs (insL l i d)) ∧ Below B w w' := by
  have hi0 : i ≤ l.length := by omega
  obtain ⟨i0, hi, hz0, hz1, hz2⟩ := info_parts Try.infoDmg
  have HO := Lib.hid ho
  have HCn := Lib.hid (World.news_of_block hc)
  have HC := Lib.hid hc
  have hcw : c < w.heap.size := (Array.getElem?_eq_some_iff.1 hc).1
  have HI := Lib.hid (And.intro (insL_len l i d hi0) (insL_cells l i d))
  have ei : IntKind.i64.wrap ((i : Int) + 1) = (i : Int) + 1 := IntWalk.i64_in _ (by omega)
  have en : IntKind.i64.wrap ((l.length : Int) + 1) = (l.length : Int) + 1 := IntWalk.i64_in _ (by omega)
  clear hc
  have hiI : (i : Int) < (l.length : Int) := by omega
  have hne2 : ((i : Int) == (l.length : Int)) = false := by rw [beq_eq_false_iff_ne]; omega
  have hci : ¬ ca = i := by omega
  have HX1 := Lib.hid (dmgs_one_cell (l.drop i))
  have hxl : (dmgs (l.drop i)).length = (l.length - i) * 3 := by rw [dmgs_len, List.length_drop]
  have hal : (dmgs (l.take i)).length = i * 3 := dmgs_take_len l i (by omega)
  have HSp : Hid (dmgs l = dmgs (l.take i) ++ dmgs (l.drop i)) := Lib.hid (by rw [← dmgs_append, List.take_append_drop])
  have HSr : Hid (∀ j u, (dmgs (l.drop i))[j]? = some u → w.cell? ⟨g, i * 3 + j, none⟩ = some u) := Lib.hid (fun j u hu => by
    have h := HO.out.cells (g := g) rfl (i * 3 + j) u (by rw [HSp.out, List.getElem?_append_right (by omega), hal, Nat.add_sub_cancel_left]; exact hu)
    rw [gs_addr] at h; simpa using h)
  have zb1 : (0 : Int) ≤ (i : Int) := by omega
  have zb2 : (i : Int) ≤ (l.length : Int) := by omega
  have zb3 : (i : Int) ≤ (l.length : Int) + 1 := by omega
  have zb4 : (0 : Int) ≤ (i : Int) + 1 := by omega
  have zb5 : (i : Int) + 1 ≤ (l.length : Int) + 1 := by omega
  have zb6 : ((i : Int) + 1).toNat = i + 1 := by omega
  have zb7 : ((l.length : Int) + 1).toNat = l.length + 1 := by omega
  have zb8 : ¬ ((i : Int) + 1 < 0) := by omega
  have zb9 : (0 : Int) ≤ (l.length : Int) + 1 := by omega
  have zb10 : (l.length : Int) + 1 ≤ (ca : Int) := by omega
  have zb11 : (i : Int) + 1 ≤ (ca : Int) := by omega
  have zb12 : (i : Int) ≤ (ca : Int) := by omega
  have hcap1 : ¬ (ca : Int) < (l.length : Int) + 1 := by omega
  have hci1 : ¬ ca = i + 1 := by omega
  rcases ho.2 with ⟨h', _⟩ | ⟨g', cap', cur, h', _, hg, _, _, hcs, htake⟩
  · simp at h'
  · simp only [Value.slice.injEq, Option.some.injEq, Addr.mk.injEq, and_true, true_and] at h'
    obtain ⟨rfl, rfl⟩ := h'
    have HG : Hid (w.heap[g]? = some (.cells cur.toList.toArray 55 (0, 0))) := Lib.hid (by simpa using hg)
    have hcl : cur.toList.length = ca * 3 := by simpa using hcs
    have HTk := Lib.hid htake
    clear ho hg hcs htake
    have hov : ∀ lb cb, (callFunc 134 #[.slice (some ⟨c, 0, none⟩) 1 1, .slice (some ⟨g, (i + 1) * 3, none⟩) lb cb]).run Try.prog w = .ok (.value (.bool false)) w := fun lb cb => by
      rw [run_callFunc_extern Try.func134 (by kernel_rfl) (by kernel_rfl) (by kernel_rfl) (e := Extern.SlicesOverlaps.overlaps #[48, 48] #[4]) (by kernel_rfl),
        Lib.run_overlaps_apart w 48 4 55 Try.underlying48 3 sizeOfD ⟨c, 0, none⟩ ⟨g, (i + 1) * 3, none⟩ 1 1 lb cb hcg 55 55 3 (ca * 3) (by simp [World.shape?, HC.out]) (by simp [World.shape?, HG.out]; simpa using hcl) (by omega) (by simp [World.frozen?, HC.out]) (by simp [World.frozen?, HC.out])]
      rfl
    go_enter Try.func110, Try.ntmps110
    go_wp2_with (simp only [hov])
    go_region_held3 (fun _ => True) (trivial)
      ((refine step_copy_at (by rfl) _ _ _ _ (by rfl) 55 3 Try.underlying48 sized g ((i + 1) * 3) _ _ (l.length - i) ⟨g, i * 3, none⟩ _ _ (by rfl) (by rfl) cur.toList 55 (dmgs (l.drop i)) HG.out (by simp only [Nat.min_def]; split <;> omega) hxl (fun j u hu => by rw [gs_addr]; exact HSr.out j u hu) (by omega) HX1.out ?_; intro w4 hc4))
    go_wp2_with (refine wpList_copy_at (o := ⟨some 82, _, _, _, _, _⟩) rfl (.tmp 80) (.tmp 81) 48 48 rfl 55 3 Try.underlying48 sized g (i * 3) _ _ 1 ⟨c, 0, none⟩ 1 1 rfl rfl (splice cur.toList ((i + 1) * 3) (dmgs (l.drop i))) 55 [.int .i64 d.a, .int .i64 d.s, .int .i64 d.w] hc4.row (by simp only [Nat.min_def]; split <;> omega) rfl (fun j u hu => hc4.gr.cell (HCn.out j u hu) (by rw [gs_addr]; simp; exact hcg)) (by rw [length_splice _ _ _ (by omega)]; simp only [List.length_cons, List.length_nil]; omega) (by simp [Value.oneCell']) ?_; intro w5 hc5)
    go_ret
    refine ⟨_, rfl, ⟨by rw [HI.out.2, HI.out.1]; simp only [List.length_append, List.length_cons, List.length_nil]; omega, .inr ⟨g, ca, _, (by rw [HI.out.1]; rfl), hBg, hc5.row, by rw [HI.out.1]; exact hroom, hcm, ?_, ?_⟩⟩, ?_⟩
    · rw [List.size_toArray, length_splice _ _ _ (by rw [length_splice _ _ _ (by omega)]; simp only [List.length_cons, List.length_nil]; omega), length_splice _ _ _ (by omega)]
      exact hcl
    · rw [HI.out.2, HI.out.1]
      have h := ins_up cur.toList (dmgs (l.take i)) (dmgs (l.drop i)) [.int .i64 d.a, .int .i64 d.s, .int .i64 d.w] (i * 3) 3 hal rfl (by
        have h1 := HTk.out
        rw [HSp.out] at h1
        have h2 := congrArg (List.take (i * 3)) h1
        rw [List.take_take, Nat.min_eq_left (by omega), List.take_append_of_le_length (by omega), List.take_of_length_le (l := dmgs (l.take i)) (by omega)] at h2
        exact h2) (by omega)
      rw [hxl, show i * 3 + 3 + (l.length - i) * 3 = (l.length + 1) * 3 by omega] at h
      rw [show (i + 1) * 3 = i * 3 + 3 by omega]
      exact h
    · have h1 := (Below.refl B w).drew
      exact ((h1.grown hc4.gr (by simp; exact hB) (fun k hk => by cases hk; exact hBg)).grown hc5.gr (by have := hc4.gr.size; simp at this; omega) (fun k hk => by cases hk; exact hBg))
end Go.Proofs.Yteglekfiannncaa
