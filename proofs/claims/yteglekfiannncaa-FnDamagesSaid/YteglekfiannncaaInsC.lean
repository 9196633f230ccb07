/- slices.Insert of one damage. Condition: sizes. -/
import Derived.Test.YteglekfiannncaaInsRoom
import Derived.Test.YteglekfiannncaaInsGrow
namespace Go.Proofs.Yteglekfiannncaa
open Go.RowKit
set_option linter.unusedVariables false
set_option maxRecDepth 100000 in
set_option maxHeartbeats 4000000 in
theorem insert_c (s : Value) (l : List Dmg) (i c : Nat) (d : Dmg) (w : World) (B : Nat) (ho : w.ownsRow B 55 3 s l.length (dmgs l)) (hB : B ≤ w.heap.size) (hn : l.length ≤ 15) (hi0 : i ≤ l.length)
    (hc : w.heap[c]? = some (.cells #[.int .i64 d.a, .int .i64 d.s, .int .i64 d.w] 55 (0, 0))) (hne : s.ownBlock ≠ some c) :
    Calls Try.prog 110 #[s, .int .i64 (i : Int), .slice (some ⟨c, 0, none⟩) 1 1] w fun e w' => ∃ g, e = .returned g ∧ w'.ownsRow B 55 3 g (insL l i d).length (dmgs (insL l i d)) ∧ Below B w w' := by
  obtain ⟨i0, hi, hz0, hz1, hz2⟩ := info_parts Try.infoDmg
  have HO := Lib.hid ho
  have HCn := Lib.hid (World.news_of_block hc)
  have HC := Lib.hid hc
  have hcw : c < w.heap.size := (Array.getElem?_eq_some_iff.1 hc).1
  have HI := Lib.hid (And.intro (insL_len l i d hi0) (insL_cells l i d))
  have ei : IntKind.i64.wrap ((i : Int) + 1) = (i : Int) + 1 := IntWalk.i64_in _ (by omega)
  have en : IntKind.i64.wrap ((l.length : Int) + 1) = (l.length : Int) + 1 := IntWalk.i64_in _ (by omega)
  clear hc
  by_cases hin : i = l.length
  · subst hin
    have HIx : Hid (insL l l.length d = l ++ [d]) := Lib.hid (by unfold insL; simp)
    rcases own_form ho with ⟨h0, rfl⟩ | ⟨g, ca, rfl, hBg, hgw, hnc, hcm⟩
    · have H0 : Hid ((insL l 0 d).length = 1 ∧ dmgs (insL l 0 d) = [.int .i64 d.a, .int .i64 d.s, .int .i64 d.w]) := Lib.hid (by rw [List.eq_nil_of_length_eq_zero h0]; simp [insL, flat, Dmg.enc])
      clear ho hne
      go_enter Try.func110, Try.ntmps110
      go_wp2_with (at_builtin; refine wpList_append_any _ rfl _ _ 48 rfl B 55 i0 (.agg #[.int .i64 0, .int .i64 0, .int .i64 0]) 3 24 Try.underlying48 hi hz0 hz1 hz2 rfl (by omega) (.slice none 0 0) 0 [] rfl (World.ownsRow_nil w _ _ _) (some ⟨c, 0, none⟩) 1 1 [.int .i64 d.a, .int .i64 d.s, .int .i64 d.w] rfl rfl (fun _ => ⟨_, rfl, HCn.out⟩) (by simp [Value.oneCell']) (by unfold maxLen; omega) (by omega) hB ?_; intro v' w3 hown' hgrow _)
      go_ret
      refine ⟨v', rfl, ?_, (Below.refl _ _).grown hgrow hB (fun k hk => by simp [Value.ownBlock] at hk)⟩
      rw [H0.out.1, H0.out.2]
      exact hown'
    · by_cases hca : ca = l.length
      · clear ho
        go_enter Try.func110, Try.ntmps110
        go_wp2_with (at_builtin; refine wpList_append_any _ rfl _ _ 48 rfl B 55 i0 (.agg #[.int .i64 0, .int .i64 0, .int .i64 0]) 3 24 Try.underlying48 hi hz0 hz1 hz2 rfl (by omega) (.slice (some ⟨g, 0, none⟩) l.length ca) l.length (dmgs l) rfl HO.out (some ⟨c, 0, none⟩) 1 1 [.int .i64 d.a, .int .i64 d.s, .int .i64 d.w] rfl rfl (fun _ => ⟨_, rfl, HCn.out⟩) (by simp [Value.oneCell']) (by unfold maxLen; omega) (by omega) hB ?_; intro v' w3 hown' hgrow _)
        go_ret
        refine ⟨_, rfl, ?_, (Below.refl _ _).grown hgrow hB (fun k hk => by simp [Value.ownBlock] at hk; omega)⟩
        rw [HIx.out, List.length_append, dmgs_append, dmgs_one]
        exact hown'
      · clear ho
        go_enter Try.func110, Try.ntmps110
        go_wp2_with (at_builtin; refine wpList_append_any _ rfl _ _ 48 rfl B 55 i0 (.agg #[.int .i64 0, .int .i64 0, .int .i64 0]) 3 24 Try.underlying48 hi hz0 hz1 hz2 rfl (by omega) (.slice (some ⟨g, 0, none⟩) l.length ca) l.length (dmgs l) rfl HO.out (some ⟨c, 0, none⟩) 1 1 [.int .i64 d.a, .int .i64 d.s, .int .i64 d.w] rfl rfl (fun _ => ⟨_, rfl, HCn.out⟩) (by simp [Value.oneCell']) (by unfold maxLen; omega) (by omega) hB ?_; intro v' w3 hown' hgrow _)
        go_ret
        refine ⟨_, rfl, ?_, (Below.refl _ _).grown hgrow hB (fun k hk => by simp [Value.ownBlock] at hk; omega)⟩
        rw [HIx.out, List.length_append, dmgs_append, dmgs_one]
        exact hown'
  · have hil : i < l.length := by omega
    rcases own_form ho with ⟨h0, rfl⟩ | ⟨g, ca, rfl, hBg, hgw, hnc, hcm⟩
    · omega
    · have hcg : c ≠ g := fun e => hne (by rw [e]; rfl)
      by_cases hroom : l.length + 1 ≤ ca
      · exact insert_room g ca l i c d w B ho hB hn hil HC.out hcg hBg hgw hnc hcm hroom
      · exact insert_grow g ca l i c d w B ho hB hn hil HC.out hcg hBg hgw hnc hcm hroom
end Go.Proofs.Yteglekfiannncaa
