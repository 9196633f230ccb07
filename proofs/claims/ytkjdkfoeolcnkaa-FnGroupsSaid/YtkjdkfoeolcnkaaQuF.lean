/- Queues with groups: impl.filledWith: who of the waiting ones gets into a cabin. Condition: sizes. -/
import Derived.Test.YtkjdkfoeolcnkaaQuC
import Derived.Test.YtkjdkfoeolcnkaaSrtW
import Derived.Test.YtkjdkfoeolcnkaaBlk2
namespace Go.Proofs.Ytkjdkfoeolcnkaa
open Go.RowKit
set_option linter.unusedVariables false
def stF13 (sz : Nat → Int) (qk : Nat → Bool) (m : Nat) (s : Int) : Nat → Int
  | 0 => s
  | c + 1 => sa13 (c == 0) sz qk (stF13 sz qk m s c) m
def preF13 (L : List Nat) (sz : Nat → Int) (qk : Nat → Bool) (s : Int) : Nat → List Nat
  | 0 => []
  | c + 1 => preF13 L sz qk s c ++ gs13 L (tk13 (c == 0) sz qk (stF13 sz qk L.length s c)) L.length
theorem gs13_le {α : Type} [Inhabited α] (l : List α) (p : Nat → Bool) (n : Nat) : (gs13 l p n).length ≤ n := by
  have := gs13_len l p n
  omega
theorem preF13_len (L : List Nat) (sz : Nat → Int) (qk : Nat → Bool) (s : Int) : ∀ c, (preF13 L sz qk s c).length ≤ c * L.length
  | 0 => by simp [preF13]
  | c + 1 => by
    have ih := preF13_len L sz qk s c
    have := gs13_le L (tk13 (c == 0) sz qk (stF13 sz qk L.length s c)) L.length
    unfold preF13
    rw [List.length_append, Nat.add_mul]
    omega
theorem stF13_bd {sz : Nat → Int} {qk : Nat → Bool} {m : Nat} {s : Int} (h0 : 0 ≤ s) (hz : ∀ j, j < m → 0 ≤ sz j) : ∀ c, 0 ≤ stF13 sz qk m s c ∧ stF13 sz qk m s c ≤ s
  | 0 => ⟨h0, Int.le_refl _⟩
  | c + 1 => by
    have ih := stF13_bd (qk := qk) h0 hz c
    have := sa13_bd (b := c == 0) (sz := sz) (qk := qk) ih.1 m hz
    unfold stF13
    omega
theorem gs13_or {α : Type} [Inhabited α] {l : List α} {p q : Nat → Bool} : ∀ n, (∀ k, k < n → p k = true → q k = false) → (gs13 l p n ++ gs13 l q n).Perm (gs13 l (fun k => p k || q k) n)
  | 0, _ => .nil
  | n + 1, h => by
    have ih := gs13_or (l := l) n fun k hk => h k (by omega)
    cases hp : p n with
    | true =>
      have hq := h n (by omega) hp
      rw [gs13_yes hp, gs13_no hq, gs13_yes (by rw [hp]; rfl), List.append_assoc]
      refine List.Perm.trans (List.Perm.append_left _ List.perm_append_comm) ?_
      rw [← List.append_assoc]
      exact ih.append_right _
    | false =>
      cases hq : q n with
      | true =>
        rw [gs13_no hp, gs13_yes hq, gs13_yes (by rw [hp, hq]; rfl), ← List.append_assoc]
        exact ih.append_right _
      | false => rw [gs13_no hp, gs13_no hq, gs13_no (by rw [hp, hq]; rfl)]; exact ih
theorem preF13_two (L : List Nat) (sz : Nat → Int) (qk : Nat → Bool) (s : Int) : (preF13 L sz qk s 2).Perm (gs13 L (in13 sz qk L.length s) L.length) := by
  refine gs13_or L.length fun k hk h => ?_
  have h1 := (tk13_lane h).1
  cases e : tk13 (1 == 0) sz qk (stF13 sz qk L.length s 1) k with
  | false => rfl
  | true =>
    have h2 := (tk13_lane e).1
    rw [h1] at h2
    exact absurd h2 (by decide)
theorem nIs_pair {L : List Nat} (h : L.Pairwise (· < ·)) : (nIs L).Pairwise (fun x y => x ≤ y) := by
  unfold nIs
  exact List.Pairwise.map _ (fun a b hab => by omega) h
theorem gs13_pair {L : List Nat} (h : L.Pairwise (· < ·)) (p : Nat → Bool) : (gs13 L p L.length).Pairwise (· < ·) := by
  unfold gs13
  refine List.Pairwise.map _ ?_ (List.Pairwise.and_mem.1 ((List.pairwise_lt_range).filter p))
  rintro a b ⟨ha, hb, hab⟩
  rw [List.mem_filter, List.mem_range] at ha hb
  rw [gth_get ha.1, gth_get hb.1]
  exact List.pairwise_iff_getElem.1 h a b ha.1 hb.1 hab
/-- Who gets in, in order. -/
def whoL13 (l : List Gro) (s : Int) (L : List Nat) : List Nat := gs13 L (inL13 (szQ l) (qkQ l) s L) L.length
theorem srt_pre (l : List Gro) (s : Int) {L : List Nat} (h : L.Pairwise (· < ·)) : srt (nIs (preF13 L (fun j => szQ l (gth L j)) (fun j => qkQ l (gth L j)) s 2)) = nIs (whoL13 l s L) := by
  refine (srt_one ?_ (nIs_pair (gs13_pair h _))).symm
  exact (List.Perm.map _ (preF13_two L _ _ s)).symm
theorem nIs_one (L : List Nat) (k : Nat) : intVs (nIs (L ++ [k])) = intVs (nIs L) ++ [.int .i64 (k : Int)] := by simp [nIs, intVs]
set_option maxRecDepth 100000 in
set_option maxHeartbeats 4000000 in
theorem filledWith_c (v u : Value) (l : List Gro) (L : List Nat) (s : Int) (w : World) (hr : Rs w v l.length (gros l)) (hu : Rd w u (intVs (nIs L))) (hn : l.length ≤ 12) (hL : L.length ≤ 12) (hsub : ∀ i, i ∈ L → i < l.length) (hsrt : L.Pairwise (· < ·)) (hs : 0 ≤ s ∧ s ≤ 10) (hz : ∀ i, i < l.length → 1 ≤ szQ l i ∧ szQ l i ≤ 8) :
    Calls Try.prog 79 #[v, u, .int .i64 s] w fun e w' => ∃ g, e = .returned g ∧ w'.ownsRow w.heap.size 3 1 g (whoL13 l s L).length (intVs (nIs (whoL13 l s L))) ∧ Below w.heap.size w w' := by
  obtain ⟨i0, hi, hz0, hz1, hz2⟩ := info_parts Try.infoIntR
  obtain ⟨sz, hsz⟩ : ∃ sz, sz = fun j => szQ l (gth L j) := ⟨_, rfl⟩
  obtain ⟨qk, hqk⟩ : ∃ qk, qk = fun j => qkQ l (gth L j) := ⟨_, rfl⟩
  have hzz : ∀ j, j < L.length → 0 ≤ sz j := fun j hj => by
    have := (hz _ (hsub _ (gth_mem hj))).1
    rw [hsz]; simp only []; omega
  have HSB := Lib.hid (fun c => stF13_bd (qk := qk) hs.1 hzz c)
  have HSA := Lib.hid (fun (b : Bool) (S : Int) (h : 0 ≤ S) (j : Nat) (hj : j ≤ L.length) => sa13_bd (b := b) (sz := sz) (qk := qk) h j fun k hk => hzz k (by omega))
  have HPL := Lib.hid (fun c => preF13_len L sz qk s c)
  have HSRT : Hid (srt (nIs (preF13 L sz qk s 2)) = nIs (whoL13 l s L)) := Lib.hid (by rw [hsz, hqk]; exact srt_pre l s hsrt)
  have HWL : Hid ((preF13 L sz qk s 2).length = (whoL13 l s L).length ∧ (whoL13 l s L).length ≤ 12) := Lib.hid (by
    have h1 : (preF13 L sz qk s 2).length = (whoL13 l s L).length := by rw [hsz, hqk]; exact (preF13_two L _ _ s).length_eq
    have h2 := gs13_le L (inL13 (szQ l) (qkQ l) s L) L.length
    exact ⟨h1, by unfold whoL13; omega⟩)
  have HG : Hid (∀ j, j < L.length → gth L j < l.length ∧ (nIs L).getD j 0 = ((gth L j : Nat) : Int) ∧ sz j = (gth l (gth L j)).z ∧ qk j = (gth l (gth L j)).q ∧ 1 ≤ (gth l (gth L j)).z ∧ (gth l (gth L j)).z ≤ 8) := Lib.hid (fun j hj => ⟨hsub _ (gth_mem hj), nIs_at hj, by rw [hsz]; rfl, by rw [hqk]; rfl, hz _ (hsub _ (gth_mem hj))⟩)
  have hul := nIs_len L
  have hsz10 := hs.2
  obtain ⟨ao, a, oa, ca, rfl, hao, hat⟩ := hr.form_Gro
  obtain ⟨uo, b, ob, cb, rfl, huo, hut⟩ := hu.formR
  rw [hul] at huo ⊢
  have HA := Lib.hid hao
  have HL := Lib.hid hat
  have HUA := Lib.hid huo
  have HUL := Lib.hid hut
  clear hr hao hat hu huo hut hsub hsrt hz hzz hsz hqk
  have HUL2 : Hid (∀ W, Below w.heap.size w W → ∀ j, j < L.length → b < w.heap.size → W.cell? ⟨b, ob + j, none⟩ = some (.int .i64 ((gth L j : Nat) : Int))) := Lib.hid (fun W h j hj hb => by
    rw [(h.cell (p := ⟨b, ob + j, none⟩) hb), ← (HG.out j hj).2.1]
    exact HUL.out j (by rw [hul]; exact hj))
  clear HUL hul
  go_enter Try.func79, Try.ntmps79
  go_wp2
  go_loopw [2, 7, 15] (fun ss ins ci wr => ∃ c : Nat, c ≤ 2 ∧ ci = .int .i64 c ∧ ss = .int .i64 (stF13 sz qk L.length s c) ∧ wr.ownsRow w.heap.size 3 1 ins (preF13 L sz qk s c).length (intVs (nIs (preF13 L sz qk s c))) ∧ Hid (ins.ownBlock ≠ some (w.heap.size + 1)) ∧ Hid (wr.heap[w.heap.size + 1]? = some (.cells #[.bool true, .bool false] 4 (0, 0))) ∧ Hid (Below w.heap.size w wr)) (fun _ _ ci _ => 2 - (intOf ci).toNat)
  case atStart =>
    refine ⟨0, by omega, rfl, by first | rfl | trivial, (World.ownsRow_made w #[] 0 (Nat.le_refl _) (by decide) rfl).alloc _, Lib.hid (by simp [Value.ownBlock]), Lib.hid ?_, Lib.hid (((Below.refl _ _).alloc (Nat.le_refl _) _).alloc (by simp) _)⟩
    simpa using heap_alloc_new (w.alloc (.cells #[] 3)) (.cells #[.bool true, .bool false] 4)
  case round =>
    obtain ⟨c, hc2, rfl, rfl, hown, hnb, hlit, hbel⟩ := hrel
    by_cases hcl : c < 2
    · have HC0 : Hid (wr.cell? ⟨w.heap.size + 1, c, none⟩ = some (.bool (c == 0))) := Lib.hid (by
        have e := blk_cell2 hlit.out
        by_cases e0 : c = 0
        · subst e0; exact e.1
        · obtain rfl : c = 1 := by omega
          exact e.2)
      have c9 := HC0.out
      have hbs := hbel.out.size
      have hlq : w.heap.size + 1 < wr.heap.size := (Array.getElem?_eq_some_iff.1 hlit.out).1
      have HST : Hid (stF13 sz qk L.length s (c + 1) = sa13 (c == 0) sz qk (stF13 sz qk L.length s c) L.length) := Lib.hid rfl
      have HPR : Hid (preF13 L sz qk s (c + 1) = preF13 L sz qk s c ++ gs13 L (tk13 (c == 0) sz qk (stF13 sz qk L.length s c)) L.length) := Lib.hid rfl
      have HS0 := HSB.out c
      have hP0 : (preF13 L sz qk s c).length ≤ 24 := by
        have := HPL.out c
        have : c * L.length ≤ 2 * 12 := Nat.mul_le_mul (by omega) hL
        omega
      generalize (c == 0) = bq at *
      generalize stF13 sz qk L.length s c = S0 at *
      generalize preF13 L sz qk s c = A0 at *
      go_wp2
      go_loopw [2, 7, 21] (fun ss ins ji wr => ∃ j : Nat, j ≤ L.length ∧ ji = .int .i64 j ∧ ss = .int .i64 (sa13 bq sz qk S0 j) ∧ wr.ownsRow w.heap.size 3 1 ins (A0 ++ gs13 L (tk13 bq sz qk S0) j).length (intVs (nIs (A0 ++ gs13 L (tk13 bq sz qk S0) j))) ∧ Hid (ins.ownBlock ≠ some (w.heap.size + 1)) ∧ Hid (wr.heap[w.heap.size + 1]? = some (.cells #[.bool true, .bool false] 4 (0, 0))) ∧ Hid (Below w.heap.size w wr)) (fun _ _ ji _ => L.length - (intOf ji).toNat)
      case atStart => exact ⟨0, by omega, rfl, by first | rfl | trivial, by rw [show gs13 L (tk13 bq sz qk S0) 0 = [] from rfl, List.append_nil]; exact hown, hnb, hlit, hbel⟩
      case round =>
        obtain ⟨j, hj, rfl, rfl, hown, hnb, hlit, hbel⟩ := hrel
        by_cases hjl : j < L.length
        · obtain ⟨hil, hin, hzj, hqj, hd1, hd2⟩ := HG.out j hjl
          obtain ⟨rfl, hla, hlm⟩ := HA.out (by omega)
          obtain ⟨rfl, hlb, hlbm⟩ := HUA.out (by omega)
          obtain ⟨c0, c1⟩ := (HL.out.below hbel.out hla) (gth L j) hil
          have cu := HUL2.out wr hbel.out j hjl hlb
          have hbs := hbel.out.size
          have hlq : w.heap.size + 1 < wr.heap.size := (Array.getElem?_eq_some_iff.1 hlit.out).1
          obtain ⟨hS1, hS2⟩ := HSA.out bq S0 HS0.1 j (by omega)
          have HYES : Hid (qk j = bq → sz j ≤ sa13 bq sz qk S0 j → sa13 bq sz qk S0 (j + 1) = sa13 bq sz qk S0 j - sz j ∧ gs13 L (tk13 bq sz qk S0) (j + 1) = gs13 L (tk13 bq sz qk S0) j ++ [gth L j]) := Lib.hid (fun h1 h2 => by
            have ht : tk13 bq sz qk S0 j = true := by unfold tk13; rw [h1, decide_eq_true h2]; simp
            exact ⟨sa13_yes ht, gs13_yes ht⟩)
          have HNO : Hid ((qk j ≠ bq ∨ ¬ sz j ≤ sa13 bq sz qk S0 j) → sa13 bq sz qk S0 (j + 1) = sa13 bq sz qk S0 j ∧ gs13 L (tk13 bq sz qk S0) (j + 1) = gs13 L (tk13 bq sz qk S0) j) := Lib.hid (fun h => by
            have ht : tk13 bq sz qk S0 j = false := by
              unfold tk13
              rcases h with h | h
              · have : (qk j == bq) = false := by simpa using h
                rw [this]; rfl
              · rw [decide_eq_false h, Bool.and_false]
            exact ⟨sa13_no ht, gs13_no ht⟩)
          rw [hzj, hqj] at HYES HNO
          have hgl : (A0 ++ gs13 L (tk13 bq sz qk S0) j).length ≤ 36 := by
            have := gs13_le L (tk13 bq sz qk S0) j
            rw [List.length_append]; omega
          have HAP := Lib.hid (fun k => nIs_one (A0 ++ gs13 L (tk13 bq sz qk S0) j) k)
          have HAS := Lib.hid (fun k => List.append_assoc A0 (gs13 L (tk13 bq sz qk S0) j) [k])
          clear hzj hqj hin
          generalize sa13 bq sz qk S0 j = SJ at *
          generalize gth l (gth L j) = D at *
          generalize hIJ : gth L j = I at *
          have HIJ := Lib.hid hIJ
          clear hIJ
          by_cases hq : D.q = bq
          · have tq : (D.q == bq) = true := by simpa using hq
            by_cases hzs : D.z ≤ SJ
            · obtain ⟨hy1, hy2⟩ := HYES.out hq hzs
              have HY1 := Lib.hid hy1
              have HY2 := Lib.hid hy2
              have tz : decide (D.z ≤ SJ) = true := by simpa using hzs
              clear hy1 hy2 hq
              generalize A0 ++ gs13 L (tk13 bq sz qk S0) j = A1 at *
              have cz : ∀ o, (wr.alloc o).cell? ⟨a, oa + I * 2, none⟩ = some (.int .i64 D.z) := fun o => by rw [World.cell?_alloc_past _ _ _ (show a < wr.heap.size by omega)]; exact c0
              go_wp2_with (at_builtin; go_loud (refine wpList_append_any _ rfl _ _ 31 rfl w.heap.size 3 i0 (.int .i64 0) 1 8 Try.underlying31 hi hz0 hz1 hz2 rfl (by decide) _ _ _ rfl (hown.alloc _) (some ⟨wr.heap.size, 0, none⟩) 1 1 [.int .i64 (I : Int)] rfl rfl (fun _ => ⟨_, rfl, cell_one_new _ _ _⟩) (by simp [Value.oneCell']) (by unfold maxLen; omega) (by omega) (by simp; omega) ?_; intro v' w3 hown' hgrow hat; have c0' : w3.cell? ⟨a, oa + I * 2, none⟩ = some (.int .i64 D.z) := hgrow.cell (cz _) (fun e => by have h9 : w.heap.size ≤ a := (hown.lt _ e.symm).1; omega); have HB3 := Lib.hid ((hbel.out.alloc hbel.out.size _).grown hgrow (by simp; omega) (fun k hk => (hown.lt k hk).1)); have HLT3 := Lib.hid ((hgrow.block (w.heap.size + 1) (by simp; omega) (fun e => hnb.out e.symm)).trans ((heap_alloc_old wr _ hlq).trans hlit.out)); have HNB3 : Hid (v'.ownBlock ≠ some (w.heap.size + 1)) := Lib.hid (fun e => by rcases hat with h | h; exact hnb.out (h.symm.trans e); (rw [h] at e; simp at e; omega)); have HO3 := Lib.hid hown'; clear hown' hgrow hat cz))
              go_roundw
              case rel =>
                have HO4 : w3.ownsRow w.heap.size 3 1 v' (A0.length + (gs13 L (tk13 bq sz qk S0) (j + 1)).length) (intVs (nIs (A0 ++ gs13 L (tk13 bq sz qk S0) (j + 1)))) := by
                  rw [← List.length_append, HY2.out, ← HAS.out, HAP.out, List.length_append]
                  exact HO3.out
                exact ⟨_, v', _, _, ⟨j + 1, by omega, rfl, rfl, HO4, HNB3⟩, by rw [HY1.out], rfl, rfl, by go_num⟩
              case measure => simp [intOf]; omega
            · obtain ⟨hy1, hy2⟩ := HNO.out (.inr hzs)
              have HY1 := Lib.hid hy1
              have HY2 := Lib.hid hy2
              have tz : decide (D.z ≤ SJ) = false := by simpa using hzs
              clear hy1 hy2 hq
              go_wp2
              go_roundw
              case rel => exact ⟨j + 1, by omega, by go_num, by rw [HY1.out], by rw [HY2.out]; exact hown, hnb, hlit, hbel⟩
              case measure => simp [intOf]; omega
          · obtain ⟨hy1, hy2⟩ := HNO.out (.inl hq)
            have HY1 := Lib.hid hy1
            have HY2 := Lib.hid hy2
            have tq : (D.q == bq) = false := by simpa using hq
            clear hy1 hy2 hq
            go_wp2
            go_roundw
            case rel => exact ⟨j + 1, by omega, by go_num, by rw [HY1.out], by rw [HY2.out]; exact hown, hnb, hlit, hbel⟩
            case measure => simp [intOf]; omega
        · obtain rfl : j = L.length := by omega
          go_wp2
          go_roundw
          case rel => exact ⟨c + 1, by omega, by go_num, by rw [HST.out], by rw [HPR.out]; exact hown, hnb, hlit, hbel⟩
          case measure => simp [intOf]; omega
    · obtain rfl : c = 2 := by omega
      obtain ⟨hwl, hw12⟩ := HWL.out
      have E0 := Lib.hid (sortI_c _ (nIs (preF13 L sz qk s 2)) wr w.heap.size (by rw [nIs_len]; exact hown) (by rw [nIs_len]; omega))
      rw [HSRT.out, nIs_len, hwl] at E0
      go_wp2_with fail
      refine (E0.out).mono ?_
      rintro e w3 ⟨rfl, ho3, hg3⟩
      have HB3 := Lib.hid (hbel.out.grown hg3 hbel.out.size (fun k hk => (hown.lt k hk).1))
      have HO3 := Lib.hid ho3
      clear ho3 hg3
      go_wp2
      go_ret
      exact ⟨_, rfl, HO3.out, HB3.out⟩
end Go.Proofs.Ytkjdkfoeolcnkaa
