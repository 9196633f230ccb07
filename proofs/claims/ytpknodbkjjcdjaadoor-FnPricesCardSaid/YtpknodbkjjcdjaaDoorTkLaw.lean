/- What the laws on tickets and prices need. No condition. -/
import Derived.Test.YtpknodbkjjcdjaaDoorTksUse
import Derived.Test.YtpknodbkjjcdjaaDoorTksUp
import Derived.Test.YtpknodbkjjcdjaaDoorChpI
namespace Go.Proofs.YtpknodbkjjcdjaaDoor
open Go.RowKit
set_option linter.unusedVariables false
theorem rl_bd (k : Tik) (D : Int) : (0 ≤ rlU k D ∧ rlU k D ≤ 50) ∧ (0 ≤ rlD k D ∧ rlD k D ≤ 50) := by
  unfold rlU rlD
  cases h : rdOk k D with
  | false => simp
  | true =>
    have h2 : isT k = true := by simp [rdOk] at h; exact h.1
    have := lf_ok h2
    unfold rdU rdD
    simp only [if_true]
    constructor <;> split <;> omega
/-- A used ticket has a ride less. -/
theorem ut_keeps {k : Tik} {d : Int} {u : Bool} (hk : isT k = true) (hd : inR d 0 999 = true) (hc : canT k d u = true) :
    rdOk (usT k u) d = true ∧ (u = true → rlU (usT k u) d = rlU k d - 1) ∧ (u = false → rlD (usT k u) d = rlD k d - 1) := by
  obtain ⟨i, s, w, g, p⟩ := k
  have hi := (isT_iff _).1 hk
  have hks : rdOk ⟨i, s, w, g, p⟩ d = true := by unfold rdOk; rw [hk, hd]; rfl
  have hf : forD ⟨i, s, w, g, p⟩ d = true := by
    cases e : forD ⟨i, s, w, g, p⟩ d with
    | true => rfl
    | false => unfold canT rdU rdD at hc; rw [e] at hc; cases u <;> simp at hc
  have hf2 : forD (usT ⟨i, s, w, g, p⟩ u) d = true := by cases u <;> exact hf
  simp only [] at hi
  have hT : isT (usT ⟨i, s, w, g, p⟩ u) = true := by
    rw [isT_iff]
    unfold canT rdU rdD at hc
    rw [hf] at hc
    unfold usT lfU lfD tE tB at *
    rcases (by omega : s = 0 ∨ s = 1 ∨ s = 2 ∨ s = 3) with rfl | rfl | rfl | rfl <;> cases u <;> simp at hc hi ⊢ <;> omega
  have hko : rdOk (usT ⟨i, s, w, g, p⟩ u) d = true := by unfold rdOk; rw [hT, hd]; rfl
  refine ⟨hko, fun e => ?_, fun e => ?_⟩
  · subst e
    unfold rlU rdU
    rw [hko, hks, hf, hf2]
    unfold lfU usT
    simp only [if_true]
    repeat' split
    all_goals omega
  · subst e
    unfold rlD rdD
    rw [hko, hks, hf, hf2]
    unfold lfD usT
    simp only [if_true]
    repeat' split
    all_goals first | omega | simp_all
    all_goals omega
theorem us_keeps {l : List Tik} {n d : Int} {u : Bool} (h : usOk l n d u = true) (i : Nat) (hi : i < l.length) (hn : (gth (usR l n d u) i).i = n) :
    rdOk (gth l i) d = true ∧ rdOk (gth (usR l n d u) i) d = true ∧ crV (gth l i) d u = true ∧ (u = true → rlU (gth (usR l n d u) i) d = rlU (gth l i) d - 1) ∧ (u = false → rlD (gth (usR l n d u) i) d = rlD (gth l i) d - 1) := by
  rw [us_yes h] at hn ⊢
  unfold usOk at h
  simp only [Bool.and_eq_true, decide_eq_true_eq] at h
  obtain ⟨⟨⟨h1, h2⟩, h3⟩, h4⟩ := h
  have hV := tikL_yes h1
  have e : i = idxT l n := by
    by_cases e : idxT l n = i
    · exact e.symm
    · rw [gth_set_other e] at hn
      exact (idxT_one hV hi hn).symm
  subst e
  rw [gth_set_same h3]
  have hk := hV.one h3
  obtain ⟨a, b, c⟩ := ut_keeps hk h2 h4
  have hko : rdOk (gth l (idxT l n)) d = true := by unfold rdOk; rw [hk, h2]; rfl
  exact ⟨hko, a, by unfold crV; rw [hko, h4]; rfl, b, c⟩
theorem usR_len2 {l : List Tik} {n d : Int} {u : Bool} (h : usOk l n d u = true) : (usR l n d u).length = l.length := by rw [us_yes h]; simp
theorem expd_for {k : Tik} {d : Int} (h : expd d k = true) : forD k d = false := by
  unfold expd at h
  unfold forD inR
  simp at h ⊢
  omega
theorem numsT_mem {l : List Tik} {q : Tik → Bool} {x : Int} (h : x ∈ numsT (l.filter q)) : ∃ j, j < l.length ∧ (gth l j).i = x ∧ q (gth l j) = true := by
  unfold numsT at h
  obtain ⟨y, hy, rfl⟩ := List.mem_map.1 h
  obtain ⟨hyl, hyq⟩ := List.mem_filter.1 hy
  obtain ⟨j, hj, rfl⟩ := List.getElem_of_mem hyl
  exact ⟨j, hj, by rw [gth_get hj], by rw [gth_get hj]; exact hyq⟩
theorem TikV.inj {l : List Tik} (h : TikV l) {i j : Nat} (hi : i < l.length) (hj : j < l.length) (e : (gth l i).i = (gth l j).i) : i = j := by
  rcases Nat.lt_trichotomy i j with g | g | g
  · have := h.nums j hj i g; omega
  · exact g
  · have := h.nums i hi j g; omega
/-- A sold ticket can be used at once, and is not expired. -/
theorem sl_keeps {l : List Tik} {s d : Int} (h : slOk l s d = true) :
    usOk (slR l s d) (slV l s d) d true = true ∧ exOk (slR l s d) d = true ∧ slV l s d ∉ exR (slR l s d) d ∧ tikL (slR l s d) = true ∧ (slR l s d).length ≤ 12 := by
  obtain ⟨e1, e2⟩ := sl_yes h
  rw [e1, e2]
  have hV := tikL_yes h
  have hlen : l.length < (l ++ [nwT l s d]).length := by simp
  have hg : gth (l ++ [nwT l s d]) l.length = nwT l s d := by rw [gth_append_right (Nat.le_refl _), Nat.sub_self]; rfl
  have hone := hV.one hlen
  rw [hg] at hone
  have hi := (isT_iff _).1 hone
  have hd : inR d 0 999 = true := by rw [inR_iff]; exact hi.2.2.1
  have hix : idxT (l ++ [nwT l s d]) (nwN l) = l.length := idxT_one hV hlen (by rw [hg]; rfl)
  have hs : 0 ≤ s ∧ s ≤ 3 := hi.2.1
  have hcan : canT (nwT l s d) d true = true := by
    have hf : forD (nwT l s d) d = true := by
      have := tD_bd s
      unfold forD nwT
      rw [inR_iff]
      simp only []
      omega
    unfold canT rdU
    rw [hf]
    unfold lfU nwT
    rcases (by omega : s = 0 ∨ s = 1 ∨ s = 2 ∨ s = 3) with rfl | rfl | rfl | rfl <;> simp
  have hex : exOk (l ++ [nwT l s d]) d = true := by unfold exOk; rw [show tikL (l ++ [nwT l s d]) = true from h, hd]; rfl
  refine ⟨us_all h hd (by rw [hix]; exact hlen) (by rw [hix, hg]; exact hcan), hex, fun hm => ?_, h, hV.len⟩
  rw [ex_yes hex] at hm
  obtain ⟨j, hj, hjn, hjq⟩ := numsT_mem hm
  have e : j = l.length := hV.inj hj hlen (by rw [hjn, hg]; rfl)
  subst e
  rw [hg] at hjq
  have := tD_bd s
  unfold expd nwT at hjq
  simp at hjq
  omega
/-- An expired ticket has no rides left. -/
theorem ex_keeps {l : List Tik} {d : Int} (h : exOk l d = true) (i : Nat) (hi : i < l.length) :
    rdOk (gth l i) d = true ∧ ((gth l i).i ∈ exR l d → rlU (gth l i) d + rlD (gth l i) d = 0) := by
  have h2 : tikL l = true ∧ inR d 0 999 = true := by simpa [exOk] using h
  have hV := tikL_yes h2.1
  have hko : rdOk (gth l i) d = true := by unfold rdOk; rw [hV.one hi, h2.2]; rfl
  refine ⟨hko, fun hm => ?_⟩
  rw [ex_yes h] at hm
  obtain ⟨j, hj, hjn, hjq⟩ := numsT_mem hm
  have e : j = i := hV.inj hj hi hjn
  subst e
  have hf := expd_for hjq
  unfold rlU rlD rdU rdD
  rw [hko, hf]
  rfl
theorem exR_no {l : List Tik} {d : Int} (h : exOk l d = false) : exR l d = [] := ex_no h
/-- The cheapest ones cost no more than any that were looked at. -/
theorem chD_le {p : Prc} {u v : Int} (hp : prcV p = true) (hu : u ≤ 20) (hv : v ≤ 20) {s r : Int} (hs : 0 ≤ s ∧ s ≤ 20) (hr : 0 ≤ r ∧ r ≤ 20) (z : ChS) :
    ∀ k : Nat, k ≤ 21 → (∀ d : Nat, d < k → 0 ≤ (chD p u v s r z k).least ∧ (chD p u v s r z k).least ≤ chC p u v s r d) ∧ (0 ≤ z.least → 0 ≤ (chD p u v s r z k).least ∧ (chD p u v s r z k).least ≤ z.least) := by
  intro k
  induction k with
  | zero => intro _; exact ⟨fun d hd => by omega, fun h => ⟨h, Int.le_refl _⟩⟩
  | succ k ih =>
    intro hk
    obtain ⟨i1, i2⟩ := ih (by omega)
    have hb := chC_bd hp hu hv hs hr (d := (k : Int)) (by omega)
    have h1 := chU_le (p := p) (u := u) (v := v) (chD p u v s r z k) (s := s) (r := r) (d := (k : Int)) hb.1
    rw [chD_succ]
    refine ⟨fun d hd => ?_, fun h => ?_⟩
    · by_cases e : d = k
      · subst e; exact ⟨h1.1, h1.2.1⟩
      · obtain ⟨j1, j2⟩ := i1 d (by omega)
        exact ⟨h1.1, Int.le_trans (h1.2.2 j1) j2⟩
    · obtain ⟨j1, j2⟩ := i2 h
      exact ⟨h1.1, Int.le_trans (h1.2.2 j1) j2⟩
theorem chB_le {p : Prc} {u v : Int} (hp : prcV p = true) (hu : u ≤ 20) (hv : v ≤ 20) {s : Int} (hs : 0 ≤ s ∧ s ≤ 20) (z : ChS) :
    ∀ k : Nat, k ≤ 21 → (0 < k → 0 ≤ (chB 2 p u v s z k).least ∧ (chB 2 p u v s z k).least ≤ chC p u v s 0 0) ∧ (0 ≤ z.least → 0 ≤ (chB 2 p u v s z k).least ∧ (chB 2 p u v s z k).least ≤ z.least) := by
  intro k
  induction k with
  | zero => intro _; exact ⟨fun h => by omega, fun h => ⟨h, Int.le_refl _⟩⟩
  | succ k ih =>
    intro hk
    obtain ⟨i1, i2⟩ := ih (by omega)
    obtain ⟨d1, d2⟩ := chD_le hp hu hv hs (r := (k : Int)) (by omega) (chB 2 p u v s z k) 2 (by omega)
    rw [chB_succ]
    refine ⟨fun _ => ?_, fun h => ?_⟩
    · by_cases e : k = 0
      · subst e; exact d1 0 (by omega)
      · obtain ⟨j1, j2⟩ := i1 (by omega)
        obtain ⟨m1, m2⟩ := d2 j1
        exact ⟨m1, Int.le_trans m2 j2⟩
    · obtain ⟨j1, j2⟩ := i2 h
      obtain ⟨m1, m2⟩ := d2 j1
      exact ⟨m1, Int.le_trans m2 j2⟩
theorem chS_le {p : Prc} {u v : Int} (hp : prcV p = true) (hu : u ≤ 20) (hv : v ≤ 20) :
    ∀ n : Nat, n ≤ 21 → ∀ s : Nat, s < n → 0 ≤ (chS 2 p u v n).least ∧ (chS 2 p u v n).least ≤ chC p u v s 0 0 := by
  intro n
  induction n with
  | zero => intro _ s hs; omega
  | succ n ih =>
    intro hn s hs
    obtain ⟨b1, b2⟩ := chB_le hp hu hv (s := (n : Int)) (by omega) (chS 2 p u v n) 21 (by omega)
    rw [chS_succ]
    by_cases e : s = n
    · subst e; exact b1 (by omega)
    · obtain ⟨j1, j2⟩ := ih (by omega) s (by omega)
      obtain ⟨m1, m2⟩ := b2 j1
      exact ⟨m1, Int.le_trans m2 j2⟩
theorem ch_keeps {p : Prc} {m n : Int} (h : chOk p m n = true) : ∃ S R D T : Int, chR p m n = [S, R, D, T] ∧ ((0 ≤ S ∧ S ≤ 20) ∧ (0 ≤ R ∧ R ≤ 20) ∧ (0 ≤ D ∧ D ≤ 20) ∧ (0 ≤ T ∧ T ≤ 4)) ∧ chV p m n = S * p.a + R * p.b + D * p.c + T * p.d ∧ (m + n ≤ 20 → chV p m n ≤ (m + n) * p.a) ∧ ((0 ≤ p.a ∧ p.a ≤ 50000) ∧ (0 ≤ p.b ∧ p.b ≤ 50000) ∧ (0 ≤ p.c ∧ p.c ≤ 50000) ∧ (0 ≤ p.d ∧ p.d ≤ 50000)) ∧ (0 ≤ m ∧ m ≤ 20) ∧ (0 ≤ n ∧ n ≤ 20) ∧ (0 ≤ chV p m n ∧ chV p m n ≤ 4000000) := by
  obtain ⟨hp, hm, hn⟩ := (chOk_iff p m n).1 h
  obtain ⟨e1, e2⟩ := ch_yes h
  obtain ⟨o1, o2⟩ := ChOk.sings hp hm.2 hn.2 (m := 2) (by omega) 21 (Nat.le_refl _)
  have o3 := o2 (by omega)
  rcases o1.bd with hlt | ⟨b0, b1, b2, b3, b4, b5, b6⟩
  · exact absurd o3 (by omega)
  refine ⟨_, _, _, _, e1, ⟨b3, b4, b5, b6⟩, by rw [e2]; exact b2, fun hs => ?_, (prcV_iff p).1 hp, hm, hn, by rw [e2]; exact ⟨b0, b1⟩⟩
  have h3 := (chS_le hp hm.2 hn.2 21 (Nat.le_refl _) (m + n).toNat (by omega)).2
  have e3 : (((m + n).toNat : Nat) : Int) = m + n := by omega
  rw [e3] at h3
  rw [e2]
  refine Int.le_trans h3 ?_
  have hT : chT m n (m + n) 0 0 = 0 := by unfold chT; omega
  unfold chC
  rw [hT]
  simp
/-- All sales of all days are all tickets. -/
theorem sa_ones {p : Prc} {l : List Tik} {d : Int} (h : saOk p l d = true) : saOk ⟨1, 1, 1, 1⟩ l d = true ∧ saV ⟨1, 1, 1, 1⟩ l d = saN ⟨1, 1, 1, 1⟩ l d l.length := by
  have h2 : tikL l = true ∧ inR d 0 999 = true := by simp [saOk] at h; exact ⟨h.1.2, h.2⟩
  have h3 : saOk ⟨1, 1, 1, 1⟩ l d = true := by unfold saOk; rw [h2.1, h2.2]; rfl
  exact ⟨h3, sa_yes h3⟩
theorem ones_yes {l : List Tik} {d : Int} {k : Nat} (h : (gth l k).w = d) : saN ⟨1, 1, 1, 1⟩ l d (k + 1) = saN ⟨1, 1, 1, 1⟩ l d k + 1 := by
  rw [saN_yes h]
  have : priT ⟨1, 1, 1, 1⟩ (gth l k).s = 1 := by
    unfold priT; repeat' split
    all_goals rfl
  rw [this]
theorem ones_bd (l : List Tik) (d : Int) (k : Nat) : 0 ≤ saN ⟨1, 1, 1, 1⟩ l d k ∧ saN ⟨1, 1, 1, 1⟩ l d k ≤ k * 50000 := saN_bd rfl l d k
theorem su_nonneg (l : List Tik) : 0 ≤ suV l := by
  cases h : tikL l with
  | false => rw [su_no h]; exact Int.le_refl _
  | true => rw [su_yes h]; exact (upN_bd (tikL_yes h) _ (Nat.le_refl _)).1
end Go.Proofs.YtpknodbkjjcdjaaDoor
