/- Queues with groups: the sums of the cabins, the queue behind a cabin, and the least cabins against those that come. Condition: each group fits into an empty cabin. -/
import Derived.Test.YtkjdkfoeolcnkaaCabMath13
import Derived.Test.YtkjdkfoeolcnkaaLfMath
namespace Go.Proofs.Ytkjdkfoeolcnkaa
open Go.RowKit
set_option linter.unusedVariables false
variable {sz : Nat → Int} {qk : Nat → Bool} {n : Nat} {s : Int}
theorem sa13_ext {b : Bool} {sz' : Nat → Int} {qk' : Nat → Bool} : ∀ k, (∀ j, j < k → sz j = sz' j ∧ qk j = qk' j) → sa13 b sz qk s k = sa13 b sz' qk' s k
  | 0, _ => rfl
  | k + 1, h => by
    have ih := sa13_ext (b := b) k fun j hj => h j (by omega)
    obtain ⟨h1, h2⟩ := h k (by omega)
    rw [sa13, sa13, ih, h1, h2]
theorem in13_ext {sz' : Nat → Int} {qk' : Nat → Bool} (h : ∀ j, j < n → sz j = sz' j ∧ qk j = qk' j) {k : Nat} (hk : k < n) : in13 sz qk n s k = in13 sz' qk' n s k := by
  obtain ⟨h1, h2⟩ := h k hk
  unfold in13 tk13
  rw [sa13_ext k fun j hj => h j (by omega), sa13_ext n h, h1, h2, sa13_ext (b := false) k fun j hj => h j (by omega)]
theorem gs13_ext {α : Type} [Inhabited α] {l : List α} {p q : Nat → Bool} : ∀ n, (∀ k, k < n → p k = q k) → gs13 l p n = gs13 l q n
  | 0, _ => rfl
  | n + 1, h => by
    have ih := gs13_ext (l := l) n fun k hk => h k (by omega)
    cases e : p n with
    | true => rw [gs13_yes e, gs13_yes (by rw [← h n (by omega)]; exact e), ih]
    | false => rw [gs13_no e, gs13_no (by rw [← h n (by omega)]; exact e), ih]
theorem gth_range13 {n j : Nat} (h : j < n) : gth (List.range n) j = j := by simp [gth, List.getD, h]
theorem gth_map13 {β : Type} [Inhabited β] {L : List Nat} (f : Nat → β) {j : Nat} (h : j < L.length) : gth (L.map f) j = f (gth L j) := gth_map h
theorem gs13_map {α β : Type} [Inhabited α] [Inhabited β] {l : List α} {f : α → β} {p : Nat → Bool} : ∀ n, n ≤ l.length → gs13 (l.map f) p n = (gs13 l p n).map f
  | 0, _ => rfl
  | n + 1, h => by
    have ih := gs13_map (l := l) (f := f) (p := p) n (by omega)
    cases e : p n with
    | true => rw [gs13_yes e, gs13_yes e, ih, List.map_append, gth_map (by omega)]; rfl
    | false => rw [gs13_no e, gs13_no e, ih]
theorem inL13_map {L : List Nat} {f : Nat → Nat} {j : Nat} (h : j < L.length) : inL13 sz qk s (L.map f) j = inL13 (fun i => sz (f i)) (fun i => qk (f i)) s L j := by
  unfold inL13
  rw [List.length_map]
  exact in13_ext (fun k hk => by rw [gth_map13 f hk]; exact ⟨rfl, rfl⟩) h
theorem out13_map {L : List Nat} {f : Nat → Nat} : out13 sz qk s (L.map f) = (out13 (fun i => sz (f i)) (fun i => qk (f i)) s L).map f := by
  unfold out13
  rw [List.length_map, ← gs13_map L.length (Nat.le_refl _)]
  exact gs13_ext _ fun k hk => by rw [inL13_map hk]
theorem map_gth_range {α : Type} [Inhabited α] (L : List α) : (List.range L.length).map (gth L) = L := by
  refine gth_ext (by simp) fun i hi => ?_
  rw [List.length_map, List.length_range] at hi
  rw [gth_map (by simpa using hi), gth_range13 hi]
theorem lf13_ext {sz' : Nat → Int} {qk' : Nat → Bool} (h : ∀ j, j < n → sz j = sz' j ∧ qk j = qk' j) : ∀ c, lf13 sz qk n s c = lf13 sz' qk' n s c
  | 0 => rfl
  | c + 1 => by
    have ih := lf13_ext h c
    show out13 sz qk s (lf13 sz qk n s c) = out13 sz' qk' s (lf13 sz' qk' n s c)
    rw [← ih]
    unfold out13
    refine gs13_ext _ fun k hk => ?_
    congr 1
    exact in13_ext (fun j hj => h _ (lf13_sub c (gth_mem hj))) hk
/-- Behind the first cabin the rest is a queue of its own. -/
theorem lf13_behind {L : List Nat} (hL : lf13 sz qk n s 1 = L) : ∀ c, lf13 sz qk n s (c + 1) = (lf13 (fun j => sz (gth L j)) (fun j => qk (gth L j)) L.length s c).map (gth L)
  | 0 => by rw [hL]; exact (map_gth_range L).symm
  | c + 1 => by
    show out13 sz qk s (lf13 sz qk n s (c + 1)) = _
    rw [lf13_behind hL c, out13_map]
    rfl
theorem nd13_behind {L : List Nat} (hL : lf13 sz qk n s 1 = L) (hz : ∀ i, i < n → sz i ≤ s) (hn : 0 < n) : nd13 sz qk n s = nd13 (fun j => sz (gth L j)) (fun j => qk (gth L j)) L.length s + 1 := by
  have hz' : ∀ i, i < L.length → sz (gth L i) ≤ s := fun i hi => hz _ (lf13_sub (sz := sz) (qk := qk) (s := s) 1 (by rw [hL]; exact gth_mem hi))
  have h1 := (nd13_is (sz := fun j => sz (gth L j)) (qk := fun j => qk (gth L j)) (n := L.length) (s := s) hz').1
  refine nd13_eq ⟨?_, fun j hj => ?_⟩
  · rw [lf13_behind hL, h1.1]; rfl
  · cases j with
    | zero =>
      show List.range n ≠ []
      intro h
      have := congrArg List.length h
      simp at this
      omega
    | succ j =>
      rw [lf13_behind hL]
      intro h
      exact h1.2 j (by omega) (List.map_eq_nil_iff.1 h)
/-- The first cabin. -/
theorem inL13_range {k : Nat} (hk : k < n) : inL13 sz qk s (List.range n) k = in13 sz qk n s k := by
  unfold inL13
  rw [List.length_range]
  exact in13_ext (fun j hj => by rw [gth_range13 hj]; exact ⟨rfl, rfl⟩) hk
theorem ix13_gs (p : Nat → Bool) (n : Nat) : (gs13 (List.range n) p n).map (fun i : Nat => (i : Int)) = ix13 p n := by
  unfold gs13 ix13
  congr 1
  conv => rhs; rw [← List.map_id ((List.range n).filter p)]
  refine List.map_congr_left fun i hi => ?_
  rw [List.mem_filter, List.mem_range] at hi
  exact gth_range13 hi.1
theorem out13_range : out13 sz qk s (List.range n) = (List.range n).filter (fun k => !in13 sz qk n s k) := by
  unfold out13
  rw [List.length_range]
  unfold gs13
  have e : (List.range n).filter (fun j => !inL13 sz qk s (List.range n) j) = (List.range n).filter (fun k => !in13 sz qk n s k) := List.filter_congr fun k hk => by rw [inL13_range (List.mem_range.1 hk)]
  rw [e]
  conv => rhs; rw [← List.map_id ((List.range n).filter _)]
  refine List.map_congr_left fun i hi => ?_
  rw [List.mem_filter, List.mem_range] at hi
  exact gth_range13 hi.1
/-- The groups that are left, as a list. -/
theorem gs13_out {α : Type} [Inhabited α] (l : List α) : gs13 l (fun k => !in13 sz qk n s k) n = (lf13 sz qk n s 1).map (gth l) := by
  show _ = (out13 sz qk s (List.range n)).map (gth l)
  rw [out13_range]; rfl
/-- Sums. -/
theorem sum13_app (a b : List Int) : sum13 (a ++ b) = sum13 a + sum13 b := by
  induction a with
  | nil => simp [sum13]
  | cons x a ih => rw [List.cons_append, sum13_cons, sum13_cons, ih]; omega
theorem su13_list (p : Nat → Bool) (sz : Nat → Int) : ∀ n, su13 p sz n = sum13 (((List.range n).filter p).map sz)
  | 0 => rfl
  | n + 1 => by
    rw [List.range_succ, List.filter_append, List.map_append, sum13_app, ← su13_list p sz n, su13]
    congr 1
    cases h : p n <;> simp [h, sum13]
theorem nodup_perm13 {α : Type} [BEq α] [LawfulBEq α] : ∀ {a b : List α}, a.Nodup → b.Nodup → (∀ x, x ∈ a ↔ x ∈ b) → a.Perm b
  | [], b, _, _, h => by
    cases b with
    | nil => exact .nil
    | cons x b => exact absurd ((h x).2 (by simp)) (by simp)
  | x :: a, b, ha, hb, h => by
    have hx : x ∈ b := (h x).1 (by simp)
    obtain ⟨hxa, ha'⟩ := List.nodup_cons.1 ha
    refine List.Perm.trans ((nodup_perm13 ha' (hb.erase x) fun y => ?_).cons x) (List.perm_cons_erase hx).symm
    rw [hb.mem_erase_iff]
    constructor
    · exact fun hy => ⟨fun e => hxa (e ▸ hy), (h y).1 (List.mem_cons_of_mem _ hy)⟩
    · rintro ⟨hne, hy⟩
      rcases List.mem_cons.1 ((h y).2 hy) with e | e
      · exact absurd e hne
      · exact e
theorem gth_inj13 {L : List Nat} (h : L.Nodup) {i j : Nat} (hi : i < L.length) (hj : j < L.length) (e : gth L i = gth L j) : i = j := by
  rw [gth_get hi, gth_get hj] at e
  exact (List.getElem_inj h).1 e
theorem gs13_nodup {L : List Nat} (h : L.Nodup) (p : Nat → Bool) : (gs13 L p L.length).Nodup := by
  unfold gs13
  refine List.Pairwise.map _ ?_ (List.Pairwise.and_mem.1 (List.nodup_range.filter p))
  rintro a b ⟨ha, hb, hne⟩ e
  rw [List.mem_filter, List.mem_range] at ha hb
  exact hne (gth_inj13 h ha.1 hb.1 e)
theorem lf13_nodup : ∀ c, (lf13 sz qk n s c).Nodup
  | 0 => List.nodup_range
  | c + 1 => gs13_nodup (lf13_nodup c) _
/-- Who gets into cabin k. -/
def who13 (sz : Nat → Int) (qk : Nat → Bool) (n : Nat) (s : Int) (k : Nat) : List Nat := gs13 (lf13 sz qk n s k) (inL13 sz qk s (lf13 sz qk n s k)) (lf13 sz qk n s k).length
theorem who13_iff (hz : ∀ i, i < n → sz i ≤ s) {k i : Nat} : i ∈ who13 sz qk n s k ↔ (i < n ∧ cb13 sz qk n s i = k) := by
  constructor
  · intro h
    obtain ⟨j, hj, hin, rfl⟩ := gs13_mem h
    have hm := gth_mem hj
    refine ⟨lf13_sub k hm, cb13_eq ⟨hm, fun ho => ?_⟩⟩
    obtain ⟨j', hj', hno, e⟩ := gs13_mem (show _ ∈ out13 sz qk s (lf13 sz qk n s k) from ho)
    have := gth_inj13 (lf13_nodup k) hj hj' e
    subst this
    rw [hin] at hno
    cases hno
  · rintro ⟨hi, rfl⟩
    have hc := (cb13_is (qk := qk) hz hi).1
    generalize cb13 sz qk n s i = k at hc
    obtain ⟨h1, h2⟩ := hc
    obtain ⟨j, hj, e⟩ := List.getElem_of_mem h1
    have e' : gth (lf13 sz qk n s k) j = i := by rw [gth_get hj, e]
    have hin : inL13 sz qk s (lf13 sz qk n s k) j = true := by
      cases hc : inL13 sz qk s (lf13 sz qk n s k) j with
      | true => rfl
      | false =>
        refine absurd ?_ h2
        show i ∈ out13 sz qk s (lf13 sz qk n s k)
        unfold out13 gs13
        rw [← e']
        exact List.mem_map.2 ⟨j, by rw [List.mem_filter, List.mem_range, hc]; exact ⟨hj, rfl⟩, rfl⟩
    unfold who13 gs13
    rw [← e']
    exact List.mem_map.2 ⟨j, by rw [List.mem_filter, List.mem_range]; exact ⟨hj, hin⟩, rfl⟩
theorem su13_cab (hz : ∀ i, i < n → sz i ≤ s) (k : Nat) : su13 (fun i => cb13 sz qk n s i == k) sz n = su13 (inL13 sz qk s (lf13 sz qk n s k)) (fun j => sz (gth (lf13 sz qk n s k) j)) (lf13 sz qk n s k).length := by
  rw [su13_list, su13_list]
  have e : ((List.range (lf13 sz qk n s k).length).filter (inL13 sz qk s (lf13 sz qk n s k))).map (fun j => sz (gth (lf13 sz qk n s k) j)) = (who13 sz qk n s k).map sz := by
    unfold who13 gs13
    rw [List.map_map]; rfl
  rw [e]
  refine sum13_perm (List.Perm.map _ (nodup_perm13 (List.nodup_range.filter _) (gs13_nodup (lf13_nodup k) _) fun i => ?_))
  rw [List.mem_filter, List.mem_range]
  show _ ↔ i ∈ who13 sz qk n s k
  rw [who13_iff hz]
  simp
theorem su13_one {p : Nat → Bool} {sz : Nat → Int} (hz : ∀ k, 0 ≤ sz k) {k : Nat} (hp : p k = true) : ∀ n, k < n → sz k ≤ su13 p sz n
  | 0, h => by omega
  | n + 1, h => by
    by_cases e : k = n
    · subst e
      rw [su13_yes hp]
      have := su13_nonneg (p := p) hz k
      omega
    · have ih := su13_one hz hp n (by omega)
      have := hz n
      rw [su13]
      split <;> omega
/-- Each cabin has somebody, and no more than its seats. -/
theorem full13 (h0 : 0 ≤ s) (hz : ∀ i, i < n → sz i ≤ s) (hp : ∀ i, 0 ≤ sz i) (h1 : ∀ i, i < n → 1 ≤ sz i) {k : Nat} (hk : k < nd13 sz qk n s) : 1 ≤ su13 (fun i => cb13 sz qk n s i == k) sz n ∧ su13 (fun i => cb13 sz qk n s i == k) sz n ≤ s := by
  rw [su13_cab hz]
  have hne := (nd13_is (qk := qk) hz).1.2 k hk
  have hsub := fun {i} => lf13_sub (sz := sz) (qk := qk) (n := n) (s := s) k (i := i)
  generalize lf13 sz qk n s k = L at *
  refine ⟨?_, in13_le h0⟩
  obtain ⟨j, hj, hin⟩ := in13_some (sz := fun j => sz (gth L j)) (qk := fun j => qk (gth L j)) (s := s) (List.length_pos_iff.2 hne) fun j hj => hz _ (hsub (gth_mem hj))
  have h2 := su13_one (p := inL13 sz qk s L) (sz := fun j => sz (gth L j)) (fun j => hp _) hin L.length hj
  have h3 := h1 _ (hsub (gth_mem hj))
  omega
theorem cs13_su (cb : Nat → Nat) (sz : Nat → Int) (k : Nat) : ∀ n, cs13 k ((List.range n).map cb) ((List.range n).map sz) = su13 (fun i => cb i == k) sz n
  | 0 => rfl
  | n + 1 => by
    rw [List.range_succ, List.map_append, List.map_append, List.map_singleton, List.map_singleton, cs13_snoc _ _ _ _ _ (by simp), cs13_su cb sz k n, su13]
    simp
/-- No more than the cabins that come are needed. -/
theorem lc13_nd {gs : List Int} (hgs : gs = (List.range n).map sz) (h0 : 0 ≤ s) (hz : ∀ i, i < n → sz i ≤ s) (hp : ∀ i, 0 ≤ sz i) (h1 : ∀ i, i < n → 1 ≤ sz i) : lcK s gs ≤ nd13 sz qk n s := by
  subst hgs
  refine lcK_le (fun g hg => ?_) (fits_by _ ((List.range n).map (cb13 sz qk n s)) _ (by simp) (fun a ha => ?_) (fun g hg => ?_) fun k hk => ?_)
  · obtain ⟨i, hi, rfl⟩ := List.mem_map.1 hg
    exact hz i (List.mem_range.1 hi)
  · obtain ⟨i, hi, rfl⟩ := List.mem_map.1 ha
    rw [List.length_replicate]
    exact (cb13_is (qk := qk) hz (List.mem_range.1 hi)).2
  · obtain ⟨i, hi, rfl⟩ := List.mem_map.1 hg
    exact hp i
  · rw [List.length_replicate] at hk
    rw [cs13_su, show (List.replicate (nd13 sz qk n s) s).getD k 0 = s by simp [List.getD, hk]]
    exact (full13 h0 hz hp h1 hk).2
/-- All cabins' people together: a row that is filled group by group. -/
theorem sum13_set (l : List Int) (x : Int) : ∀ k, k < l.length → sum13 (l.set k (l.getD k 0 + x)) = sum13 l + x := by
  induction l with
  | nil => intro k h; simp at h
  | cons a l ih =>
    intro k hk
    cases k with
    | zero => rw [List.set_cons_zero, sum13_cons, sum13_cons]; simp [List.getD]; omega
    | succ k =>
      have h1 := ih k (by simpa using hk)
      rw [List.set_cons_succ, sum13_cons, sum13_cons, show (a :: l).getD (k + 1) 0 = l.getD k 0 by simp [List.getD], h1]
      omega
/-- The row of the sums behind i groups. -/
def fl13 (cb : Nat → Nat) (sz : Nat → Int) (N i : Nat) : List Int := (List.range N).map fun k => su13 (fun j => cb j == k) sz i
theorem fl13_len (cb : Nat → Nat) (sz : Nat → Int) (N i : Nat) : (fl13 cb sz N i).length = N := by simp [fl13]
theorem fl13_at {cb : Nat → Nat} {sz : Nat → Int} {N i k : Nat} (h : k < N) : (fl13 cb sz N i).getD k 0 = su13 (fun j => cb j == k) sz i := by simp [fl13, List.getD, h]
theorem fl13_zero (cb : Nat → Nat) (sz : Nat → Int) (N : Nat) : fl13 cb sz N 0 = List.replicate N 0 := by
  refine List.ext_getElem (by simp [fl13]) fun i h1 h2 => ?_
  simp [fl13, su13]
theorem fl13_succ {cb : Nat → Nat} {sz : Nat → Int} {N i : Nat} (h : cb i < N) : fl13 cb sz N (i + 1) = (fl13 cb sz N i).set (cb i) ((fl13 cb sz N i).getD (cb i) 0 + sz i) := by
  refine List.ext_getElem (by simp [fl13]) fun k h1 h2 => ?_
  rw [List.getElem_set]
  split
  · rename_i e
    subst e
    rw [fl13_at h]
    simp [fl13, su13]
  · rename_i e
    simp [fl13, su13, e]
theorem fl13_sum {cb : Nat → Nat} {sz : Nat → Int} {N : Nat} : ∀ i, (∀ j, j < i → cb j < N) → sum13 (fl13 cb sz N i) = sum13 ((List.range i).map sz)
  | 0, _ => by rw [fl13_zero, sum13_rep]; simp [sum13]
  | i + 1, h => by
    have ih := fl13_sum (cb := cb) (sz := sz) (N := N) i fun j hj => h j (by omega)
    rw [fl13_succ (h i (by omega)), sum13_set _ _ _ (by rw [fl13_len]; exact h i (by omega)), ih, List.range_succ, List.map_append, sum13_app]
    simp [sum13]
end Go.Proofs.Ytkjdkfoeolcnkaa
