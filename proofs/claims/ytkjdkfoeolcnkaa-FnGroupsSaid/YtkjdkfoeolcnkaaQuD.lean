/- Queues with groups: impl.cabinsFor: cabin after cabin, a slice of slices. Condition: sizes. -/
import Derived.Test.YtkjdkfoeolcnkaaQuF
import Derived.Test.YtkjdkfoeolcnkaaShelfD
namespace Go.Proofs.Ytkjdkfoeolcnkaa
open Go.RowKit Go.Sort Go.Shelf
set_option linter.unusedVariables false
/-- They own no block together. -/
def Apt13 (u v : Value) : Prop := ∀ b, u.ownBlock = some b → v.ownBlock ≠ some b
theorem Apt13.symm {u v : Value} (h : Apt13 u v) : Apt13 v u := fun b h1 h2 => h b h2 h1
theorem own_apt {w w' : World} {B e size n : Nat} {u v : Value} {xs : List Value} (h : w.ownsRow B e size u n xs) (hg : w.grownBy w' v.ownBlock) (ha : Apt13 u v) : w'.ownsRow B e size u n xs := by
  refine h.kept hg ?_
  cases hu : u.ownBlock with
  | none => exact .inl rfl
  | some b => exact .inr (fun e => ha b hu e.symm)
theorem apt_new {w : World} {B B' e e' size size' n n' : Nat} {u v : Value} {xs ys : List Value} (h : w.ownsRow B e size u n xs) {w2 : World} (h2 : w2.ownsRow B' e' size' v n' ys) (hB : w.heap.size ≤ B') : Apt13 v u := fun b h3 h4 => by
  have := (h.lt b h4).2
  have := (h2.lt b h3).1
  omega
theorem apt_lt {w : World} {B e size n : Nat} {u v : Value} {xs : List Value} (h : w.ownsRow B e size u n xs) {S : Nat} (hv : v.ownBlock = some S) (hS : w.heap.size ≤ S) : Apt13 u v := fun b h3 h4 => by
  have := (h.lt b h3).2
  rw [hv] at h4
  simp at h4
  omega
theorem apt_eq {u v v' : Value} (h : Apt13 u v) (e : v'.ownBlock = v.ownBlock) : Apt13 u v' := fun b h1 h2 => h b h1 (e ▸ h2)
def nv13 (vs : List Value) (k : Nat) : Value := vs.getD k (.slice none 0 0)
theorem nv13_left {vs r : List Value} {k : Nat} (h : k < vs.length) : nv13 (vs ++ r) k = nv13 vs k := by simp [nv13, List.getD, List.getElem?_append_left h]
theorem nv13_last (vs : List Value) (x : Value) : nv13 (vs ++ [x]) vs.length = x := by simp [nv13, List.getD]
/-- The cabins so far, and who waits. -/
structure CabI (B : Nat) (W : World) (cab wait : Value) (vs : List Value) (ls : Nat → List Nat) (L : List Nat) : Prop where
  oc : W.ownsRow B 31 1 cab vs.length vs
  ow : W.ownsRow B 3 1 wait L.length (intVs (nIs L))
  ro : ∀ k, k < vs.length → W.ownsRow B 3 1 (nv13 vs k) (ls k).length (intVs (nIs (ls k)))
  ac : ∀ k, k < vs.length → Apt13 (nv13 vs k) cab
  aw : ∀ k, k < vs.length → Apt13 (nv13 vs k) wait
  cw : Apt13 cab wait
theorem CabI.below {B : Nat} {W W' : World} {cab wait : Value} {vs : List Value} {ls : Nat → List Nat} {L : List Nat} (h : CabI B W cab wait vs ls L) (hb : Below W.heap.size W W') : CabI B W' cab wait vs ls L :=
  ⟨own_below h.oc hb, own_below h.ow hb, fun k hk => own_below (h.ro k hk) hb, h.ac, h.aw, h.cw⟩
theorem CabI.alloc {B : Nat} {W : World} {cab wait : Value} {vs : List Value} {ls : Nat → List Nat} {L : List Nat} (h : CabI B W cab wait vs ls L) (o : Obj) : CabI B (W.alloc o) cab wait vs ls L := h.below ((Below.refl _ _).alloc (Nat.le_refl _) o)
theorem CabI.push {B : Nat} {W W' : World} {cab cab' wait fv : Value} {vs : List Value} {ls : Nat → List Nat} {L : List Nat} (h : CabI B W cab wait vs ls L)
    (hf : W.ownsRow B 3 1 fv (ls vs.length).length (intVs (nIs (ls vs.length)))) (h1 : Apt13 fv cab) (h2 : Apt13 fv wait)
    (hg : W.grownBy W' cab.ownBlock) (ho : W'.ownsRow B 31 1 cab' (vs.length + 1) (vs ++ [fv])) (hat : cab'.ownBlock = cab.ownBlock ∨ cab'.ownBlock = some W.heap.size) : CabI B W' cab' wait (vs ++ [fv]) ls L := by
  have hk : ∀ k, k < (vs ++ [fv]).length → (k < vs.length ∧ nv13 (vs ++ [fv]) k = nv13 vs k) ∨ (k = vs.length ∧ nv13 (vs ++ [fv]) k = fv) := fun k hk => by
    rw [List.length_append, List.length_singleton] at hk
    by_cases e : k < vs.length
    · exact .inl ⟨e, nv13_left e⟩
    · obtain rfl : k = vs.length := by omega
      exact .inr ⟨rfl, nv13_last _ _⟩
  refine ⟨by rw [List.length_append]; exact ho, own_apt h.ow hg h.cw.symm, fun k hh => ?_, fun k hh => ?_, fun k hh => ?_, ?_⟩
  · rcases hk k hh with ⟨e, e2⟩ | ⟨rfl, e2⟩
    · rw [e2]; exact own_apt (h.ro k e) hg (h.ac k e)
    · rw [e2]; exact own_apt hf hg h1
  · rcases hk k hh with ⟨e, e2⟩ | ⟨rfl, e2⟩
    · rw [e2]
      rcases hat with hat | hat
      · exact apt_eq (h.ac k e) hat
      · exact apt_lt (h.ro k e) hat (Nat.le_refl _)
    · rw [e2]
      rcases hat with hat | hat
      · exact apt_eq h1 hat
      · exact apt_lt hf hat (Nat.le_refl _)
  · rcases hk k hh with ⟨e, e2⟩ | ⟨rfl, e2⟩
    · rw [e2]; exact h.aw k e
    · rw [e2]; exact h2
  · rcases hat with hat | hat
    · exact (apt_eq h.cw.symm hat).symm
    · exact (apt_lt h.ow hat (Nat.le_refl _)).symm
theorem CabI.del {B : Nat} {W W' : World} {cab wait wait' : Value} {vs : List Value} {ls : Nat → List Nat} {L L' : List Nat} (h : CabI B W cab wait vs ls L)
    (hg : W.grownBy W' wait.ownBlock) (ho : W'.ownsRow B 3 1 wait' L'.length (intVs (nIs L'))) (he : wait'.ownBlock = wait.ownBlock) : CabI B W' cab wait' vs ls L' :=
  ⟨own_apt h.oc hg h.cw, ho, fun k hk => own_apt (h.ro k hk) hg (h.aw k hk), h.ac, fun k hk => apt_eq (h.aw k hk) he, apt_eq h.cw he⟩
theorem gs13_filter {L : List Nat} {p : Nat → Bool} {q : Nat → Bool} : ∀ n, n ≤ L.length → (∀ j, j < n → q (gth L j) = p j) → gs13 L p n = (L.take n).filter q
  | 0, _, _ => by simp [gs13]
  | n + 1, h, hq => by
    have ih := gs13_filter (L := L) (p := p) (q := q) n (by omega) fun j hj => hq j (by omega)
    rw [take_gth L n (by omega), List.filter_append, ← ih]
    have e := hq n (by omega)
    cases hp : p n with
    | true => rw [gs13_yes hp]; simp [e, hp]
    | false => rw [gs13_no hp]; simp [e, hp]
theorem rest13 {l : List Gro} {s : Int} {L : List Nat} (hd : L.Nodup) : (nIs L).filter (fun x => !(nIs (whoL13 l s L)).contains x) = nIs (out13 (szQ l) (qkQ l) s L) := by
  have e1 : ∀ q : Int → Bool, (nIs L).filter q = nIs (L.filter fun i => q (i : Int)) := fun q => by
    unfold nIs
    rw [List.filter_map]
    rfl
  rw [e1]
  congr 1
  unfold out13
  rw [gs13_filter (q := fun i : Nat => !(nIs (whoL13 l s L)).contains (i : Int)) L.length (Nat.le_refl _), List.take_length]
  intro j hj
  congr 1
  rw [Bool.eq_iff_iff, List.contains_iff_mem, nIs_mem]
  unfold whoL13
  constructor
  · intro h
    obtain ⟨i, hi, hin, e⟩ := gs13_mem h
    rw [gth_inj13 hd hj hi e]; exact hin
  · intro h
    unfold gs13
    exact List.mem_map.2 ⟨j, by rw [List.mem_filter, List.mem_range]; exact ⟨hj, h⟩, rfl⟩
theorem cloD13_c (x : Int) (P : Nat) (u : Value) (xs : List Int) (w : World) (hP : w.cell? ⟨P, 0, none⟩ = some u) (hu : Rd w u (intVs xs)) (hn : xs.length ≤ 1048576) :
    Calls Try.prog 81 #[.int .i64 x, .pointer (some ⟨P, 0, none⟩)] w fun e w' => e = .returned (.bool (xs.contains x)) ∧ ∃ q, w' = w.drewN q := by
  have E0 := Lib.hid (contains13_c u xs x w hu hn)
  obtain ⟨ao, a, oa, c, rfl, _, _⟩ := hu.formR
  clear hu
  generalize xs.contains x = bb at *
  go_enter Try.func81, Try.ntmps81
  go_wp2_with fail
  refine (E0.out).mono ?_
  rintro e w1 ⟨rfl, rfl⟩
  go_wp2
  go_ret
  exact ⟨rfl, 0, rfl⟩
theorem entersD13 : ∀ args w, (callFunc 81 args).run Try.prog w = .ok (.enter 81 args) w := enters_of Try.func81 (by kernel_rfl) rfl
theorem delC13_c (v u : Value) (zs xs : List Int) (P B B' : Nat) (w : World) (ho : w.ownsRow B 3 1 v zs.length (intVs zs)) (h0 : 0 < zs.length) (hn : zs.length ≤ 12)
    (hP : w.cell? ⟨P, 0, none⟩ = some u) (hu : w.ownsRow B' 3 1 u xs.length (intVs xs)) (hx : xs.length ≤ 12) (hvP : v.ownBlock ≠ some P) (ha : Apt13 u v) :
    Calls Try.prog 80 #[v, .func (.func 81) #[] #[.pointer (some ⟨P, 0, none⟩)]] w fun e w' => ∃ v', e = .returned v' ∧ w'.ownsRow B 3 1 v' (zs.filter fun x => !xs.contains x).length (intVs (zs.filter fun x => !xs.contains x)) ∧ w.grownBy w' v.ownBlock ∧ v'.ownBlock = v.ownBlock := by
  have hPs : P < w.heap.size := World.block_lt_of_cell? w _ hP
  rcases ho.2 with ⟨rfl, h⟩ | ⟨g, cap, cur, rfl, hbase, hb, h1, h2, h3, h4⟩
  · omega
  · have hgP : g ≠ P := fun e => hvP (by rw [← e]; rfl)
    have hall : ∀ W, w.grownBy W (some g) → ∀ x, Calls Try.prog 81 #[.int .i64 x, .pointer (some ⟨P, 0, none⟩)] W fun e w' => e = .returned (.bool (xs.contains x)) ∧ ∃ q, w' = W.drewN q := fun W hW x =>
      cloD13_c x P u xs W (hW.cell hP (fun e => hgP (by simpa using e.symm))) (Rd.of_own (own_apt (v := .slice (some ⟨g, 0, none⟩) zs.length cap) hu hW ha)) (by omega)
    have hc := Try.slices_DeleteFunc (Value.int .i64) (fun _ => rfl) (fun x => xs.contains x) 81 #[.pointer (some ⟨P, 0, none⟩)] entersD13 (0 : Int) Try.zeroValue3 g 0 cap zs.toArray w (fun W x hW => hall W ⟨hW.os, hW.tape, hW.output, hW.size, fun k hk _ => hW.block k hk⟩ x) (fun n os dk x _ => hall _ (grownBy_sortedI dk) x) (holds_of_blockI hb (by rw [Nat.mul_one] at h4; exact h4)) (by simp; omega) (by simpa using h1)
    refine (show Calls Try.prog 80 _ w _ from hc).mono ?_
    rintro e w' ⟨he, q, rfl⟩
    have hf : (zs.filter fun x => !xs.contains x).length ≤ zs.length := List.length_filter_le _ _
    refine ⟨_, he, ?_, ?_, rfl⟩
    · have hh := heap_sortedI (w := w) (n := q) (os := #[]) ((zs.filter fun x => !xs.contains x) ++ List.replicate (zs.toArray.size - (zs.filter fun x => !xs.contains x).length) 0).toArray hb
      rw [Go.Sort.grow_empty] at hh
      have ht := take_putCellsI cur ((zs.filter fun x => !xs.contains x) ++ List.replicate (zs.toArray.size - (zs.filter fun x => !xs.contains x).length) 0) (by rw [List.length_append, List.length_replicate, h3, List.size_toArray]; omega)
      have ht2 := congrArg (List.take (zs.filter fun x => !xs.contains x).length) ht
      rw [List.take_take, ← List.map_take, List.take_left' rfl, Nat.min_eq_left (by simp)] at ht2
      exact ⟨by simp [intVs], .inr ⟨g, cap, _, rfl, hbase, hh, Nat.le_trans hf h1, h2, by simp [putCells, h3], by rw [Nat.mul_one]; exact ht2⟩⟩
    · have hg := grownBy_sortedI (w := w) (g := g) (n := q) (os := #[]) ((zs.filter fun x => !xs.contains x) ++ List.replicate (zs.toArray.size - (zs.filter fun x => !xs.contains x).length) 0).toArray
      rw [Go.Sort.grow_empty] at hg
      exact hg
end Go.Proofs.Ytkjdkfoeolcnkaa
