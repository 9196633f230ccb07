/- LineText: the program's and the specification's answer as one function of the line. Condition: the table of the library's is as laid. -/
import Derived.Test.YtmmjbdffpgohdaaDoorSpanW
import Derived.Test.YtmmjbdffpgohdaaDoorSupTxtW
import Derived.Test.YtmmjbdffpgohdaaDoorReadMath
import Derived.Test.YtmmjbdffpgohdaaDoorJoinImpl
import Derived.Test.YtmmjbdffpgohdaaDoorIsLineC
import Derived.Test.YtmmjbdffpgohdaaDoorSplitW
namespace Go.Proofs.YtmmjbdffpgohdaaDoor
open Go.RowKit
set_option linter.unusedVariables false
def sp1 : ByteArray := ⟨#[32]⟩
def txts (l : List Sup) : List ByteArray := l.map supT
def lineT (l : List Sup) : ByteArray := joinAll (txts l) sp1
noncomputable def lineText (l : List Sup) : ByteArray := if isL l then lineT l else ⟨#[]⟩
theorem num_dig {n : Int} (h : 0 ≤ n) : ∀ c ∈ (num n).data.toList, 48 ≤ c.toNat ∧ c.toNat ≤ 57 := by
  intro c hc
  rw [num_list] at hc
  unfold Lib.itoa at hc
  rw [if_neg (by omega)] at hc
  exact decDigits_dig _ c hc
theorem supT_bytes (x : Sup) (ha : 0 ≤ x.a) (hh : 0 ≤ x.h) : (32 : UInt8) ∉ (supT x).data.toList := by
  intro h
  unfold supT supK at h
  simp only [ByteArray.data_append, Array.toList_append, List.mem_append] at h
  rcases h with ((h | h) | h) | h
  · split at h <;> simp at h
  · have := num_dig ha _ h; revert this; decide
  · simp at h
  · have := num_dig hh _ h; revert this; decide
theorem supT_size (x : Sup) (ha : 0 ≤ x.a ∧ x.a ≤ 3000) (hh : 0 ≤ x.h ∧ x.h ≤ 2000) : (supT x).size ≤ 10 := by
  have h1 := num_place ha.1 ha.2
  have h2 := num_place hh.1 (by omega)
  unfold supT supK
  rw [ByteArray.size_append, ByteArray.size_append, ByteArray.size_append]
  have e1 : (⟨#[58]⟩ : ByteArray).size = 1 := rfl
  have e2 : (if x.s = true then (⟨#[83]⟩ : ByteArray) else ⟨#[84]⟩).size = 1 := by split <;> rfl
  omega
theorem szs_le (L : List ByteArray) (b : Nat) (h : ∀ x ∈ L, x.size ≤ b) : szs L ≤ L.length * b := by
  induction L with
  | nil => simp [szs]
  | cons x r ih =>
    have h1 := h x (by simp)
    have h2 := ih (fun y hy => h y (by simp [hy]))
    have e : szs (x :: r) = x.size + szs r := by simp [szs]
    rw [e, List.length_cons, Nat.add_mul]; omega
theorem mem_nth {l : List Sup} {x : Sup} (h : x ∈ l) : ∃ i, i < l.length ∧ nth l i = x := by
  obtain ⟨i, hi, rfl⟩ := List.getElem_of_mem h
  exact ⟨i, hi, by simp [nth, List.getD, hi]⟩
theorem txts_ok {l : List Sup} (hl : IsL l) : Jok (txts l) 32 := by
  refine ⟨fun x hx => ?_, ?_⟩
  · obtain ⟨y, hy, rfl⟩ := List.mem_map.1 hx
    obtain ⟨i, hi, rfl⟩ := mem_nth hy
    exact supT_bytes _ (hl.bd hi).1 (hl.bd hi).2.2.1
  · have h1 := szs_le (txts l) 10 (fun x hx => by
      obtain ⟨y, hy, rfl⟩ := List.mem_map.1 hx
      obtain ⟨i, hi, rfl⟩ := mem_nth hy
      exact supT_size _ ⟨(hl.bd hi).1, (hl.bd hi).2.1⟩ (hl.bd hi).2.2)
    have h2 : (txts l).length = l.length := by simp [txts]
    have := hl.eight
    rw [h2] at h1 ⊢
    omega
theorem txts_take (l : List Sup) (k : Nat) (h : k < l.length) : txts (l.take (k + 1)) = txts (l.take k) ++ [supT (nth l k)] := by
  rw [take_nth l k h]; simp [txts]
set_option maxHeartbeats 2000000 in
theorem implLineText_c (v : Value) (l : List Sup) (w : World) (hr : Rs w v l.length (sups l)) (hn : l.length ≤ 1048576) (ht : TabP w) :
    Calls Tryd.prog 13 #[v] w fun e w' => e = .returned (.tuple #[.string (lineText l), .bool (isL l)]) ∧ Below w.heap.size w w' := by
  obtain ⟨i0, hi, hz0, hz1, hz2⟩ := info_parts Tryd.infoStr
  cases hb : isL l with
  | false =>
    have hu : lineText l = ⟨#[]⟩ := by simp [lineText, hb]
    rw [hu]
    have HB := Lib.hid hb
    have HR := Lib.hid hr
    clear hr hb hu ht
    go_enter Tryd.func13, Tryd.ntmps13
    go_wp2_with fail
    refine (implIsLine_c v l _ HR.out hn).mono ?_
    rw [HB.out]
    rintro e w1 ⟨rfl, b1⟩
    go_wp2
    go_ret2
    exact ⟨rfl, b1⟩
  | true =>
    have hl := isL_yes hb
    have hu : lineText l = lineT l := by simp [lineText, hb]
    rw [hu]
    have HB := Lib.hid hb
    have h2 := hl.two
    have h8 := hl.eight
    have HL := Lib.hid hl
    have HTB : Hid (∀ W, Below w.heap.size w W → TabP W) := Lib.hid (fun W hW => ht.below hW)
    obtain ⟨a, oa, ca, rfl, hla, hm, hs⟩ := hr.sup (by omega)
    have HR := Lib.hid hr
    have HA := Lib.hid hs
    clear hr hb hl hs ht hu
    go_enter Tryd.func13, Tryd.ntmps13
    go_wp2_with fail
    refine (implIsLine_c _ l _ HR.out hn).mono ?_
    rw [HB.out]
    rintro e w1 ⟨rfl, b1⟩
    go_wp2_with fail
    go_loopw [4, 13] (fun o i wr => ∃ k : Nat, k ≤ l.length ∧ i = .int .i64 k ∧ wr.ownsRow w.heap.size 9 1 o k ((txts (l.take k)).map Value.string) ∧ Below w.heap.size w wr) (fun _ i _ => l.length - (intOf i).toNat)
    case atStart => exact ⟨0, by omega, rfl, World.ownsRow_made w1 #[] 0 b1.size (by decide) rfl, b1.alloc b1.size _⟩
    case round =>
      obtain ⟨k, hk, rfl, hown, hbel⟩ := hrel
      by_cases hlt : k < l.length
      · obtain ⟨c0, c1, c2⟩ := (HA.out.below hbel hla) k hlt
        have hbs := hbel.size
        have HS := Lib.hid (txts_take l k hlt)
        have hbd := HL.out.bd hlt
        have hown1 := hown.alloc (.cells #[.int .i64 (nth l k).a, .int .i64 (nth l k).h, .bool (nth l k).s] 33)
        have hbel1 := hbel.alloc hbs (.cells #[.int .i64 (nth l k).a, .int .i64 (nth l k).h, .bool (nth l k).s] 33)
        have HT1 := Lib.hid (HTB.out _ hbel1)
        have HO1 := Lib.hid hown1
        have HB1 := Lib.hid hbel1
        clear hown hbel hown1 hbel1
        go_wp2_with fail
        refine (supportText_c (nth l k) _ hbd HT1.out).mono ?_
        rintro e w2 ⟨rfl, b2⟩
        have hown2 := own_below HO1.out b2
        have hbel2 := HB1.out.trans (b2.mono HB1.out.size)
        have hs2 := hbel2.size
        go_wp2_with (at_builtin; refine wpList_append_own _ rfl _ _ 41 rfl w.heap.size 9 i0 (.string ⟨#[]⟩) 1 16 Tryd.underlying41 hi hz0 hz1 hz2 rfl (by decide) _ _ _ rfl (hown2.alloc _) ⟨w2.heap.size, 0, none⟩ 1 1 [.string (supT (nth l k))] rfl rfl (cell_one_new _ _ _) (by simp [Value.oneCell']) (by unfold maxLen; omega) (by omega) (by simp; omega) ?_; intro v' w3 hown' hgrow _)
        go_roundw
        case rel => exact ⟨k + 1, by omega, by go_num, by rw [HS.out]; simpa using hown', (hbel2.alloc hs2 _).grown hgrow (by simp; omega) (fun j hj => (hown2.lt j hj).1)⟩
        case measure => simp [intOf]; omega
      · obtain rfl : k = l.length := by omega
        rw [List.take_length] at hown
        have hlen : (txts l).length = l.length := by simp [txts]
        have hrd : Rd wr u4 ((txts l).map Value.string) := Rd.of_own hown
        have HRd := Lib.hid hrd
        have HJ := Lib.hid (txts_ok HL.out)
        have hne : txts l ≠ [] := by intro h; rw [h] at hlen; simp at hlen; omega
        have HN := Lib.hid hne
        clear hown hrd hne
        go_wp2_with fail
        refine (JoinStrings_yes _ (txts l) ⟨#[32]⟩ 32 wr HRd.out HN.out (by decide) rfl rfl HJ.out).mono ?_
        rintro e w2 ⟨rfl, b2⟩
        go_wp2
        go_ret2
        exact ⟨rfl, hbel.trans (b2.mono hbel.size)⟩
theorem str_get {l : List Sup} {k : Nat} (h : k < l.length) : (txts l)[k]?.getD ⟨#[]⟩ = supT (nth l k) := by
  have e : l[k] = nth l k := by simp [nth, List.getD, h]
  simp [txts, h, e]
set_option maxHeartbeats 2000000 in
theorem l2Text_c (v : Value) (l : List Sup) (w : World) (hr : Rs w v l.length (sups l)) (hl : IsL l) :
    Calls Tryd.prog 27 #[v] w fun e w' => e = .returned (.string (lineT l)) ∧ Drew w w' := by
  have h2 := hl.two
  have h8 := hl.eight
  obtain ⟨a, oa, ca, rfl, hla, hm, hs⟩ := hr.sup (by omega)
  have HA := Lib.hid hs
  have HL := Lib.hid hl
  have HE : Hid (jnK (txts l) sp1 l.length = lineT l) := Lib.hid (by
    have h := jnK_all (txts l) sp1
    have e : (txts l).length = l.length := by simp [txts]
    rw [e] at h
    exact h)
  clear hr hs hl
  go_enter Tryd.func27, Tryd.ntmps27
  go_wp2
  go_loopw [3, 4] (fun s i wr => ∃ k : Nat, k ≤ l.length ∧ i = .int .i64 k ∧ s = .string (jnK (txts l) sp1 k) ∧ Drew w wr) (fun _ i _ => l.length - (intOf i).toNat)
  case atStart => exact ⟨0, by omega, rfl, rfl, Drew.refl _⟩
  case round =>
    obtain ⟨k, hk, rfl, rfl, hd⟩ := hrel
    by_cases hlt : k < l.length
    · obtain ⟨c0, c1, c2⟩ := (HA.out.drew hd) k hlt
      have hc00 : k = 0 → wr.cell? ⟨a, oa, none⟩ = some (.int .i64 (nth l k).a) ∧ wr.cell? ⟨a, oa + 1, none⟩ = some (.int .i64 (nth l k).h) ∧ wr.cell? ⟨a, oa + 2, none⟩ = some (.bool (nth l k).s) := fun e => by subst e; exact (HA.out.drew hd).zero (by omega)
      have hbd := HL.out.bd hlt
      have HS : Hid (jnK (txts l) sp1 (k + 1) = (if k = 0 then jnK (txts l) sp1 k else jnK (txts l) sp1 k ++ sp1) ++ (supK (nth l k) ++ num (nth l k).a ++ (⟨#[58]⟩ : ByteArray) ++ num (nth l k).h)) := Lib.hid (by
        rw [jnK, str_get hlt]; rfl)
      have hJs : (jnK (txts l) sp1 k).size ≤ 4000 := by
        rw [jnK_size (txts l) sp1 rfl k (by simp [txts]; omega)]
        have h1 := szs_take_le (txts l) k
        have h2' := (txts_ok HL.out).2
        have e : (txts l).length = l.length := by simp [txts]
        omega
      generalize hx : nth l k = x at *
      clear hx
      obtain ⟨X, Y, S⟩ := x
      simp only at c0 c1 c2 hbd HS hc00
      obtain ⟨d1, d2, d3, d4⟩ := hbd
      have s1 := num_place d1 d2
      have s2 := num_place d3 (by omega)
      generalize hJ : jnK (txts l) sp1 k = J at *
      by_cases hk0 : k = 0
      · subst hk0
        clear c0 c1 c2
        obtain ⟨c0, c1, c2⟩ := hc00 rfl
        cases S with
        | true =>
          have HS1 := Lib.hid (HS.out.trans (by rw [if_pos rfl]))
          go_wp2
          go_quiet ((go_at_call 39; exact quiet_drew (l1Num_any _ _ (by omega) (by omega))))
          go_wp2
          go_roundw
          case rel => exact ⟨0 + 1, by omega, by go_num, by rw [HS1.out]; simp [supK, ByteArray.append_assoc], hd.more _⟩
          case measure => simp [intOf]; omega
        | false =>
          have HS1 := Lib.hid (HS.out.trans (by rw [if_pos rfl]))
          go_wp2
          go_quiet ((go_at_call 39; exact quiet_drew (l1Num_any _ _ (by omega) (by omega))))
          go_wp2
          go_roundw
          case rel => exact ⟨0 + 1, by omega, by go_num, by rw [HS1.out]; simp [supK, ByteArray.append_assoc], hd.more _⟩
          case measure => simp [intOf]; omega
      · have hpos : (0 : Int) < (k : Int) := by omega
        clear hc00
        cases S with
        | true =>
          have HS1 := Lib.hid (HS.out.trans (by rw [if_neg hk0]))
          go_wp2
          go_quiet ((go_at_call 39; exact quiet_drew (l1Num_any _ _ (by omega) (by omega))))
          go_wp2
          go_roundw
          case rel => exact ⟨k + 1, by omega, by go_num, by rw [HS1.out]; simp [supK, sp1, ByteArray.append_assoc], hd.more _⟩
          case measure => simp [intOf]; omega
        | false =>
          have HS1 := Lib.hid (HS.out.trans (by rw [if_neg hk0]))
          go_wp2
          go_quiet ((go_at_call 39; exact quiet_drew (l1Num_any _ _ (by omega) (by omega))))
          go_wp2
          go_roundw
          case rel => exact ⟨k + 1, by omega, by go_num, by rw [HS1.out]; simp [supK, sp1, ByteArray.append_assoc], hd.more _⟩
          case measure => simp [intOf]; omega
    · obtain rfl : k = l.length := by omega
      go_wp2
      go_ret
      exact ⟨by rw [← HE.out]; rfl, hd⟩
set_option maxHeartbeats 1000000 in
theorem specLineText_c (v : Value) (l : List Sup) (w : World) (hr : Rs w v l.length (sups l)) (hn : l.length ≤ 1048576) :
    Calls Tryd.prog 15 #[v] w fun e w' => e = .returned (.tuple #[.string (lineText l), .bool (isL l)]) ∧ Below w.heap.size w w' := by
  have HR := Lib.hid hr
  clear hr
  cases hb : isL l with
  | false =>
    have hu : lineText l = ⟨#[]⟩ := by simp [lineText, hb]
    rw [hu]
    have HB := Lib.hid hb
    clear hb hu
    go_enter Tryd.func15, Tryd.ntmps15
    go_wp2_with fail
    refine (l2Line_c v l _ HR.out hn).mono ?_
    rw [HB.out]
    rintro e w1 ⟨rfl, d1⟩
    go_wp2
    go_ret2
    exact ⟨rfl, d1.below _⟩
  | true =>
    have hu : lineText l = lineT l := by simp [lineText, hb]
    rw [hu]
    have HL := Lib.hid (isL_yes hb)
    have HB := Lib.hid hb
    clear hb hu
    go_enter Tryd.func15, Tryd.ntmps15
    go_wp2_with fail
    refine (l2Line_c v l _ HR.out hn).mono ?_
    rw [HB.out]
    rintro e w1 ⟨rfl, d1⟩
    go_wp2_with fail
    refine (l2Text_c v l _ (d1.rs HR.out) HL.out).mono ?_
    rintro e w2 ⟨rfl, d2⟩
    go_wp2
    go_ret2
    exact ⟨rfl, (d1.trans d2).below _⟩
end Go.Proofs.YtmmjbdffpgohdaaDoor
