/- ParseInt, the model's and the program's. Condition: the library's table and errors are as laid. -/
import Derived.Test.YtmmjbdffpgohdaaDoorReadW
namespace Go.Proofs.YtmmjbdffpgohdaaDoor
open Go.RowKit
set_option linter.unusedVariables false
theorem byte_mem {t : ByteArray} {k : Nat} (h : k < t.size) : t[k] ∈ t.data.toList := List.mem_of_getElem? (at_some t k h)
theorem tail_list (s : ByteArray) (c : UInt8) (l : List UInt8) (h : s.data.toList = c :: l) : (s.extract 1 s.size).data.toList = l := by
  have hs : s.size = l.length + 1 := by rw [ByteArray.size, ← Array.length_toList, h]; rfl
  have e : (s.extract 1 s.size).data = s.data.extract 1 s.size := by simp
  rw [e, Array.toList_extract, h, hs]
  simp [List.extract]
theorem head_byte (s : ByteArray) (c : UInt8) (l : List UInt8) (h : s.data.toList = c :: l) (h0 : 0 < s.size) : s[0] = c := by
  have := at_some s 0 h0
  rw [h] at this
  exact (Option.some.inj this).symm
theorem size_list (s : ByteArray) : s.data.toList.length = s.size := by rw [Array.length_toList]; rfl
theorem l1Read_yes (n : Int) (w : World) (h0 : -999999 ≤ n) (h1 : n ≤ 999999) :
    Calls Tryd.prog 32 #[.string (num n)] w fun e w' => e = .returned (.tuple #[.int .i64 n, .bool true]) ∧ Below w.heap.size w w' := by
  have hsz := num_size n h0 h1
  have hl := num_list n
  by_cases hn : n < 0
  · have hl2 : (num n).data.toList = 45 :: Lib.decDigits n.natAbs := by rw [hl, Lib.itoa, if_pos hn]
    have ht := tail_list _ _ _ hl2
    have hdl := decDigits_ne n.natAbs
    have hlen := size_list (num n)
    have hpos : 0 < (Lib.decDigits n.natAbs).length := List.length_pos_iff.2 hdl
    have hgt : 1 < (num n).size := by rw [← hlen, hl2]; simp; omega
    refine l1Read_neg (num n) ((num n).extract 1 (num n).size) n true w hsz.1 hgt (head_byte _ _ _ hl2 (by omega)) rfl ?_ ?_ ?_
    · intro k hk hd
      have hm := byte_mem hk
      rw [ht] at hm
      exact absurd (decDigits_dig _ _ hm) hd
    · intro v hv hq
      exact ⟨(num_inj hq).symm, rfl⟩
    · intro v hv hq
      rw [ht, decDigits_val] at hv
      have e : v = n.natAbs := (Option.some.inj hv).symm
      exact absurd (by rw [e]; congr 1; omega) hq
  · have hl2 : (num n).data.toList = Lib.decDigits n.toNat := by rw [hl, Lib.itoa, if_neg hn]
    have hbad : ∀ (k : Nat) (h : k < (num n).size), ¬ (48 ≤ (num n)[k].toNat ∧ (num n)[k].toNat ≤ 57) → n = 0 ∧ true = false := by
      intro k hk hd
      have hm := byte_mem hk
      rw [hl2] at hm
      exact absurd (decDigits_dig _ _ hm) hd
    have hgood : ∀ v : Nat, Lib.decFrom 0 (num n).data.toList = some v → num (v : Int) = num n → n = (v : Int) ∧ true = true := fun v hv hq => ⟨(num_inj hq).symm, rfl⟩
    have hwrong : ∀ v : Nat, Lib.decFrom 0 (num n).data.toList = some v → num (v : Int) ≠ num n → n = 0 ∧ true = false := by
      intro v hv hq
      rw [hl2, decDigits_val] at hv
      have e : v = n.toNat := (Option.some.inj hv).symm
      exact absurd (by rw [e]; congr 1; omega) hq
    by_cases h1s : (num n).size = 1
    · exact l1Read_one (num n) n true w h1s hbad hgood hwrong
    · have h6 := num_len 5 n (by omega) (by omega)
      refine l1Read_pos (num n) n true w h6.1 (by omega) ?_ hbad hgood hwrong
      intro h45
      have hm := byte_mem (t := num n) (k := 0) (by omega)
      rw [hl2] at hm
      have := decDigits_dig _ _ hm
      rw [h45] at this
      simp at this
theorem dec_lt (l : List UInt8) (v k : Nat) (h : Lib.decFrom 0 l = some v) (hl : l.length ≤ k) (hk : k ≤ 6) : v ≤ 999999 := by
  have h1 := Lib.decFrom_lt l 0 v h
  have h2 : (10 : Nat) ^ l.length ≤ 1000000 := by
    have e : ∀ i : Fin 7, (10 : Nat) ^ i.val ≤ 1000000 := by decide
    exact e ⟨l.length, by omega⟩
  omega
theorem l1Read_no (s : ByteArray) (w : World) (hs : s.size ≤ maxLen) (h : ¬ Dec s) :
    Calls Tryd.prog 32 #[.string s] w fun e w' => e = .returned (.tuple #[.int .i64 0, .bool false]) ∧ Below w.heap.size w w' := by
  by_cases hfar : s.size = 0 ∨ 8 ≤ s.size ∨ (s.size = 7 ∧ ∃ h : 0 < s.size, s[0] ≠ 45)
  · exact l1Read_far s w hs hfar
  · have h0 : 0 < s.size := by omega
    have h7 : s.size ≤ 7 := by omega
    by_cases hneg : 1 < s.size ∧ s[0] = 45
    · obtain ⟨hg, hm⟩ := hneg
      have hlen : (s.extract 1 s.size).data.toList.length ≤ 6 := by rw [size_list, ByteArray.size_extract]; omega
      refine l1Read_neg s (s.extract 1 s.size) 0 false w h7 hg hm rfl (fun _ _ _ => ⟨rfl, rfl⟩) ?_ (fun _ _ _ => ⟨rfl, rfl⟩)
      intro v hv hq
      have := dec_lt _ v 6 hv hlen (by omega)
      exact absurd ⟨-(v : Int), by omega, by omega, hq⟩ h
    · have hgood : ∀ (k : Nat), s.size ≤ k → k ≤ 6 → ∀ v : Nat, Lib.decFrom 0 s.data.toList = some v → num (v : Int) = s → (0 : Int) = (v : Int) ∧ false = true := by
        intro k hk hk6 v hv hq
        have := dec_lt _ v k hv (by rw [size_list]; exact hk) hk6
        exact absurd ⟨(v : Int), by omega, by omega, hq⟩ h
      by_cases h1s : s.size = 1
      · exact l1Read_one s 0 false w h1s (fun _ _ _ => ⟨rfl, rfl⟩) (hgood 1 (by omega) (by omega)) (fun _ _ _ => ⟨rfl, rfl⟩)
      · have hm : s[0] ≠ 45 := fun e => hneg ⟨by omega, e⟩
        have h6 : s.size ≤ 6 := by
          by_cases h7' : s.size = 7
          · exact absurd (.inr (.inr ⟨h7', h0, hm⟩)) hfar
          · omega
        exact l1Read_pos s 0 false w h6 (by omega) hm (fun _ _ _ => ⟨rfl, rfl⟩) (hgood 6 h6 (by omega)) (fun _ _ _ => ⟨rfl, rfl⟩)
/-- The library's errors are as laid. -/
def ErrP (w : World) : Prop := (∃ tp p, w.var? Tryd.prog "strconv.ErrSyntax" = some #[.iface tp p]) ∧ ∃ tp p, w.var? Tryd.prog "strconv.ErrRange" = some #[.iface tp p]
theorem gErrSyntax : Tryd.prog.globalNamed "strconv.ErrSyntax" = some 2 := by kernel_rfl
theorem gErrRange : Tryd.prog.globalNamed "strconv.ErrRange" = some 3 := by kernel_rfl
theorem var_lt {w : World} {n : String} {g : Nat} {cs : Array Value} (hg : Tryd.prog.globalNamed n = some g) (h : w.var? Tryd.prog n = some cs) : g < w.heap.size := by
  unfold World.var? at h
  simp only [hg, Option.bind_some] at h
  cases hb : w.heap[g]? with
  | none => simp [hb] at h
  | some o => exact (Array.getElem?_eq_some_iff.1 hb).1
theorem ErrP.below {w w' : World} (h : ErrP w) (hb : Below w.heap.size w w') : ErrP w' := by
  obtain ⟨⟨t1, p1, h1⟩, ⟨t2, p2, h2⟩⟩ := h
  exact ⟨⟨t1, p1, var?_below hb gErrSyntax (var_lt gErrSyntax h1) h1⟩, ⟨t2, p2, var?_below hb gErrRange (var_lt gErrRange h2) h2⟩⟩
set_option maxHeartbeats 1000000 in
theorem ParseInt_yes (n : Int) (w : World) (h0 : -999999 ≤ n) (h1 : n ≤ 999999) (ht : TabP w) :
    Calls Tryd.prog 38 #[.string (num n)] w fun e w' => e = .returned (.tuple #[.int .i64 n, .bool true]) ∧ Below w.heap.size w w' := by
  have hsz := num_size n h0 h1
  have HT := Lib.hid ht
  clear ht
  go_enter Tryd.func38, Tryd.ntmps38
  go_wp2_with fail
  refine (Tryd.strconv_Atoi (num n) n (by omega) (atoi_num n) _).mono ?_
  rintro e w1 ⟨rfl, t, rfl⟩
  have hb := Lib.bytesWorld_below w 5 t
  obtain ⟨w1, hw1⟩ : ∃ w1, w1 = Lib.bytesWorld w 5 t := ⟨_, rfl⟩
  rw [← hw1] at hb ⊢
  clear hw1
  go_wp2_with fail
  refine (FormatInt_yes n _ h0 h1 (HT.out.below hb)).mono ?_
  rintro e w2 ⟨rfl, hb2⟩
  go_wp2_with fail
  go_ret2
  exact ⟨rfl, hb.trans (hb2.mono hb.size)⟩
set_option maxHeartbeats 1000000 in
theorem ParseInt_no (s : ByteArray) (w : World) (hs : s.size ≤ maxLen) (h : ¬ Dec s) (ht : TabP w) (he : ErrP w) :
    Calls Tryd.prog 38 #[.string s] w fun e w' => e = .returned (.tuple #[.int .i64 0, .bool false]) ∧ Below w.heap.size w w' := by
  unfold maxLen at hs
  have HT := Lib.hid ht
  have H := Lib.hid h
  obtain ⟨⟨tp, p, hv⟩, -⟩ := he
  have HV := Lib.hid hv
  clear ht h hv
  by_cases h7 : (7 : Int) < (s.size : Int)
  · go_enter Tryd.func38, Tryd.ntmps38
    go_wp2_with fail
    go_ret2
    exact ⟨rfl, Below.refl _ _⟩
  · cases ha : Lib.atoi s.data.toList with
    | none =>
      have HA := Lib.hid ha
      clear ha
      go_enter Tryd.func38, Tryd.ntmps38
      go_wp2_with fail
      refine (Tryd.strconv_Atoi_err_var s (by omega) HA.out tp p _ HV.out).mono ?_
      rintro e w1 ⟨N, rfl, _, _, hb⟩
      go_wp2_with fail
      go_ret2
      exact ⟨rfl, hb⟩
    | some n =>
      have HA := Lib.hid ha
      clear ha
      by_cases hr : -999999 ≤ n ∧ n ≤ 999999
      · obtain ⟨h0, h1⟩ := hr
        have hne := str_ne (show num n ≠ s from fun e => H.out ⟨n, h0, h1, e⟩)
        go_enter Tryd.func38, Tryd.ntmps38
        go_wp2_with fail
        refine (Tryd.strconv_Atoi s n (by omega) HA.out _).mono ?_
        rintro e w1 ⟨rfl, t, rfl⟩
        have hb := Lib.bytesWorld_below w 5 t
        obtain ⟨w1, hw1⟩ : ∃ w1, w1 = Lib.bytesWorld w 5 t := ⟨_, rfl⟩
        rw [← hw1] at hb ⊢
        clear hw1
        go_wp2_with fail
        refine (FormatInt_yes n _ h0 h1 (HT.out.below hb)).mono ?_
        rintro e w2 ⟨rfl, hb2⟩
        go_wp2_with fail
        go_ret2
        exact ⟨rfl, hb.trans (hb2.mono hb.size)⟩
      · have HR : Hid (n < -999999 ∨ 999999 < n) := by show _ ∨ _; omega
        clear hr
        go_enter Tryd.func38, Tryd.ntmps38
        go_wp2_with fail
        refine (Tryd.strconv_Atoi s n (by omega) HA.out _).mono ?_
        rintro e w1 ⟨rfl, t, rfl⟩
        have hb := Lib.bytesWorld_below w 5 t
        obtain ⟨w1, hw1⟩ : ∃ w1, w1 = Lib.bytesWorld w 5 t := ⟨_, rfl⟩
        rw [← hw1] at hb ⊢
        clear hw1
        go_wp2_with fail
        refine (FormatInt_no n _ HR.out).mono ?_
        rintro e w2 ⟨rfl, rfl⟩
        go_wp2_with fail
        go_ret2
        exact ⟨rfl, hb⟩
end Go.Proofs.YtmmjbdffpgohdaaDoor
