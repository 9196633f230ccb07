/- The law FnStrings' walk. Condition: sizes, and how the library's listed variables start. -/
import Derived.Test.YthnbbaefeojanaaDoorBig
import Derived.Test.YthnbbaefeojanaaDoorDrawSt
import Derived.Test.YthnbbaefeojanaaDoorSealLaws
import Derived.Test.YthnbbaefeojanaaDoorSealChange
import Derived.Test.YthnbbaefeojanaaDoorParseW
import Derived.Laws.IdiomStrings
import Derived.Lib.ConvBytes
import Derived.StillTailTactics
namespace Go.Proofs.YthnbbaefeojanaaDoor
open Go.RowKit
set_option linter.unusedVariables false
theorem fmt_both (n : Int) : ∃ (s : ByteArray) (b : Bool), (∀ w, TabP w → Calls Tryd.prog 10 #[.int .i64 n] w fun e w' => e = .returned (.tuple #[.string s, .bool b]) ∧ Below w.heap.size w w') ∧
    (∀ w, Calls Tryd.prog 11 #[.int .i64 n] w fun e w' => e = .returned (.tuple #[.string s, .bool b]) ∧ Below w.heap.size w w') ∧
    ((b = true ∧ ∀ w, TabP w → ErrP w → Calls Tryd.prog 13 #[.string s] w fun e w' => e = .returned (.tuple #[.int .i64 n, .bool true]) ∧ Below w.heap.size w w') ∨
      (b = false ∧ ∀ w, TabP w → ErrP w → Calls Tryd.prog 13 #[.string s] w fun e w' => e = .returned (.tuple #[.int .i64 0, .bool false]) ∧ Below w.heap.size w w')) := by
  by_cases h : -999999 ≤ n ∧ n ≤ 999999
  · exact ⟨num n, true, fun w ht => FormatInt_yes n w h.1 h.2 ht, fun w => of_drew (specFormatInt_yes n w h.1 h.2), .inl ⟨rfl, fun w ht _ => ParseInt_yes n w h.1 h.2 ht⟩⟩
  · have h' : n < -999999 ∨ 999999 < n := by omega
    refine ⟨⟨#[]⟩, false, fun w ht => (FormatInt_no n w h').mono ?_, fun w => (specFormatInt_no n w h').mono ?_, .inr ⟨rfl, fun w ht he => ParseInt_no _ w (by unfold maxLen; show 0 ≤ _; omega) ?_ ht he⟩⟩
    · rintro e w' ⟨rfl, rfl⟩; exact ⟨rfl, Below.refl _ _⟩
    · rintro e w' ⟨rfl, rfl⟩; exact ⟨rfl, Below.refl _ _⟩
    · rintro ⟨m, h0, h1, hm⟩
      have := num_size m h0 h1
      rw [hm] at this
      exact absurd this.2 (by decide)
theorem parse_both (t : ByteArray) (ht : t.size ≤ 20) : ∃ (n : Int) (b : Bool), (∀ w, TabP w → ErrP w → Calls Tryd.prog 13 #[.string t] w fun e w' => e = .returned (.tuple #[.int .i64 n, .bool b]) ∧ Below w.heap.size w w') ∧
    (∀ w, Calls Tryd.prog 14 #[.string t] w fun e w' => e = .returned (.tuple #[.int .i64 n, .bool b]) ∧ Below w.heap.size w w') := by
  have hm : t.size ≤ maxLen := by unfold maxLen; omega
  by_cases h : Dec t
  · obtain ⟨n, h0, h2, rfl⟩ := h
    exact ⟨n, true, fun w ht _ => ParseInt_yes n w h0 h2 ht, fun w => specParseInt_any _ _ _ w (l1Read_yes n w h0 h2)⟩
  · exact ⟨0, false, fun w ht he => ParseInt_no t w hm h ht he, fun w => specParseInt_any _ _ _ w (l1Read_no t w hm h)⟩
theorem seal_vok (x : ByteArray) (h : Sok x) : Vok (sealB x) ∧ pre (sealB x) = x := by
  obtain ⟨h1, h2, h3⟩ := h
  have e : (pre (sealB x)).data.toList = x.data.toList := by
    rw [pre_list, seal_list]
    have : ∀ (l r : List UInt8), (35 : UInt8) ∉ l → (l ++ 35 :: r).takeWhile (fun b => b != 35) = l := by
      intro l r
      induction l with
      | nil => intro _; simp
      | cons a l ih =>
        intro hm
        have ha : a ≠ 35 := fun e => hm (by simp [e])
        have hl : (35 : UInt8) ∉ l := fun e => hm (by simp [e])
        simp [ha, ih hl]
    exact this _ _ h2
  have e2 : pre (sealB x) = x := by
    cases hp : pre (sealB x); cases x
    rw [hp] at e
    simp at e
    rw [e]
  exact ⟨⟨h3, by rw [e2]⟩, e2⟩
/-- '[]byte(s)': a row of its own behind the old world. -/
theorem conv_bytes {P : Program} (w : World) (src dst e : TypeId) (s : ByteArray) (n : Nat) (hn : s.size = n) (hs : P.underlying src = some .string) (hd : P.underlying dst = some (.slice e)) (he : P.underlying e = some (.int .u8)) :
    ∃ (w' : World) (cp : Nat) (cs : Array Value), (convert src dst (.string s)).run P w = .ok (.slice (some ⟨w.heap.size, 0, none⟩) n cp) w' ∧ w'.heap[w.heap.size]? = some (.cells cs e (cs.size, cs.size + 1)) ∧ n ≤ cs.size ∧
      (∀ (j : Nat) (h : j < s.size), w'.cell? ⟨w.heap.size, j, none⟩ = some (.int .u8 (s[j].toNat : Int))) ∧ Below w.heap.size w w' := by
  subst hn
  refine ⟨Lib.bytesWorld w e s, grownCap w s.size 0 e, Lib.bytesCells w e s, Lib.run_convert_string_bytes w src dst e s hs hd he, Lib.bytesWorld_at_new w e s, ?_, ?_, ?_⟩
  · simp [Lib.bytesCells]
  · intro j h
    rw [Lib.bytesWorld_cell w e s j h]
    simp [List.getD, h]
    rfl
  · exact ⟨rfl, rfl, rfl, by rw [Lib.bytesWorld_size]; omega, fun i hi => Lib.bytesWorld_at_old w e s i hi⟩
theorem bits_xor_u8_nat (a b : Nat) (ha : a < 256) (hb : b < 256) : bits .xor .u8 (a : Int) (b : Int) = ((a ^^^ b : Nat) : Int) := by
  have hx : a ^^^ b < 2 ^ 8 := Nat.xor_lt_two_pow (by omega) (by omega)
  have h1 : (BitVec.ofInt 8 (a : Int)).toNat = a := by
    rw [BitVec.ofInt_natCast, BitVec.toNat_ofNat]; exact Nat.mod_eq_of_lt (by omega)
  have h2 : (BitVec.ofInt 8 (b : Int)).toNat = b := by
    rw [BitVec.ofInt_natCast, BitVec.toNat_ofNat]; exact Nat.mod_eq_of_lt (by omega)
  show IntKind.u8.wrap ((BitVec.ofInt 8 (a : Int) ^^^ BitVec.ofInt 8 (b : Int)).toNat : Int) = _
  rw [BitVec.toNat_xor, h1, h2, IntKind.wrap_u8]
  omega
/-- A byte with another one than 0 upon it is another byte. -/
theorem xor_change (c r : Nat) (hc : c ≤ 255) (hr : r ≤ 255) : ∃ v : UInt8, bits .xor .u8 (c : Int) (1 + (r : Int) % 255) = (v.toNat : Int) ∧ v.toNat ≠ c := by
  have e : (1 + (r : Int) % 255) = ((1 + r % 255 : Nat) : Int) := by omega
  have hx : c ^^^ (1 + r % 255) < 2 ^ 8 := Nat.xor_lt_two_pow (by omega) (by omega)
  have hv : (UInt8.ofNat (c ^^^ (1 + r % 255))).toNat = c ^^^ (1 + r % 255) := by
    rw [UInt8.toNat_ofNat']; exact Nat.mod_eq_of_lt hx
  refine ⟨UInt8.ofNat (c ^^^ (1 + r % 255)), ?_, ?_⟩
  · rw [e, bits_xor_u8_nat _ _ (by omega) (by omega), hv]
  · rw [hv]
    intro h
    have h2 := congrArg (c ^^^ ·) h
    simp [← Nat.xor_assoc] at h2
theorem conv_back (P : Program) (w : World) (src dst e B N k cp : Nat) (v : UInt8) (s : ByteArray) (hn : s.size = N) (hk : k < N)
    (hcell : ∀ (j : Nat) (h : j < s.size), w.cell? ⟨B, j, none⟩ = some (.int .u8 (s[j].toNat : Int)))
    (hs : P.underlying src = some (.slice e)) (he : P.underlying e = some (.int .u8)) (hd : P.underlying dst = some .string) :
    (convert src dst (.slice (some ⟨B, 0, none⟩) N cp)).run P (w.setCell ⟨B, k, none⟩ (.int .u8 (v.toNat : Int))) = .ok (.string ⟨(s.data.toList.set k v).toArray⟩) (w.setCell ⟨B, k, none⟩ (.int .u8 (v.toNat : Int))) := by
  have hlen : (s.data.toList.set k v).length = N := by rw [List.length_set, list_size, hn]
  have h := run_convert_bytes_back (P := P) (w.setCell ⟨B, k, none⟩ (.int .u8 (v.toNat : Int))) src dst e ⟨B, 0, none⟩ cp (s.data.toList.set k v) hs he hd (fun j hj => by
    have hj' : j < s.size := by rw [hlen] at hj; omega
    have ea : (⟨B, 0, none⟩ : Addr).add j = ⟨B, j, none⟩ := by
      simp [Addr.add]
      intro h
      exact h.symm
    rw [ea]
    by_cases e : k = j
    · subst e
      rw [World.cell?_setCell_same' w _ _ (by rw [hcell k hj']; rfl)]
      simp
    · have ho : (w.setCell ⟨B, k, none⟩ (.int .u8 (v.toNat : Int))).cell? ⟨B, j, none⟩ = w.cell? ⟨B, j, none⟩ := World.cell?_setCell_other w _ _ _ (by intro h; exact e (by injection h))
      rw [ho, hcell j hj', List.getElem_set_ne e]
      rfl)
  rw [hlen] at h
  exact h
set_option maxRecDepth 100000 in
set_option maxHeartbeats 2000000 in
theorem strings_core (a : Option Addr) (len cap : Nat) (w : World) (h : ByteRow w a len) (hlen : len ≤ 65536) (ht : TabP w) (he : ErrP w) (hm : MlP w) :
    Calls Tryd.prog 3 #[.slice a len cap] w fun e w' => e = .returned (.bool true) ∧ Below w.heap.size w w' := by
  have HR := Lib.hid h
  have HT := Lib.hid ht
  have HE := Lib.hid he
  have HM := Lib.hid hm
  clear h ht he hm
  go_enter Tryd.func3, Tryd.ntmps3
  go_wp2_with fail
  refine (vBig_no a len cap _ hlen).mono ?_
  rintro e w0 ⟨rfl, rfl⟩
  go_wp2_with fail
  refine (DrawFormatInt_any a len cap _ HR.out).mono ?_
  rintro e w1 ⟨n, rfl, hn1, hn2, hb1⟩
  obtain ⟨s, p, hFI, hFS, hF⟩ := fmt_both n
  have HFI := Lib.hid hFI
  have HFS := Lib.hid hFS
  have HF := Lib.hid hF
  have HB1 := Lib.hid hb1
  clear hFI hFS hF hb1
  go_wp2_with fail
  refine (HFI.out _ (HT.out.below HB1.out)).mono ?_
  rintro e w2 ⟨rfl, hb2⟩
  have HB2 := Lib.hid (HB1.out.trans (hb2.mono HB1.out.size))
  clear hb2
  go_wp2_with fail
  refine (HFS.out _).mono ?_
  rintro e w3 ⟨rfl, hb3⟩
  have HB3 := Lib.hid (HB2.out.trans (hb3.mono HB2.out.size))
  clear hb3
  go_wp2_with fail
  refine (DrawParseInt_any a len cap _ (HR.out.below HB3.out)).mono ?_
  rintro e w4 ⟨t, rfl, hts, hb4⟩
  have HB4 := Lib.hid (HB3.out.trans (hb4.mono HB3.out.size))
  obtain ⟨m, q, hPI, hPS⟩ := parse_both t hts
  have HPI := Lib.hid hPI
  have HPS := Lib.hid hPS
  clear hb4 hPI hPS
  go_wp2_with fail
  refine (HPI.out _ (HT.out.below HB4.out) (HE.out.below HB4.out)).mono ?_
  rintro e w5 ⟨rfl, hb5⟩
  have HB5 := Lib.hid (HB4.out.trans (hb5.mono HB4.out.size))
  clear hb5
  go_wp2_with fail
  refine (HPS.out _).mono ?_
  rintro e w6 ⟨rfl, hb6⟩
  have HB6 := Lib.hid (HB5.out.trans (hb6.mono HB5.out.size))
  clear hb6
  go_wp2_with fail
  refine (DrawAppendChecksum_any a len cap _ (HR.out.below HB6.out)).mono ?_
  rintro e w7 ⟨x, rfl, hxs, hb7⟩
  have HB7 := Lib.hid (HB6.out.trans (hb7.mono HB6.out.size))
  clear hb7
  by_cases hx : Sok x
  · have HX := Lib.hid hx
    clear hx
    go_wp2_with fail
    refine (Append_yes x _ HX.out (HT.out.below HB7.out)).mono ?_
    rintro e w8 ⟨rfl, hb8⟩
    have HB8 := Lib.hid (HB7.out.trans (hb8.mono HB7.out.size))
    clear hb8
    go_wp2_with fail
    refine (specAppend_yes x _ HX.out).mono ?_
    rintro e w9 ⟨rfl, k9, rfl⟩
    have HB9 := Lib.hid (below_drewN HB8.out k9)
    generalize hw9 : w8.drewN k9 = w9 at HB9 ⊢
    rcases HF.out with ⟨rfl, hP⟩ | ⟨rfl, hP⟩
    · have HP := Lib.hid hP
      clear hP hw9
      go_wp2_with fail
      refine (HP.out _ (HT.out.below HB9.out) (HE.out.below HB9.out)).mono ?_
      rintro e w10 ⟨rfl, hb10⟩
      have HB10 := Lib.hid (HB9.out.trans (hb10.mono HB9.out.size))
      clear hb10
      go_wp2_with fail
      refine (Verify_yes (sealB x) _ (seal_vok x HX.out).1 (HT.out.below HB10.out) (HM.out.below HB10.out)).mono ?_
      rw [(seal_vok x HX.out).2]
      rintro e w11 ⟨rfl, hb11⟩
      have HB11 := Lib.hid (HB10.out.trans (hb11.mono HB10.out.size))
      clear hb11
      obtain ⟨N, hN⟩ : ∃ N, (sealB x).size = N := ⟨_, rfl⟩
      have hN4 : N ≤ 4000 := by have := HX.out.2.2; omega
      have hN0 : 0 < N := by rw [← hN, seal_size]; omega
      obtain ⟨w12, cp, cs, hconv, hblk, hlb, hcell, hb12⟩ := conv_bytes (P := Tryd.prog) w11 9 22 5 (sealB x) N hN Tryd.underlying9 Tryd.underlying22 Tryd.underlying5
      obtain ⟨B, hB⟩ : ∃ B, w11.heap.size = B := ⟨_, rfl⟩
      rw [hB] at hconv hblk hcell hb12
      have HB12 := Lib.hid (HB11.out.trans (hb12.mono (by rw [← hB]; exact HB11.out.size)))
      have hBw : w.heap.size ≤ B := by rw [← hB]; exact HB11.out.size
      obtain ⟨r9, hr9, hv9⟩ := vAt_any a len cap 9 w12 (HR.out.below HB12.out) (by omega)
      have hb14 : Below w.heap.size w w12.drew := below_drewN HB12.out 1
      obtain ⟨r10, hr10, hv10⟩ := vAt_any a len cap 10 w12.drew (HR.out.below hb14) (by omega)
      have HV10 : Hid (Calls Tryd.prog 19 #[.slice a len cap, .int .i64 10] w12.drew fun e w' => e = .returned (.int .i64 (r10 : Int)) ∧ w' = w12.drew) := Lib.hid hv10
      have HB14 := Lib.hid hb14
      obtain ⟨k, hk, hkN⟩ : ∃ k : Nat, (r9 : Int) % (N : Int) = (k : Int) ∧ k < N := ⟨r9 % N, by omega, Nat.mod_lt _ hN0⟩
      have HV9 := Lib.hid hv9
      have HCELL := Lib.hid hcell
      have HBLK := Lib.hid hblk
      have HN := Lib.hid hN
      have HBB := Lib.hid hB
      have hck := hcell k (by omega)
      have hks : k < (sealB x).size := by omega
      generalize hc : (sealB x)[k].toNat = c at hck
      have hc255 : c ≤ 255 := by rw [← hc]; have := (sealB x)[k].toNat_lt; omega
      have HC := Lib.hid hc
      clear hv9 hv10 hcell hblk hN hB hc hb12 hb14
      go_wp2_with fail
      refine HV9.out.mono ?_
      rintro e w13 ⟨rfl, hw13⟩
      subst w13
      go_wp2_with fail
      go_still_tail 13, (by kernel_rfl)
      still_call HV10.out
      repeat still_step
      refine wpStill_nil ?_
      change wpList _ _ _ _ _ w12.drew
      obtain ⟨w14, hw14⟩ : ∃ w14, w12.drew = w14 := ⟨_, rfl⟩
      have hcell14 : ∀ (j : Nat) (h : j < (sealB x).size), w14.cell? ⟨B, j, none⟩ = some (.int .u8 ((sealB x)[j].toNat : Int)) := by rw [← hw14]; exact HCELL.out
      have hblk14 : w14.heap[B]? = some (.cells cs 5 (cs.size, cs.size + 1)) := by rw [← hw14]; exact HBLK.out
      have hfz : ∀ j, j < cs.size → w14.frozen? ⟨B, j, none⟩ = false := by
        intro j hj
        simp [World.frozen?, hblk14]
        omega
      have HB14' : Hid (Below w.heap.size w w14) := by rw [← hw14]; exact HB14
      have hck : w14.cell? ⟨B, k, none⟩ = some (.int .u8 (c : Int)) := by rw [← HC.out]; exact hcell14 k hks
      have hfk := hfz k (by omega)
      have HCELL14 := Lib.hid hcell14
      clear hcell14 hblk14 hfz HCELL HBLK HV9 HV10
      obtain ⟨v, hv, hvc⟩ := xor_change c r10 hc255 hr10
      have hback := conv_back Tryd.prog w14 22 9 5 B N k cp v (sealB x) HN.out hkN HCELL14.out Tryd.underlying22 Tryd.underlying5 Tryd.underlying9
      obtain ⟨y, hy⟩ : ∃ y : ByteArray, y = ⟨((sealB x).data.toList.set k v).toArray⟩ := ⟨_, rfl⟩
      rw [← hy] at hback
      have hyl : y.data.toList = (sealB x).data.toList.set k v := by rw [hy]
      have hys : y.size ≤ 1048576 := by
        have := list_size y
        rw [hyl, List.length_set, list_size, HN.out] at this
        omega
      have hno : ¬ Vok y := seal_change x y k v HX.out.2.1 (by rw [list_size]; exact hks) (by
        intro e
        apply hvc
        rw [← e, ← HC.out]
        rfl) hyl
      have HNO := Lib.hid hno
      have hb15 := HB14'.out.setCell (p := ⟨B, k, none⟩) hBw (.int .u8 (v.toNat : Int))
      have HB15 := Lib.hid hb15
      clear hno hyl hy hb15 HCELL14
      rw [hw14]
      clear hw14
      go_wp2_with fail
      refine (Verify_no y _ hys HNO.out (HT.out.below HB15.out) (HM.out.below HB15.out)).mono ?_
      rintro e w16 ⟨rfl, hb16⟩
      have HB16 := Lib.hid (HB15.out.trans (hb16.mono HB15.out.size))
      clear hb16
      go_wp2_with fail
      go_ret
      exact ⟨rfl, HB16.out⟩
    · have HP := Lib.hid hP
      clear hP hw9
      go_wp2_with fail
      refine (HP.out _ (HT.out.below HB9.out) (HE.out.below HB9.out)).mono ?_
      rintro e w10 ⟨rfl, hb10⟩
      have HB10 := Lib.hid (HB9.out.trans (hb10.mono HB9.out.size))
      clear hb10
      go_wp2_with fail
      refine (Verify_yes (sealB x) _ (seal_vok x HX.out).1 (HT.out.below HB10.out) (HM.out.below HB10.out)).mono ?_
      rw [(seal_vok x HX.out).2]
      rintro e w11 ⟨rfl, hb11⟩
      have HB11 := Lib.hid (HB10.out.trans (hb11.mono HB10.out.size))
      clear hb11
      obtain ⟨N, hN⟩ : ∃ N, (sealB x).size = N := ⟨_, rfl⟩
      have hN4 : N ≤ 4000 := by have := HX.out.2.2; omega
      have hN0 : 0 < N := by rw [← hN, seal_size]; omega
      obtain ⟨w12, cp, cs, hconv, hblk, hlb, hcell, hb12⟩ := conv_bytes (P := Tryd.prog) w11 9 22 5 (sealB x) N hN Tryd.underlying9 Tryd.underlying22 Tryd.underlying5
      obtain ⟨B, hB⟩ : ∃ B, w11.heap.size = B := ⟨_, rfl⟩
      rw [hB] at hconv hblk hcell hb12
      have HB12 := Lib.hid (HB11.out.trans (hb12.mono (by rw [← hB]; exact HB11.out.size)))
      have hBw : w.heap.size ≤ B := by rw [← hB]; exact HB11.out.size
      obtain ⟨r9, hr9, hv9⟩ := vAt_any a len cap 9 w12 (HR.out.below HB12.out) (by omega)
      have hb14 : Below w.heap.size w w12.drew := below_drewN HB12.out 1
      obtain ⟨r10, hr10, hv10⟩ := vAt_any a len cap 10 w12.drew (HR.out.below hb14) (by omega)
      have HV10 : Hid (Calls Tryd.prog 19 #[.slice a len cap, .int .i64 10] w12.drew fun e w' => e = .returned (.int .i64 (r10 : Int)) ∧ w' = w12.drew) := Lib.hid hv10
      have HB14 := Lib.hid hb14
      obtain ⟨k, hk, hkN⟩ : ∃ k : Nat, (r9 : Int) % (N : Int) = (k : Int) ∧ k < N := ⟨r9 % N, by omega, Nat.mod_lt _ hN0⟩
      have HV9 := Lib.hid hv9
      have HCELL := Lib.hid hcell
      have HBLK := Lib.hid hblk
      have HN := Lib.hid hN
      have HBB := Lib.hid hB
      have hck := hcell k (by omega)
      have hks : k < (sealB x).size := by omega
      generalize hc : (sealB x)[k].toNat = c at hck
      have hc255 : c ≤ 255 := by rw [← hc]; have := (sealB x)[k].toNat_lt; omega
      have HC := Lib.hid hc
      clear hv9 hv10 hcell hblk hN hB hc hb12 hb14
      go_wp2_with fail
      refine HV9.out.mono ?_
      rintro e w13 ⟨rfl, hw13⟩
      subst w13
      go_wp2_with fail
      go_still_tail 13, (by kernel_rfl)
      still_call HV10.out
      repeat still_step
      refine wpStill_nil ?_
      change wpList _ _ _ _ _ w12.drew
      obtain ⟨w14, hw14⟩ : ∃ w14, w12.drew = w14 := ⟨_, rfl⟩
      have hcell14 : ∀ (j : Nat) (h : j < (sealB x).size), w14.cell? ⟨B, j, none⟩ = some (.int .u8 ((sealB x)[j].toNat : Int)) := by rw [← hw14]; exact HCELL.out
      have hblk14 : w14.heap[B]? = some (.cells cs 5 (cs.size, cs.size + 1)) := by rw [← hw14]; exact HBLK.out
      have hfz : ∀ j, j < cs.size → w14.frozen? ⟨B, j, none⟩ = false := by
        intro j hj
        simp [World.frozen?, hblk14]
        omega
      have HB14' : Hid (Below w.heap.size w w14) := by rw [← hw14]; exact HB14
      have hck : w14.cell? ⟨B, k, none⟩ = some (.int .u8 (c : Int)) := by rw [← HC.out]; exact hcell14 k hks
      have hfk := hfz k (by omega)
      have HCELL14 := Lib.hid hcell14
      clear hcell14 hblk14 hfz HCELL HBLK HV9 HV10
      obtain ⟨v, hv, hvc⟩ := xor_change c r10 hc255 hr10
      have hback := conv_back Tryd.prog w14 22 9 5 B N k cp v (sealB x) HN.out hkN HCELL14.out Tryd.underlying22 Tryd.underlying5 Tryd.underlying9
      obtain ⟨y, hy⟩ : ∃ y : ByteArray, y = ⟨((sealB x).data.toList.set k v).toArray⟩ := ⟨_, rfl⟩
      rw [← hy] at hback
      have hyl : y.data.toList = (sealB x).data.toList.set k v := by rw [hy]
      have hys : y.size ≤ 1048576 := by
        have := list_size y
        rw [hyl, List.length_set, list_size, HN.out] at this
        omega
      have hno : ¬ Vok y := seal_change x y k v HX.out.2.1 (by rw [list_size]; exact hks) (by
        intro e
        apply hvc
        rw [← e, ← HC.out]
        rfl) hyl
      have HNO := Lib.hid hno
      have hb15 := HB14'.out.setCell (p := ⟨B, k, none⟩) hBw (.int .u8 (v.toNat : Int))
      have HB15 := Lib.hid hb15
      clear hno hyl hy hb15 HCELL14
      rw [hw14]
      clear hw14
      go_wp2_with fail
      refine (Verify_no y _ hys HNO.out (HT.out.below HB15.out) (HM.out.below HB15.out)).mono ?_
      rintro e w16 ⟨rfl, hb16⟩
      have HB16 := Lib.hid (HB15.out.trans (hb16.mono HB15.out.size))
      clear hb16
      go_wp2_with fail
      go_ret
      exact ⟨rfl, HB16.out⟩
  · have HX := Lib.hid hx
    clear hx
    go_wp2_with fail
    refine (Append_no x _ (by omega) HX.out (HT.out.below HB7.out)).mono ?_
    rintro e w8 ⟨rfl, hb8⟩
    have HB8 := Lib.hid (HB7.out.trans (hb8.mono HB7.out.size))
    clear hb8
    go_wp2_with fail
    refine (specAppend_no x _ (by omega) HX.out).mono ?_
    rintro e w9 ⟨rfl, k9, rfl⟩
    have HB9 := Lib.hid (below_drewN HB8.out k9)
    generalize hw9 : w8.drewN k9 = w9 at HB9 ⊢
    rcases HF.out with ⟨rfl, hP⟩ | ⟨rfl, hP⟩
    · have HP := Lib.hid hP
      clear hP hw9
      go_wp2_with fail
      refine (HP.out _ (HT.out.below HB9.out) (HE.out.below HB9.out)).mono ?_
      rintro e w10 ⟨rfl, hb10⟩
      go_wp2_with fail
      go_ret
      exact ⟨rfl, HB9.out.trans (hb10.mono HB9.out.size)⟩
    · have HP := Lib.hid hP
      clear hP hw9
      go_wp2_with fail
      refine (HP.out _ (HT.out.below HB9.out) (HE.out.below HB9.out)).mono ?_
      rintro e w10 ⟨rfl, hb10⟩
      go_wp2_with fail
      go_ret
      exact ⟨rfl, HB9.out.trans (hb10.mono HB9.out.size)⟩
theorem FnStrings_walk (a : Option Addr) (len cap : Nat) (w : World) (h : ByteRow w a len) (ht : TabP w) (he : ErrP w) (hm : MlP w) :
    Calls Tryd.prog 3 #[.slice a len cap] w fun e w' => e = .returned (.bool true) ∧ Below w.heap.size w w' := by
  by_cases hlen : len ≤ 65536
  · exact strings_core a len cap w h hlen ht he hm
  · have hm2 := h.1
    have hl : 65536 < len := by omega
    clear h hlen ht he hm
    go_enter Tryd.func3, Tryd.ntmps3
    go_wp2_with fail
    refine (vBig_yes a len cap _ hl hm2).mono ?_
    rintro e w0 ⟨rfl, rfl⟩
    go_wp2_with fail
    go_ret
    exact ⟨rfl, Below.refl _ _⟩
end Go.Proofs.YthnbbaefeojanaaDoor
