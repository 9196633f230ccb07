/- What UseTicket and SellTicket call: slices.IndexFunc and slices.Clone at tickets. Condition: sizes. -/
import Derived.Test.YtpknodbkjjcdjaaDoorTkMath2
import Derived.Test.YtpknodbkjjcdjaaDoorAppAny
import Derived.Lib.SliceRun
namespace Go.Proofs.YtpknodbkjjcdjaaDoor
open Go.RowKit
set_option linter.unusedVariables false
set_option maxHeartbeats 1000000 in
theorem cloN_c (x : Tik) (n : Int) (P : Nat) (w : World) (hP : w.cell? ⟨P, 0, none⟩ = some (.int .i64 n)) (hl : P < w.heap.size) :
    Calls Tryd.prog 62 #[.agg #[.int .i64 x.i, .int .i64 x.s, .int .i64 x.w, .int .i64 x.g, .int .i64 x.p], .pointer (some ⟨P, 0, none⟩)] w fun e w' => e = .returned (.bool (x.i == n)) ∧ Below w.heap.size w w' := by
  have hne : P ≠ w.heap.size := by omega
  go_enter Tryd.func62, Tryd.ntmps62
  go_wp2
  go_ret
  exact ⟨rfl, (Below.refl _ _).alloc (Nat.le_refl _) _⟩
def idxW (l : List Tik) (n : Int) : Int := if idxT l n < l.length then (idxT l n : Int) else -1
theorem ret_ix {a b : Int} (h : a = b) : Ending.returned (.int .i64 a) = .returned (.int .i64 b) := by rw [h]
set_option maxRecDepth 100000 in
set_option maxHeartbeats 2000000 in
theorem idxF_c (v : Value) (l : List Tik) (n : Int) (P : Nat) (w : World) (hr : Rs w v l.length (tiks l)) (hn : l.length ≤ 12) (hP : w.cell? ⟨P, 0, none⟩ = some (.int .i64 n)) (hl : P < w.heap.size) :
    Calls Tryd.prog 61 #[v, .func (.func 62) #[] #[.pointer (some ⟨P, 0, none⟩)]] w fun e w' => e = .returned (.int .i64 (idxW l n)) ∧ Below w.heap.size w w' := by
  obtain ⟨ao, a, oa, ca, rfl, hao, hat⟩ := hr.form_Tik
  have HA := Lib.hid hao
  have HL := Lib.hid hat
  have HP := Lib.hid hP
  clear hr hao hat hP
  go_enter Tryd.func61, Tryd.ntmps61
  go_wp2
  go_loopw [8] (fun i wr => ∃ k : Nat, k ≤ l.length ∧ i = .int .i64 k ∧ Hid (Below w.heap.size w wr) ∧ Hid (∀ j, j < k → (gth l j).i ≠ n)) (fun i _ => l.length - (intOf i).toNat)
  case atStart => exact ⟨0, by omega, rfl, Lib.hid (Below.refl _ _), Lib.hid (fun j h => by omega)⟩
  case round =>
    obtain ⟨k, hk, rfl, hbel, hno⟩ := hrel
    by_cases hlt : k < l.length
    · obtain ⟨rfl, hla, hlm⟩ := HA.out (by omega)
      obtain ⟨c0, c1, c2, c3, c4⟩ := (HL.out.below hbel.out hla) k hlt
      have HPW : Hid (wr.cell? ⟨P, 0, none⟩ = some (.int .i64 n)) := Lib.hid ((hbel.out.cell (p := ⟨P, 0, none⟩) hl).trans HP.out)
      have hlw : P < wr.heap.size := by have := hbel.out.size; omega
      have HIS := Lib.hid (fun h : (gth l k).i = n => idxT_is hlt hno.out h)
      have HNO : Hid (¬ (gth l k).i = n → ∀ j, j < k + 1 → (gth l j).i ≠ n) := Lib.hid (fun h j hj => by
        by_cases e : j = k
        · subst e; exact h
        · exact hno.out j (by omega))
      generalize gth l k = D at *
      go_wp2_with fail
      refine (cloN_c D n P _ HPW.out hlw).mono ?_
      rintro e w1 ⟨rfl, b1⟩
      have HB := Lib.hid (hbel.out.trans (b1.mono hbel.out.size))
      clear b1 c0 c1 c2 c3 c4
      by_cases hst : D.i = n
      · have HX : Hid ((k : Int) = idxW l n) := Lib.hid (by unfold idxW; rw [HIS.out hst, if_pos hlt])
        have t1 : (D.i == n) = true := by simpa using hst
        clear hst
        go_wp2
        go_ret
        exact ⟨ret_ix HX.out, HB.out⟩
      · have HN2 := Lib.hid (HNO.out hst)
        have t1 : (D.i == n) = false := by simpa using hst
        clear hst
        go_wp2
        go_roundw
        case rel => exact ⟨k + 1, by omega, by go_num, HB, HN2⟩
        case measure => simp [intOf]; omega
    · obtain rfl : k = l.length := by omega
      have HX : Hid (-1 = idxW l n) := Lib.hid (by unfold idxW; rw [idxT_none hno.out, if_neg (by omega)])
      go_wp2
      go_ret
      exact ⟨ret_ix HX.out, hbel.out⟩
set_option maxRecDepth 100000 in
set_option maxHeartbeats 2000000 in
theorem cloneT_c (v : Value) (l : List Tik) (w : World) (hr : Rs w v l.length (tiks l)) (hn : l.length ≤ 1048576) :
    Calls Tryd.prog 63 #[v] w fun e w' => ∃ g, e = .returned g ∧ w'.ownsRow w.heap.size 31 5 g l.length (tiks l) ∧ Below w.heap.size w w' := by
  obtain ⟨i0, hi, hz0, hz1, hz2⟩ := info_parts Tryd.infoTik
  have hq := fun (W : World) (a : Option Addr) (n c : Nat) => Lib.run_eql_slice_nil (P := Tryd.prog) W 24 31 a n c 0 0 Tryd.underlying24
  by_cases h0 : l.length = 0
  · obtain rfl := List.eq_nil_of_length_eq_zero h0
    obtain ⟨a, ca, rfl⟩ := hr.zero
    clear hr h0
    cases a with
    | none =>
      go_enter Tryd.func63, Tryd.ntmps63
      go_wp2
      go_ret
      exact ⟨_, rfl, World.ownsRow_nil w _ _ _, Below.refl _ _⟩
    | some ad =>
      go_enter Tryd.func63, Tryd.ntmps63
      go_wp2_with (at_builtin; refine wpList_append_any _ rfl _ _ 24 rfl w.heap.size 31 i0 (.agg #[.int .i64 0, .int .i64 0, .int .i64 0, .int .i64 0, .int .i64 0]) 5 40 Tryd.underlying24 hi hz0 hz1 hz2 rfl (by omega) (.slice (some ⟨w.heap.size, 0, none⟩) 0 0) 0 [] rfl (World.ownsRow_made w #[] 0 (Nat.le_refl _) (by decide) rfl) (some ad) 0 ca [] rfl rfl (fun h => by omega) (fun u h => by simp at h) (by unfold maxLen; omega) (by omega) (by simp) ?_; intro v' w3 hown' hgrow _)
      go_ret
      exact ⟨_, rfl, hown', ((Below.refl _ _).alloc (Nat.le_refl _) _).grown hgrow (by simp) (fun k hk => by simp [Value.ownBlock] at hk; omega)⟩
  · obtain ⟨b, off, ca, rfl, hb, hc, hm, hx⟩ := hr.pos h0
    have HX := Lib.hid hx
    have H1 := Lib.hid (tiks_one_cell l)
    have hld := tiks_len l
    clear hr hx
    go_enter Tryd.func63, Tryd.ntmps63
    go_wp2_with (at_builtin; refine wpList_append_any _ rfl _ _ 24 rfl w.heap.size 31 i0 (.agg #[.int .i64 0, .int .i64 0, .int .i64 0, .int .i64 0, .int .i64 0]) 5 40 Tryd.underlying24 hi hz0 hz1 hz2 rfl (by omega) (.slice (some ⟨w.heap.size, 0, none⟩) 0 0) 0 [] rfl (World.ownsRow_made w #[] 0 (Nat.le_refl _) (by decide) rfl) (some ⟨b, off, none⟩) l.length ca (tiks l) rfl hld (fun _ => ⟨_, rfl, fun j u hu => by
      have h := HX.out j u hu
      rw [gs_addr, World.cell?_alloc_past _ _ _ hb]; exact h⟩) H1.out (by unfold maxLen; omega) (by omega) (by simp) ?_; intro v' w3 hown' hgrow _)
    go_ret
    refine ⟨_, rfl, ?_, ((Below.refl _ _).alloc (Nat.le_refl _) _).grown hgrow (by simp) (fun k hk => by simp [Value.ownBlock] at hk; omega)⟩
    rw [show ([] : List Value) ++ tiks l = tiks l from rfl, Nat.zero_add] at hown'
    exact hown'
end Go.Proofs.YtpknodbkjjcdjaaDoor
