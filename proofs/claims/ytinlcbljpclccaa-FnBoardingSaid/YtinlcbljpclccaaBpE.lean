/- The kinds that are possible: both sides. Condition: sizes. -/
import Derived.Test.YtinlcbljpclccaaBpC
import Derived.Test.YtinlcbljpclccaaAft
import Derived.Test.YtinlcbljpclccaaAppAny
import Derived.Deep.DeepCutAuto
import Derived.Deep.AppendLies
namespace Go.Proofs.Ytinlcbljpclccaa
open Go.RowKit
set_option linter.unusedVariables false
theorem Try.infoStrB : (Try.prog.info? 9).map (fun i => (i.zero, i.size, i.bytes)) = some (some (.string ⟨#[]⟩), 1, 16) := by kernel_rfl
def kinW (l : List ByteArray) : List Value := l.map Value.string
theorem kinW_snoc (l : List ByteArray) (x : ByteArray) : kinW (l ++ [x]) = kinW l ++ [.string x] := by simp [kinW]
/-- The possible ones among the first j kinds. -/
def pkx (p : Plt) (j : Nat) : List ByteArray := (allK.take j).filter (pkB p)
theorem pkx_succ (p : Plt) (j : Nat) (h : j < 8) : pkx p (j + 1) = if pkB p (gth allK j) = true then pkx p j ++ [gth allK j] else pkx p j := by
  unfold pkx
  rw [take_gth allK j h, List.filter_append]
  by_cases e : pkB p (gth allK j) = true <;> simp [List.filter, e]
theorem pkx_len (p : Plt) (j : Nat) : (pkx p j).length ≤ 8 := by
  unfold pkx
  refine Nat.le_trans (List.length_filter_le _ _) ?_
  rw [List.length_take]; exact Nat.min_le_right _ _
theorem pkx_all {p : Plt} (h : plV p = true) : pkx p 8 = pkL p := by simp [pkx, pkL, h, allK]
theorem pkL_len (p : Plt) : (pkL p).length ≤ 8 := by
  unfold pkL; split
  · exact List.length_filter_le _ _
  · simp
theorem pkL_no {p : Plt} (h : plV p = false) : pkL p = [] := by simp [pkL, h]
theorem allK_most (j : Nat) (h : j < 8) : 0 ≤ mostK (gth allK j) := by
  rcases (by omega : j = 0 ∨ j = 1 ∨ j = 2 ∨ j = 3 ∨ j = 4 ∨ j = 5 ∨ j = 6 ∨ j = 7) with rfl | rfl | rfl | rfl | rfl | rfl | rfl | rfl
  · show 0 ≤ mostK kCome; rw [mostK_0]; decide
  · show 0 ≤ mostK kOpen; rw [mostK_1]; decide
  · show 0 ≤ mostK kShut; rw [mostK_2]; decide
  · show 0 ≤ mostK kEnter; rw [mostK_3]; decide
  · show 0 ≤ mostK kLeave; rw [mostK_4]; decide
  · show 0 ≤ mostK kArrive; rw [mostK_5]; decide
  · show 0 ≤ mostK kLevel; rw [mostK_6]; decide
  · show 0 ≤ mostK kGo; rw [mostK_7]; decide
theorem pk_step {k : ByteArray} (p : Plt) (h : 0 ≤ mostK k) : stOk p ⟨k, bcL k⟩ = pkB p k := by
  have e : bcL k = min 1 (mostK k) := by unfold bcL; split <;> omega
  have v : evV ⟨k, bcL k⟩ = true := by
    rw [evV_iff]
    show (mostK k = 0 ∧ bcL k = 0) ∨ (1 ≤ bcL k ∧ bcL k ≤ mostK k)
    unfold bcL; split <;> omega
  unfold stOk pkB
  rw [v, Bool.true_and]
  show canP p (kd k) (bcL k) = _
  rw [e]
theorem lit_kin : (#[.string ⟨#[99, 111, 109, 101]⟩, .string ⟨#[111, 112, 101, 110]⟩, .string ⟨#[115, 104, 117, 116]⟩, .string ⟨#[101, 110, 116, 101, 114]⟩, .string ⟨#[108, 101, 97, 118, 101]⟩, .string ⟨#[97, 114, 114, 105, 118, 101]⟩, .string ⟨#[108, 101, 118, 101, 108]⟩, .string ⟨#[103, 111]⟩] : Array Value) = (allK.map Value.string).toArray := rfl
theorem lit_cell {w : World} {Q j : Nat} {t : TypeId} (h : w.heap[Q]? = some (.cells #[.string ⟨#[99, 111, 109, 101]⟩, .string ⟨#[111, 112, 101, 110]⟩, .string ⟨#[115, 104, 117, 116]⟩, .string ⟨#[101, 110, 116, 101, 114]⟩, .string ⟨#[108, 101, 97, 118, 101]⟩, .string ⟨#[97, 114, 114, 105, 118, 101]⟩, .string ⟨#[108, 101, 118, 101, 108]⟩, .string ⟨#[103, 111]⟩] t (0, 0))) (hj : j < 8) : w.cell? ⟨Q, j, none⟩ = some (.string (gth allK j)) := by
  rw [cell_of_row w Q j _ _ _ h]
  rcases (by omega : j = 0 ∨ j = 1 ∨ j = 2 ∨ j = 3 ∨ j = 4 ∨ j = 5 ∨ j = 6 ∨ j = 7) with rfl | rfl | rfl | rfl | rfl | rfl | rfl | rfl <;> rfl
theorem grow_keep {w w' : World} {B e size n b : Nat} {v : Value} {xs : List Value} {cs : Array Value} {t : TypeId} {fr : Nat × Nat} (h : w.ownsRow B e size v n xs) (g : w.grownBy w' v.ownBlock) (hb : w.heap[b]? = some (.cells cs t fr)) (ht : t ≠ e) : w'.heap[b]? = some (.cells cs t fr) :=
  (g.block b (blk_lt hb) (fun e2 => own_ne h hb ht e2.symm)).trans hb
theorem grow_other {w w' : World} {b : Nat} {row : Option Nat} {o : Obj} (g : w.grownBy w' row) (hb : w.heap[b]? = some o) (hne : row ≠ some b) : w'.heap[b]? = some o :=
  (g.block b (blk_lt hb) (fun e2 => hne e2.symm)).trans hb
set_option maxRecDepth 100000 in
set_option maxHeartbeats 2000000 in
theorem implPossibleKinds_c (p : Plt) (w : World) :
    Calls Try.prog 20 #[.agg #[.int .i64 p.d, .int .i64 p.s, .int .i64 p.i, .int .i64 p.w, .bool p.l, .int .i64 p.g]] w fun x w' => ∃ v, x = .returned (.tuple #[v, .bool (plV p)]) ∧ w'.ownsRow w.heap.size 9 1 v (pkL p).length (kinW (pkL p)) ∧ Below w.heap.size w w' := by
  obtain ⟨i0, hi, hy0, hy1, hy2⟩ := info_parts Try.infoStrB
  have E0 := Lib.hid (fun W => implIsPlatform_c p W)
  have E1 := Lib.hid (fun (h : plV p = true) (k : ByteArray) W => implStepV_c p ⟨k, bcL k⟩ W h)
  have HALL := Lib.hid (fun h : plV p = true => pkx_all h)
  have HNO := Lib.hid (fun h : plV p = false => pkL_no h)
  have J0 := Lib.hid (heap_alloc_new w (.cells #[.int .i64 p.d, .int .i64 p.s, .int .i64 p.i, .int .i64 p.w, .bool p.l, .int .i64 p.g] 25))
  have HT0 := Lib.hid ((Below.refl w.heap.size w).alloc (Nat.le_refl _) (.cells #[.int .i64 p.d, .int .i64 p.s, .int .i64 p.i, .int .i64 p.w, .bool p.l, .int .i64 p.g] 25))
  have hs0 : (w.alloc (.cells #[.int .i64 p.d, .int .i64 p.s, .int .i64 p.i, .int .i64 p.w, .bool p.l, .int .i64 p.g] 25)).heap.size = w.heap.size + 1 := by simp
  generalize hkl : pkL p = KL at *
  clear hkl
  generalize plV p = b at *
  go_enter Try.func20, Try.ntmps20
  go_wp2_with fail
  generalize w.alloc (.cells #[.int .i64 p.d, .int .i64 p.s, .int .i64 p.i, .int .i64 p.w, .bool p.l, .int .i64 p.g] 25) = W0 at *
  refine (E0.out _).mono ?_
  rintro x w1 ⟨rfl, t1⟩
  have T1 := Lib.hid (HT0.out.trans (t1.mono (by omega)))
  have J1 := Lib.hid (blk_keep J0.out t1 (by omega))
  have hz1 : w.heap.size + 1 ≤ w1.heap.size := by have := t1.size; omega
  clear t1 J0 HT0 hs0
  have O2 : Hid ((w1.alloc (.cells #[] 9)).ownsRow w.heap.size 9 1 (.slice (some ⟨w1.heap.size, 0, none⟩) 0 0) 0 []) := Lib.hid (own_mono (World.ownsRow_made w1 (e := 9) (size := 1) #[] 0 (Nat.le_refl _) (by decide) rfl) (by omega))
  have T2 := Lib.hid (T1.out.alloc T1.out.size (.cells #[] 9))
  cases b with
  | false =>
    have hk := HNO.out rfl
    subst hk
    go_wp2
    go_ret2
    exact ⟨_, rfl, O2.out, T2.out⟩
  | true =>
    have E1r := Lib.hid (E1.out rfl)
    have HAr := Lib.hid (HALL.out rfl)
    clear E1 HALL HNO E0
    have J2 := Lib.hid (blk_stay (o' := .cells #[] 9) J1.out)
    have L3 := Lib.hid (heap_alloc_new (w1.alloc (.cells #[] 9)) (.cells #[.string ⟨#[99, 111, 109, 101]⟩, .string ⟨#[111, 112, 101, 110]⟩, .string ⟨#[115, 104, 117, 116]⟩, .string ⟨#[101, 110, 116, 101, 114]⟩, .string ⟨#[108, 101, 97, 118, 101]⟩, .string ⟨#[97, 114, 114, 105, 118, 101]⟩, .string ⟨#[108, 101, 118, 101, 108]⟩, .string ⟨#[103, 111]⟩] 9))
    have J3 := Lib.hid (blk_stay (o' := .cells #[.string ⟨#[99, 111, 109, 101]⟩, .string ⟨#[111, 112, 101, 110]⟩, .string ⟨#[115, 104, 117, 116]⟩, .string ⟨#[101, 110, 116, 101, 114]⟩, .string ⟨#[108, 101, 97, 118, 101]⟩, .string ⟨#[97, 114, 114, 105, 118, 101]⟩, .string ⟨#[108, 101, 118, 101, 108]⟩, .string ⟨#[103, 111]⟩] 9) J2.out)
    have O3 := Lib.hid (O2.out.alloc (.cells #[.string ⟨#[99, 111, 109, 101]⟩, .string ⟨#[111, 112, 101, 110]⟩, .string ⟨#[115, 104, 117, 116]⟩, .string ⟨#[101, 110, 116, 101, 114]⟩, .string ⟨#[108, 101, 97, 118, 101]⟩, .string ⟨#[97, 114, 114, 105, 118, 101]⟩, .string ⟨#[108, 101, 118, 101, 108]⟩, .string ⟨#[103, 111]⟩] 9))
    have T3 := Lib.hid (T2.out.alloc T2.out.size (.cells #[.string ⟨#[99, 111, 109, 101]⟩, .string ⟨#[111, 112, 101, 110]⟩, .string ⟨#[115, 104, 117, 116]⟩, .string ⟨#[101, 110, 116, 101, 114]⟩, .string ⟨#[108, 101, 97, 118, 101]⟩, .string ⟨#[97, 114, 114, 105, 118, 101]⟩, .string ⟨#[108, 101, 118, 101, 108]⟩, .string ⟨#[103, 111]⟩] 9))
    have hs3 : (w1.alloc (.cells #[] 9)).heap.size = w1.heap.size + 1 := by simp
    go_upto_region 5 with fail
    generalize (w1.alloc (.cells #[] 9)).alloc (.cells #[.string ⟨#[99, 111, 109, 101]⟩, .string ⟨#[111, 112, 101, 110]⟩, .string ⟨#[115, 104, 117, 116]⟩, .string ⟨#[101, 110, 116, 101, 114]⟩, .string ⟨#[108, 101, 97, 118, 101]⟩, .string ⟨#[97, 114, 114, 105, 118, 101]⟩, .string ⟨#[108, 101, 118, 101, 108]⟩, .string ⟨#[103, 111]⟩] 9) = w3 at *
    rw [hs3] at L3
    obtain ⟨Q, hQ⟩ : ∃ Q, Q = w1.heap.size + 1 := ⟨_, rfl⟩
    have N3 : Hid ((Value.slice (some ⟨w1.heap.size, 0, none⟩) 0 0).ownBlock ≠ some Q) := Lib.hid (by simp [Value.ownBlock]; omega)
    rw [← hQ] at L3 ⊢
    clear hQ hs3 hz1 T1 T2 J1 J2 O2
    go_loopw [4, 19] (fun out i wr => ∃ j : Nat, j ≤ 8 ∧ i = .int .i64 (j : Int) ∧ Hid (wr.ownsRow w.heap.size 9 1 out (pkx p j).length (kinW (pkx p j))) ∧ Hid (out.ownBlock ≠ some Q) ∧ Hid (wr.heap[w.heap.size]? = some (.cells #[.int .i64 p.d, .int .i64 p.s, .int .i64 p.i, .int .i64 p.w, .bool p.l, .int .i64 p.g] 25 (0, 0))) ∧ Hid (wr.heap[Q]? = some (.cells #[.string ⟨#[99, 111, 109, 101]⟩, .string ⟨#[111, 112, 101, 110]⟩, .string ⟨#[115, 104, 117, 116]⟩, .string ⟨#[101, 110, 116, 101, 114]⟩, .string ⟨#[108, 101, 97, 118, 101]⟩, .string ⟨#[97, 114, 114, 105, 118, 101]⟩, .string ⟨#[108, 101, 118, 101, 108]⟩, .string ⟨#[103, 111]⟩] 9 (0, 0))) ∧ Hid (Below w.heap.size w wr)) (fun _ i _ => 8 - (intOf i).toNat)
    case atStart => exact ⟨0, by omega, rfl, O3, N3, J3, L3, T3⟩
    case round =>
      obtain ⟨j, hj, rfl, O4, N5, J4, L4, T4⟩ := hrel
      have hbs := T4.out.size
      have hjP := blk_lt J4.out
      have hjQ := blk_lt L4.out
      clear O3 N3 J3 L3 T3
      by_cases hlt : j < 8
      · have hji : (j : Int) < 8 := by omega
        have hjd : decide ((j : Int) < 8) = true := decide_eq_true hji
        have ck := lit_cell L4.out hlt
        obtain ⟨c0, c1, c2, c3, c4, c5⟩ := blk_cell6 J4.out
        have HLN : Hid ((pkx p j).length ≤ 8) := Lib.hid (pkx_len p j)
        have HS := Lib.hid (pkx_succ p j hlt)
        have HM := Lib.hid (allK_most j hlt)
        generalize gth allK j = kk at *
        have EB := Lib.hid (fun W => boardCounts_c kk W)
        have E2 := Lib.hid (fun W => E1r.out kk W)
        have HX := Lib.hid (pk_step p HM.out)
        generalize stR p ⟨kk, bcL kk⟩ = S at *
        generalize stOk p ⟨kk, bcL kk⟩ = sb at *
        generalize bcL kk = u0 at *
        generalize bcG kk = u1 at *
        generalize bcO kk = u2 at *
        go_wp2_with fail
        refine (EB.out _).mono ?_
        rintro x wx ⟨rfl, hwx⟩
        rw [hwx]
        clear hwx EB
        go_wp2_with fail
        refine (E2.out _).mono ?_
        rintro x w4 ⟨rfl, t⟩
        have hs4 := t.size
        have J4b := Lib.hid (blk_keep J4.out t hjP)
        have L4b := Lib.hid (blk_keep L4.out t hjQ)
        have O4b := Lib.hid (owns_below O4.out t)
        have T4b := Lib.hid (T4.out.trans (t.mono T4.out.size))
        clear t c0 c1 c2 c3 c4 c5 ck
        have J5 := Lib.hid (blk_stay (o' := .cells #[.int .i64 S.d, .int .i64 S.s, .int .i64 S.i, .int .i64 S.w, .bool S.l, .int .i64 S.g] 25) J4b.out)
        have L5 := Lib.hid (blk_stay (o' := .cells #[.int .i64 S.d, .int .i64 S.s, .int .i64 S.i, .int .i64 S.w, .bool S.l, .int .i64 S.g] 25) L4b.out)
        have O5 := Lib.hid (O4b.out.alloc (.cells #[.int .i64 S.d, .int .i64 S.s, .int .i64 S.i, .int .i64 S.w, .bool S.l, .int .i64 S.g] 25))
        have T5 := Lib.hid (T4b.out.alloc T4b.out.size (.cells #[.int .i64 S.d, .int .i64 S.s, .int .i64 S.i, .int .i64 S.w, .bool S.l, .int .i64 S.g] 25))
        go_upto_region 9 with fail
        generalize w4.alloc (.cells #[.int .i64 S.d, .int .i64 S.s, .int .i64 S.i, .int .i64 S.w, .bool S.l, .int .i64 S.g] 25) = w5 at *
        clear J4 L4 O4 T4 J4b L4b O4b T4b hs4 hbs hjP hjQ
        cases sb with
        | true =>
          have HS2 : Hid (pkx p (j + 1) = pkx p j ++ [kk]) := Lib.hid (by rw [HS.out, if_pos HX.out.symm])
          have hown := O5.out.alloc (.cells #[.string kk] 9)
          have hlt5 := fun j hj => (O5.out.lt j hj).1
          have hsz5 := T5.out.size
          have hln := HLN.out
          go_wp2_with (at_builtin; go_loud (refine wpList_append_any _ rfl _ _ 38 rfl w.heap.size 9 i0 (.string ⟨#[]⟩) 1 16 Try.underlying38 hi hy0 hy1 hy2 rfl (by decide) _ _ _ rfl hown (some ⟨w5.heap.size, 0, none⟩) 1 1 [.string kk] rfl rfl (fun _ => ⟨_, rfl, World.news_of_block (cs := #[.string kk]) (t := 9) (fr := (0, 0)) (heap_alloc_new w5 _)⟩) (by simp [Value.oneCell']) (by unfold maxLen; omega) (by omega) (by simp; omega) ?_; intro v9 w9 hown' hgrow hob))
          have hg2 : (w5.alloc (.cells #[.string kk] 9)).grownBy w9 u4.ownBlock := hgrow
          have J9 := Lib.hid (grow_keep hown hg2 (blk_stay (o' := .cells #[.string kk] 9) J5.out) (by decide))
          have L9 := Lib.hid (grow_other hg2 (blk_stay (o' := .cells #[.string kk] 9) L5.out) N5.out)
          have N9 : Hid (v9.ownBlock ≠ some Q) := Lib.hid (fun e => by
            rcases hob with h | h
            · rw [h] at e; exact N5.out e
            · rw [h] at e; have h3 := Option.some.inj e; have h4 := blk_lt L5.out; have h5 : (w5.alloc (.cells #[.string kk] 9)).heap.size = w5.heap.size + 1 := by simp
              omega)
          have T9 := Lib.hid ((T5.out.alloc T5.out.size (.cells #[.string kk] 9)).grown hg2 (by simp; omega) (fun j hj => by have := hlt5 j hj; omega))
          have O9 : Hid (w9.ownsRow w.heap.size 9 1 v9 (pkx p (j + 1)).length (kinW (pkx p (j + 1)))) := Lib.hid (by rw [HS2.out, kinW_snoc, List.length_append]; exact hown')
          clear hown hown' hgrow hg2 hob
          go_wp2
          go_roundw
          case rel => exact ⟨j + 1, by omega, by go_num, O9, N9, J9, L9, T9⟩
          case measure => simp [intOf]; omega
        | false =>
          have HS2 : Hid (pkx p (j + 1) = pkx p j) := Lib.hid (by rw [HS.out, if_neg (by rw [← HX.out]; decide)])
          go_wp2
          go_roundw
          case rel => exact ⟨j + 1, by omega, by go_num, Lib.hid (by rw [HS2.out]; exact O5.out), N5, J5, L5, T5⟩
          case measure => simp [intOf]; omega
      · obtain rfl : j = 8 := by omega
        have O8 := Lib.hid O4.out
        rw [HAr.out] at O8
        go_wp2
        go_ret2
        exact ⟨_, rfl, O8.out, T4.out⟩
set_option maxRecDepth 100000 in
set_option maxHeartbeats 2000000 in
theorem specPossibleKinds_c (p : Plt) (w : World) :
    Calls Try.prog 21 #[.agg #[.int .i64 p.d, .int .i64 p.s, .int .i64 p.i, .int .i64 p.w, .bool p.l, .int .i64 p.g]] w fun x w' => ∃ v, x = .returned (.tuple #[v, .bool (plV p)]) ∧ w'.ownsRow w.heap.size 9 1 v (pkL p).length (kinW (pkL p)) ∧ Below w.heap.size w w' := by
  obtain ⟨i0, hi, hy0, hy1, hy2⟩ := info_parts Try.infoStrB
  have E0 := Lib.hid (fun W => l14Good_c p W)
  have E1 := Lib.hid (fun (h : plV p = true) (k : ByteArray) W => l14Can_c p k (min 1 (mostK k)) W h (by have := mostK_bd k; omega))
  have HALL := Lib.hid (fun h : plV p = true => pkx_all h)
  have HNO := Lib.hid (fun h : plV p = false => pkL_no h)
  have J0 := Lib.hid (heap_alloc_new w (.cells #[.int .i64 p.d, .int .i64 p.s, .int .i64 p.i, .int .i64 p.w, .bool p.l, .int .i64 p.g] 25))
  have HT0 := Lib.hid ((Below.refl w.heap.size w).alloc (Nat.le_refl _) (.cells #[.int .i64 p.d, .int .i64 p.s, .int .i64 p.i, .int .i64 p.w, .bool p.l, .int .i64 p.g] 25))
  have hs0 : (w.alloc (.cells #[.int .i64 p.d, .int .i64 p.s, .int .i64 p.i, .int .i64 p.w, .bool p.l, .int .i64 p.g] 25)).heap.size = w.heap.size + 1 := by simp
  have O0 : Hid (((w.alloc (.cells #[.int .i64 p.d, .int .i64 p.s, .int .i64 p.i, .int .i64 p.w, .bool p.l, .int .i64 p.g] 25)).alloc (.cells #[] 9)).ownsRow w.heap.size 9 1 (.slice (some ⟨w.heap.size + 1, 0, none⟩) 0 0) 0 []) := Lib.hid (by
    have h := own_mono (World.ownsRow_made (w.alloc (.cells #[.int .i64 p.d, .int .i64 p.s, .int .i64 p.i, .int .i64 p.w, .bool p.l, .int .i64 p.g] 25)) (e := 9) (size := 1) #[] 0 (Nat.le_refl _) (by decide) rfl) (show w.heap.size ≤ (w.alloc (.cells #[.int .i64 p.d, .int .i64 p.s, .int .i64 p.i, .int .i64 p.w, .bool p.l, .int .i64 p.g] 25)).heap.size by omega)
    rw [hs0] at h; exact h)
  have J0b := Lib.hid (blk_stay (o' := .cells #[] 9) J0.out)
  have HT0b := Lib.hid (HT0.out.alloc HT0.out.size (.cells #[] 9))
  have hs0b : ((w.alloc (.cells #[.int .i64 p.d, .int .i64 p.s, .int .i64 p.i, .int .i64 p.w, .bool p.l, .int .i64 p.g] 25)).alloc (.cells #[] 9)).heap.size = w.heap.size + 2 := by simp
  generalize hkl : pkL p = KL at *
  clear hkl
  generalize plV p = b at *
  go_enter Try.func21, Try.ntmps21
  go_wp2_with fail
  generalize (w.alloc (.cells #[.int .i64 p.d, .int .i64 p.s, .int .i64 p.i, .int .i64 p.w, .bool p.l, .int .i64 p.g] 25)).alloc (.cells #[] 9) = W0 at *
  refine (E0.out _).mono ?_
  rintro x w1 ⟨rfl, t1⟩
  have T2 := Lib.hid (HT0b.out.trans (t1.mono (by omega)))
  have J2 := Lib.hid (blk_keep J0b.out t1 (by omega))
  have O2 := Lib.hid (owns_below O0.out t1)
  have hz1 : w.heap.size + 2 ≤ w1.heap.size := by have := t1.size; omega
  clear t1 J0 HT0 hs0 J0b HT0b hs0b O0
  cases b with
  | false =>
    have hk := HNO.out rfl
    subst hk
    go_wp2
    go_ret2
    exact ⟨_, rfl, O2.out, T2.out⟩
  | true =>
    have E1r := Lib.hid (E1.out rfl)
    have HAr := Lib.hid (HALL.out rfl)
    clear E1 HALL HNO E0
    have L3 := Lib.hid (heap_alloc_new w1 (.cells #[.string ⟨#[99, 111, 109, 101]⟩, .string ⟨#[111, 112, 101, 110]⟩, .string ⟨#[115, 104, 117, 116]⟩, .string ⟨#[101, 110, 116, 101, 114]⟩, .string ⟨#[108, 101, 97, 118, 101]⟩, .string ⟨#[97, 114, 114, 105, 118, 101]⟩, .string ⟨#[108, 101, 118, 101, 108]⟩, .string ⟨#[103, 111]⟩] 9))
    have J3 := Lib.hid (blk_stay (o' := .cells #[.string ⟨#[99, 111, 109, 101]⟩, .string ⟨#[111, 112, 101, 110]⟩, .string ⟨#[115, 104, 117, 116]⟩, .string ⟨#[101, 110, 116, 101, 114]⟩, .string ⟨#[108, 101, 97, 118, 101]⟩, .string ⟨#[97, 114, 114, 105, 118, 101]⟩, .string ⟨#[108, 101, 118, 101, 108]⟩, .string ⟨#[103, 111]⟩] 9) J2.out)
    have O3 := Lib.hid (O2.out.alloc (.cells #[.string ⟨#[99, 111, 109, 101]⟩, .string ⟨#[111, 112, 101, 110]⟩, .string ⟨#[115, 104, 117, 116]⟩, .string ⟨#[101, 110, 116, 101, 114]⟩, .string ⟨#[108, 101, 97, 118, 101]⟩, .string ⟨#[97, 114, 114, 105, 118, 101]⟩, .string ⟨#[108, 101, 118, 101, 108]⟩, .string ⟨#[103, 111]⟩] 9))
    have T3 := Lib.hid (T2.out.alloc T2.out.size (.cells #[.string ⟨#[99, 111, 109, 101]⟩, .string ⟨#[111, 112, 101, 110]⟩, .string ⟨#[115, 104, 117, 116]⟩, .string ⟨#[101, 110, 116, 101, 114]⟩, .string ⟨#[108, 101, 97, 118, 101]⟩, .string ⟨#[97, 114, 114, 105, 118, 101]⟩, .string ⟨#[108, 101, 118, 101, 108]⟩, .string ⟨#[103, 111]⟩] 9))
    go_upto_region 6 with fail
    generalize w1.alloc (.cells #[.string ⟨#[99, 111, 109, 101]⟩, .string ⟨#[111, 112, 101, 110]⟩, .string ⟨#[115, 104, 117, 116]⟩, .string ⟨#[101, 110, 116, 101, 114]⟩, .string ⟨#[108, 101, 97, 118, 101]⟩, .string ⟨#[97, 114, 114, 105, 118, 101]⟩, .string ⟨#[108, 101, 118, 101, 108]⟩, .string ⟨#[103, 111]⟩] 9) = w3 at *
    obtain ⟨Q, hQ⟩ : ∃ Q, Q = w1.heap.size := ⟨_, rfl⟩
    have N3 : Hid ((Value.slice (some ⟨w.heap.size + 1, 0, none⟩) 0 0).ownBlock ≠ some Q) := Lib.hid (by simp [Value.ownBlock]; omega)
    rw [← hQ] at L3 ⊢
    clear hQ hz1 T2 J2 O2
    go_loopw [4, 6] (fun out i wr => ∃ j : Nat, j ≤ 8 ∧ i = .int .i64 (j : Int) ∧ Hid (wr.ownsRow w.heap.size 9 1 out (pkx p j).length (kinW (pkx p j))) ∧ Hid (out.ownBlock ≠ some Q) ∧ Hid (wr.heap[w.heap.size]? = some (.cells #[.int .i64 p.d, .int .i64 p.s, .int .i64 p.i, .int .i64 p.w, .bool p.l, .int .i64 p.g] 25 (0, 0))) ∧ Hid (wr.heap[Q]? = some (.cells #[.string ⟨#[99, 111, 109, 101]⟩, .string ⟨#[111, 112, 101, 110]⟩, .string ⟨#[115, 104, 117, 116]⟩, .string ⟨#[101, 110, 116, 101, 114]⟩, .string ⟨#[108, 101, 97, 118, 101]⟩, .string ⟨#[97, 114, 114, 105, 118, 101]⟩, .string ⟨#[108, 101, 118, 101, 108]⟩, .string ⟨#[103, 111]⟩] 9 (0, 0))) ∧ Hid (Below w.heap.size w wr)) (fun _ i _ => 8 - (intOf i).toNat)
    case atStart => exact ⟨0, by omega, rfl, O3, N3, J3, L3, T3⟩
    case round =>
      obtain ⟨j, hj, rfl, O4, N5, J4, L4, T4⟩ := hrel
      have hbs := T4.out.size
      have hjP := blk_lt J4.out
      have hjQ := blk_lt L4.out
      clear O3 N3 J3 L3 T3
      by_cases hlt : j < 8
      · have hji : (j : Int) < 8 := by omega
        have hjd : decide ((j : Int) < 8) = true := decide_eq_true hji
        have ck := lit_cell L4.out hlt
        obtain ⟨c0, c1, c2, c3, c4, c5⟩ := blk_cell6 J4.out
        have HLN : Hid ((pkx p j).length ≤ 8) := Lib.hid (pkx_len p j)
        have HS := Lib.hid (pkx_succ p j hlt)
        generalize gth allK j = kk at *
        have EB := Lib.hid (fun W => l14Most_c kk W)
        have EC := Lib.hid (fun W => l1Least_c 1 (mostK kk) W)
        have E2 := Lib.hid (fun W => E1r.out kk W)
        have HX : Hid (canP p (kd kk) (min 1 (mostK kk)) = pkB p kk) := Lib.hid rfl
        generalize canP p (kd kk) (min 1 (mostK kk)) = sb at *
        generalize min 1 (mostK kk) = u0 at *
        generalize mostK kk = u1 at *
        have K0 : ∀ x : Aft wr, x.w.cell? ⟨w.heap.size, 0, none⟩ = some (.int .i64 p.d) := fun x => x.cell c0
        have K1 : ∀ x : Aft wr, x.w.cell? ⟨w.heap.size, 1, none⟩ = some (.int .i64 p.s) := fun x => x.cell c1
        have K2 : ∀ x : Aft wr, x.w.cell? ⟨w.heap.size, 2, none⟩ = some (.int .i64 p.i) := fun x => x.cell c2
        have K3 : ∀ x : Aft wr, x.w.cell? ⟨w.heap.size, 3, none⟩ = some (.int .i64 p.w) := fun x => x.cell c3
        have K4 : ∀ x : Aft wr, x.w.cell? ⟨w.heap.size, 4, none⟩ = some (.bool p.l) := fun x => x.cell c4
        have K5 : ∀ x : Aft wr, x.w.cell? ⟨w.heap.size, 5, none⟩ = some (.int .i64 p.g) := fun x => x.cell c5
        have K6 : ∀ x : Aft wr, x.w.cell? ⟨Q, j, none⟩ = some (.string kk) := fun x => x.cell ck
        clear c0 c1 c2 c3 c4 c5 ck
        go_wp2_with fail
        refine wp_region_aft (w0 := wr) (by kernel_rfl) (by kernel_rfl) (Below.refl _ _) ?_
        repeat (go_big_quiet_step ((first | (go_at_call 58; exact aft_same (EB.out _)) | (go_at_call 57; exact aft_same (EC.out _)) | (go_at_call 56; exact aft_of (E2.out _)))))
        refine wpQuiet_nil ?_
        rintro _ ⟨x, rfl⟩
        have J5 := Lib.hid (blk_keep J4.out x.below hjP)
        have L5 := Lib.hid (blk_keep L4.out x.below hjQ)
        have O5 := Lib.hid (owns_below O4.out x.below)
        have T5 := Lib.hid (T4.out.trans (x.below.mono T4.out.size))
        have ck5 := K6 x
        clear K0 K1 K2 K3 K4 K5 K6
        generalize x.w = w5 at *
        clear J4 L4 O4 T4 hbs hjP hjQ
        have hjQ5 := blk_lt L5.out
        cases sb with
        | true =>
          have HS2 : Hid (pkx p (j + 1) = pkx p j ++ [kk]) := Lib.hid (by rw [HS.out, if_pos HX.out.symm])
          have hown := O5.out.alloc (.cells #[.string kk] 9)
          have hlt5 := fun j hj => (O5.out.lt j hj).1
          have hsz5 := T5.out.size
          have hln := HLN.out
          go_wp2_with (at_builtin; go_loud (refine wpList_append_any _ rfl _ _ 38 rfl w.heap.size 9 i0 (.string ⟨#[]⟩) 1 16 Try.underlying38 hi hy0 hy1 hy2 rfl (by decide) _ _ _ rfl hown (some ⟨w5.heap.size, 0, none⟩) 1 1 [.string kk] rfl rfl (fun _ => ⟨_, rfl, World.news_of_block (cs := #[.string kk]) (t := 9) (fr := (0, 0)) (heap_alloc_new w5 _)⟩) (by simp [Value.oneCell']) (by unfold maxLen; omega) (by omega) (by simp; omega) ?_; intro v9 w9 hown' hgrow hob))
          have hg2 : (w5.alloc (.cells #[.string kk] 9)).grownBy w9 u4.ownBlock := hgrow
          have J9 := Lib.hid (grow_keep hown hg2 (blk_stay (o' := .cells #[.string kk] 9) J5.out) (by decide))
          have L9 := Lib.hid (grow_other hg2 (blk_stay (o' := .cells #[.string kk] 9) L5.out) N5.out)
          have N9 : Hid (v9.ownBlock ≠ some Q) := Lib.hid (fun e => by
            rcases hob with h | h
            · rw [h] at e; exact N5.out e
            · rw [h] at e; have h3 := Option.some.inj e; have h4 := blk_lt L5.out; have h5 : (w5.alloc (.cells #[.string kk] 9)).heap.size = w5.heap.size + 1 := by simp
              omega)
          have T9 := Lib.hid ((T5.out.alloc T5.out.size (.cells #[.string kk] 9)).grown hg2 (by simp; omega) (fun j hj => by have := hlt5 j hj; omega))
          have O9 : Hid (w9.ownsRow w.heap.size 9 1 v9 (pkx p (j + 1)).length (kinW (pkx p (j + 1)))) := Lib.hid (by rw [HS2.out, kinW_snoc, List.length_append]; exact hown')
          clear hown hown' hgrow hg2 hob
          go_wp2
          go_roundw
          case rel => exact ⟨j + 1, by omega, by go_num, O9, N9, J9, L9, T9⟩
          case measure => simp [intOf]; omega
        | false =>
          have HS2 : Hid (pkx p (j + 1) = pkx p j) := Lib.hid (by rw [HS.out, if_neg (by rw [← HX.out]; decide)])
          go_wp2
          go_roundw
          case rel => exact ⟨j + 1, by omega, by go_num, Lib.hid (by rw [HS2.out]; exact O5.out), N5, J5, L5, T5⟩
          case measure => simp [intOf]; omega
      · obtain rfl : j = 8 := by omega
        have O8 := Lib.hid O4.out
        rw [HAr.out] at O8
        go_wp2
        go_ret2
        exact ⟨_, rfl, O8.out, T4.out⟩
end Go.Proofs.Ytinlcbljpclccaa
