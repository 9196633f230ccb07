/- The builtin copy into the midst of a plain block, elements of whatever size; a row with one element put between. No condition. -/
import Derived.Test.YteglekfiannncaaAppAny
import Derived.Laws.CopyOwn
namespace Go.Proofs.Yteglekfiannncaa
open Go.RowKit
set_option linter.unusedVariables false
theorem run_copy_at {P : Program} (w : World) (dT sT ty elem : TypeId) (g o dLen dCap size m : Nat) (a : Addr) (sLen sCap : Nat) (cur : List Value) (t : TypeId) (cs : List Value)
    (hu : P.underlying dT = some (.slice elem)) (hs : (P.info? elem).map (·.size) = some size)
    (hg : w.heap[g]? = some (.cells cur.toArray t (0, 0))) (hm : Nat.min sLen dLen = m) (hn : cs.length = m * size)
    (hsrc : ∀ j v, cs[j]? = some v → w.cell? (a.add j) = some v) (hfit : o + cs.length ≤ cur.length) (h1 : ∀ v ∈ cs, v.oneCell' = true) :
    (Builtin.copy_ #[dT, sT] ty #[.slice (some ⟨g, o, none⟩) dLen dCap, .slice (some a) sLen sCap]).run P w =
      .ok (goInt m) (w.setRow g (splice cur o cs).toArray) := by
  have hl := run_firstCells_some (P := P) w size m a sLen sCap cs hn hsrc
  have hst := run_storeCells_at P g o t cs 0 cur.toArray w hg (by simpa using hfit) h1
  cases hq : P.info? elem with
  | none => simp [hq] at hs
  | some i =>
    have hi : i.size = size := by simpa [hq] using hs
    simp at hst
    simp [Builtin.copy_, run_underlying hu, Builtin.lenOf, sizeOf, typeInfo, hq, hi, hm, hl, hst, splice]
/-- What a copy leaves. -/
structure Copied (w w' : World) (g : Nat) (cur : List Value) (t : TypeId) : Prop where
  row : w'.heap[g]? = some (.cells cur.toArray t (0, 0))
  gr : w.grownBy w' (some g)
theorem copied_set (w : World) (g : Nat) (cur new : List Value) (t : TypeId) (hg : w.heap[g]? = some (.cells cur.toArray t (0, 0))) : Copied w (w.setRow g new.toArray) g new t :=
  ⟨setRow_heap w g _ _ t _ hg, rfl, rfl, rfl, by simp, fun k _ hk => setRow_other w g k _ (fun e => hk (by simp [e]))⟩
theorem wpList_copy_at {P : Program} {w : World} {ops : Array Oper} {rest : List Oper} {o : Oper} {a : Act} {Q : Exit → Act → World → Prop} (hgd : o.guard = none) (d s : Operand) (dT sT : TypeId)
    (ho : o.op = .call { callee := .builtin .copy, args := #[d, s], argTypes := #[dT, sT] }) (elem : TypeId) (size : Nat) (hu : P.underlying dT = some (.slice elem)) (hsz : (P.info? elem).map (·.size) = some size)
    (g off dLen dCap m : Nat) (ad : Addr) (sLen sCap : Nat) (hd : a.eval d = .slice (some ⟨g, off, none⟩) dLen dCap) (hs : a.eval s = .slice (some ad) sLen sCap) (cur : List Value) (t : TypeId) (cs : List Value)
    (hg : w.heap[g]? = some (.cells cur.toArray t (0, 0))) (hm : Nat.min sLen dLen = m) (hn : cs.length = m * size)
    (hsrc : ∀ j v, cs[j]? = some v → w.cell? (ad.add j) = some v) (hfit : off + cs.length ≤ cur.length) (h1 : ∀ v ∈ cs, v.oneCell' = true)
    (h : ∀ w', Copied w w' g (splice cur off cs) t → wpList P ops Q rest (a.put o.dst (goInt m)) w') : wpList P ops Q (o :: rest) a w := by
  have hrun := run_copy_at (P := P) w dT sT o.type elem g off dLen dCap size m ad sLen sCap cur t cs hu hsz hg hm hn hsrc hfit h1
  refine wpList_plain hgd fun K hK => ?_
  unfold Oper.wp
  simp [execOp, ho, resolve, invoke, builtin, hd, hs, hrun, Result.andThen]
  exact hK _ _ (h _ (copied_set w g cur _ t hg))
theorem step_copy_at {P : Program} {ops : Array Oper} {o : Oper} {a : Act} {w : World} {K : Act → World → Prop} {Q : Exit → Act → World → Prop} {E : Prop} (hgd : o.guard = none) (d s : Operand) (dT sT : TypeId)
    (ho : o.op = .call { callee := .builtin .copy, args := #[d, s], argTypes := #[dT, sT] }) (elem : TypeId) (size : Nat) (hu : P.underlying dT = some (.slice elem)) (hsz : (P.info? elem).map (·.size) = some size)
    (g off dLen dCap m : Nat) (ad : Addr) (sLen sCap : Nat) (hd : a.eval d = .slice (some ⟨g, off, none⟩) dLen dCap) (hs : a.eval s = .slice (some ad) sLen sCap) (cur : List Value) (t : TypeId) (cs : List Value)
    (hg : w.heap[g]? = some (.cells cur.toArray t (0, 0))) (hm : Nat.min sLen dLen = m) (hn : cs.length = m * size)
    (hsrc : ∀ j v, cs[j]? = some v → w.cell? (ad.add j) = some v) (hfit : off + cs.length ≤ cur.length) (h1 : ∀ v ∈ cs, v.oneCell' = true)
    (h : ∀ w', Copied w w' g (splice cur off cs) t → K (a.put o.dst (goInt m)) w') : if Region.wanted o (yielded ops a.tmps) = true then Oper.wp P o a w K Q else E := by
  have hrun := run_copy_at (P := P) w dT sT o.type elem g off dLen dCap size m ad sLen sCap cur t cs hu hsz hg hm hn hsrc hfit h1
  have hw : Region.wanted o (yielded ops a.tmps) = true := by simp [Region.wanted, hgd]
  rw [if_pos hw]
  unfold Oper.wp
  simp [execOp, ho, resolve, invoke, builtin, hd, hs, hrun, Result.andThen]
  exact h _ (copied_set w g cur _ t hg)
theorem ins_up (Z A X Y : List Value) (a y : Nat) (ha : A.length = a) (hy : Y.length = y) (hA : Z.take a = A) (hZ : a + y + X.length ≤ Z.length) :
    (splice (splice Z (a + y) X) a Y).take (a + y + X.length) = A ++ (Y ++ X) := by
  subst ha; subst hy
  unfold splice
  have h1 : (Z.take (A.length + Y.length) ++ (X ++ Z.drop (A.length + Y.length + X.length))).take A.length = A := by
    rw [List.take_append_of_le_length (by rw [List.length_take]; omega), List.take_take, Nat.min_eq_left (by omega), hA]
  have h2 : (Z.take (A.length + Y.length) ++ (X ++ Z.drop (A.length + Y.length + X.length))).drop (A.length + Y.length) = X ++ Z.drop (A.length + Y.length + X.length) := by
    have hl : (Z.take (A.length + Y.length)).length = A.length + Y.length := by rw [List.length_take]; omega
    rw [List.drop_append, hl]
    simp [List.drop_of_length_le, hl]
  rw [h1, h2]
  rw [← List.append_assoc, ← List.append_assoc, ← List.append_assoc]
  rw [List.take_append_of_le_length (by simp only [List.length_append]; omega)]
  exact List.take_of_length_le (by simp only [List.length_append]; omega)
theorem ins_down (Z A X Y : List Value) (a y : Nat) (ha : A.length = a) (hy : Y.length = y) (hA : Z.take a = A) (hZ : a + y + X.length ≤ Z.length) :
    (splice (splice Z a Y) (a + y) X).take (a + y + X.length) = A ++ (Y ++ X) := by
  subst ha; subst hy
  unfold splice
  have h1 : (Z.take A.length ++ (Y ++ Z.drop (A.length + Y.length))).take (A.length + Y.length) = A ++ Y := by
    rw [hA, ← List.append_assoc, List.take_append_of_le_length (by simp)]
    exact List.take_of_length_le (by simp)
  rw [h1]
  rw [← List.append_assoc, ← List.append_assoc]
  rw [List.take_append_of_le_length (by simp only [List.length_append]; omega)]
  rw [List.take_of_length_le (by simp only [List.length_append]; omega), List.append_assoc]
end Go.Proofs.Yteglekfiannncaa
