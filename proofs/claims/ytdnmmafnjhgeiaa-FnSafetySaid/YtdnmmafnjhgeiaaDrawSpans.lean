/- What the laws on lines draw: a line, a line and a place. Condition: sizes. -/
import Derived.Test.YtdnmmafnjhgeiaaDrawLine
import Derived.Test.YtdnmmafnjhgeiaaBig
namespace Go.Proofs.Ytdnmmafnjhgeiaa
open Go.RowKit
set_option linter.unusedVariables false
/-- What drawing a line leaves. -/
def DlPost (w : World) (e : Ending) (w' : World) : Prop := ∃ (v : Value) (l : List Sup), e = .returned v ∧ w'.ownsRow w.heap.size 94 3 v l.length (sups l) ∧ (1 ≤ l.length ∧ l.length ≤ 9) ∧ Below w.heap.size w w'
/-- What drawing a line and a place leaves. -/
def DpPost (w : World) (e : Ending) (w' : World) : Prop := ∃ (v : Value) (l : List Sup) (p : Int), e = .returned (.tuple #[v, .int .i64 p]) ∧ (-10000 ≤ p ∧ p ≤ 10000) ∧ w'.ownsRow w.heap.size 94 3 v l.length (sups l) ∧ (1 ≤ l.length ∧ l.length ≤ 9) ∧ Below w.heap.size w w'
theorem own_mono' {w : World} {B B' e size n : Nat} {v : Value} {xs : List Value} (h : w.ownsRow B e size v n xs) (hB : B' ≤ B) : w.ownsRow B' e size v n xs := own_mono h hB
/-- What a place leaves. -/
def PlPost (B b k : Nat) (w : World) (e : Ending) (w' : World) : Prop := ∃ p : Int, e = .returned (.int .i64 p) ∧ (-10000 ≤ p ∧ p ≤ 10000) ∧ Cur B b (k + 10) w' ∧ w.grownBy w' (some b)
end Go.Proofs.Ytdnmmafnjhgeiaa
