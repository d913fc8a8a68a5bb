/-
  What the accesses of every opcode have; plain mathematics, decided opcode by opcode.
-/
import Derived.Test.YtjlakfbggkbmnaaIRunP
set_option linter.unusedSimpArgs false
set_option linter.unusedVariables false
namespace Go.Proofs.Ytjlakfbggkbmnaa
open Go.RowKit
def mvN (o : Nat) : Nat := if o = 35 ∨ o = 36 ∨ o = 37 ∨ o = 38 then 1 else if o = 28 ∨ o = 42 then 2 else if o = 10 ∨ o = 41 then 3 else 0
def exN (o : Nat) : Nat := if o = 10 ∨ o = 42 then 1 else 0
def ltN (kd m : Nat) : Nat := if kd = 1 ∧ (m = 9 ∨ m = 10 ∨ m = 7) then 1 else 0
def cnt (l : List Nat) (a : Nat) : Nat := l.count a
def okBus (k : Nat) : Bool :=
  let l := shQ k false false
  let x := shQ k true false
  let t := shQ k false true
  let y := shQ k true true
  let n := y.length
  let kd := kdN k
  (l.getD 0 9 == 0) && (cnt y 0 == 1) && (1 ≤ lnN k) && (lnN k ≤ 3) && (cnt l 1 + 1 == lnN k + exN (opN k)) && (cnt y 1 + 1 == lnN k + exN (opN k))
    && (if kd = 1 ∨ kd = 4 then cnt y 9 == 0 && (cnt y 7 == 1 && (cnt y 8 == 0 && (y.getD (n - 1) 0 == 7)))
        else if kd = 2 then cnt y 9 == 1 && (cnt y 7 == 0 && (cnt y 8 == 0 && (y.getD (n - 1) 0 == 9)))
        else if kd = 3 then cnt y 9 == 1 && (cnt y 7 == 1 && (cnt y 8 == 1 && (decide (5 ≤ n) && (y.getD (n - 3) 0 == 7 && (y.getD (n - 2) 0 == 8 && (y.getD (n - 1) 0 == 9))))))
        else cnt y 9 == 0 && (cnt y 7 == 0 && (cnt y 8 == 0)))
    && (if kd = 5 then l.length == 2 && (x.length == 2 && (t.length == 3 && y.length == 4))
        else t.length == l.length && (x.length == l.length + ltN kd (mdN k) && (y.length == x.length && (cnt y 11 + cnt y 12 == mvN (opN k)))))
theorem okBus_all : (List.range 256).all okBus = true := by kernel_rfl
end Go.Proofs.Ytjlakfbggkbmnaa
