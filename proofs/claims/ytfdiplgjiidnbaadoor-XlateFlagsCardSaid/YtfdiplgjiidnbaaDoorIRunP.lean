/-
  The accesses of an instruction, as lists; plain mathematics, no program.
-/
import Derived.Test.YtfdiplgjiidnbaaDoorITab
set_option linter.unusedSimpArgs false
set_option linter.unusedVariables false
namespace Go.Proofs.YtfdiplgjiidnbaaDoor
open Go.RowKit
/-- What leads to an operand in memory. -/
def rch0 (m : Nat) : List Nat := match m with
  | 4 => [3] | 5 => [3] | 8 => [1] | 9 => [1] | 10 => [1] | 6 => [3, 4, 5] | 7 => [4, 5] | _ => []
def rch1 (m : Nat) (wrong : Bool) : List Nat := if (m = 9 ∨ m = 10 ∨ m = 7) ∧ wrong = true then [6] else []
def rchL (m : Nat) (wrong : Bool) : List Nat := [1] ++ rch0 m ++ rch1 m wrong
def brL (crossed taken : Bool) : List Nat := [1] ++ (if taken = true then [2] else []) ++ (if taken = true ∧ crossed = true then [6] else [])
def plL (m : Nat) : List Nat := if m = 2 then [1] else [2]
def rsL (o m : Nat) : List Nat :=
  if o = 27 then [1, 1] ++ (if m = 11 then [4, 5] else []) else if o = 28 then [1, 10, 11, 11, 1] else if o = 42 then [2, 10, 12, 12, 1] else if o = 41 then [2, 10, 12, 12, 12]
  else if o = 10 then [1, 11, 11, 11, 13, 14] else if o = 35 ∨ o = 36 then [2, 11] else if o = 37 ∨ o = 38 then [2, 10, 12] else if o = 69 then [] else plL m
/-- The accesses by kind, operation, mode. -/
def shp (kd o m : Nat) (crossed taken : Bool) : List Nat := [0] ++ (match kd with
  | 1 => rchL m crossed ++ [7] | 4 => rchL m true ++ [7] | 2 => rchL m true ++ [9] | 3 => rchL m true ++ [7, 8, 9] | 5 => brL crossed taken | _ => rsL o m)
def shQ (k : Nat) (crossed taken : Bool) : List Nat := shp (kdN k) (opN k) (mdN k) crossed taken
theorem rchL_length (m : Nat) (wr : Bool) : (rchL m wr).length ≤ 4 := by
  unfold rchL rch0 rch1
  split <;> split <;> simp_all
theorem shp_length : ∀ k, k < 256 → ∀ a b, (shQ k a b).length ≤ 8 ∧ 1 ≤ (shQ k a b).length := by
  decide +kernel
end Go.Proofs.YtfdiplgjiidnbaaDoor
