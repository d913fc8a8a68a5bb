/-
  A byte as a number.
-/
import Derived.WalkKit
set_option linter.unusedSimpArgs false
set_option linter.unusedVariables false
namespace Go.Proofs.YtgnhaicogdnebaaDoor
open Go.RowKit
theorem byte_of {a : Int} (h : Lit.wf (.int .u8 a) = true) : ∃ k : Nat, a = (k : Int) ∧ k < 256 := by
  have h' : 0 ≤ a ∧ a ≤ 255 := by
    simp [Lit.wf, IntKind.min, IntKind.max, IntKind.signed, IntKind.bits] at h
    omega
  exact ⟨a.toNat, by omega, by omega⟩
end Go.Proofs.YtgnhaicogdnebaaDoor
