/-
  Division of a number of 16 bits.
-/
import Derived.Test.YtobiiogoofkmaaaDoorTBase
set_option linter.unusedSimpArgs false
set_option linter.unusedVariables false
namespace Go.Proofs.YtobiiogoofkmaaaDoor
open Go.RowKit Classical
theorem quo16 (x : Int) (h0 : 0 ≤ x) (h1 : x ≤ 65535) : IntKind.u16.wrap (x.tdiv 256) = x / 256 := by
  rw [Int.tdiv_eq_ediv_of_nonneg h0]
  simp [IntKind.wrap, IntKind.signed, IntKind.bits]
  omega
theorem mul16 (x : Int) (h0 : 0 ≤ x) (h1 : x ≤ 65535) : IntKind.u16.wrap (x / 256 * 256) = x / 256 * 256 := by
  simp [IntKind.wrap, IntKind.signed, IntKind.bits]
  omega
theorem add16 (x v : Int) (h0 : 0 ≤ x) (h1 : x ≤ 65535) (v0 : 0 ≤ v) (v1 : v ≤ 255) : IntKind.u16.wrap (x / 256 * 256 + v) = x / 256 * 256 + v := by
  simp [IntKind.wrap, IntKind.signed, IntKind.bits]
  omega
end Go.Proofs.YtobiiogoofkmaaaDoor
