/-
  Bits of a byte that the laws look at.
-/
import Derived.Test.YtkebkbiabdlomaaXHelp
set_option linter.unusedSimpArgs false
set_option linter.unusedVariables false
namespace Go.Proofs.Ytkebkbiabdlomaa
open Go.RowKit Classical
theorem nat_or1 (a : Nat) (h : a < 256) : (a ||| 1) = a / 2 * 2 + 1 := by revert a; decide +kernel
theorem or1 (x : Int) (h0 : 0 ≤ x) (h1 : x ≤ 255) : bits .or .u8 x 1 = x / 2 * 2 + 1 := by
  obtain ⟨k, rfl⟩ := Int.eq_ofNat_of_zero_le h0
  have := bitsN_or k 1 (by omega) (by decide)
  rw [nat_or1 k (by omega)] at this
  exact this.trans (by omega)
theorem nat_not1 (a : Nat) (h : a < 256) : a &&& (255 - 1) = a / 2 * 2 := by revert a; decide +kernel
theorem not1 (x : Int) (h0 : 0 ≤ x) (h1 : x ≤ 255) : bits .andNot .u8 x 1 = x / 2 * 2 := by
  obtain ⟨k, rfl⟩ := Int.eq_ofNat_of_zero_le h0
  have := u8_andNot_nat k 1 (by omega) (by decide)
  rw [nat_not1 k (by omega)] at this
  exact this.trans (by omega)
theorem nat_xor255 (a : Nat) (h : a < 256) : 255 ^^^ a = 255 - a := by revert a; decide +kernel
theorem xor255 (x : Int) (h0 : 0 ≤ x) (h1 : x ≤ 255) : bits .xor .u8 (if IntKind.u8.signed = true then -1 else IntKind.u8.max) x = 255 - x := by
  obtain ⟨k, rfl⟩ := Int.eq_ofNat_of_zero_le h0
  have := u8_xor_nat 255 k (by decide) (by omega)
  rw [nat_xor255 k (by omega)] at this
  exact this.trans (by omega)
theorem eq2_yes (w : World) (a b : Int) : (binOp .eql 23 (.agg #[.int .u8 a, .int .u8 b]) (.agg #[.int .u8 a, .int .u8 b])).run Try.prog w = .ok (.bool true) w := by
  rw [run_eql_struct, eq2 w 9998]
  simp
end Go.Proofs.Ytkebkbiabdlomaa
