/-
  Bits of a byte that the ports look at.
-/
import Derived.Test.YtlnpcbofebppcabQLaw0
set_option linter.unusedSimpArgs false
set_option linter.unusedVariables false
namespace Go.Proofs.Ytlnpcbofebppcab
open Go.RowKit Classical
theorem bitsN_and (a b : Nat) (ha : a < 256) (hb : b < 256) : bits .and .u8 (a : Int) (b : Int) = ((a &&& b : Nat) : Int) := u8_and_nat a b ha hb
theorem nat_and128 (a : Nat) (h : a < 256) : a &&& 128 = if 128 ≤ a then 128 else 0 := by revert a; decide +kernel
theorem and128 (x : Int) (h0 : 0 ≤ x) (h1 : x ≤ 255) : bits .and .u8 x 128 = if 128 ≤ x then 128 else 0 := by
  obtain ⟨k, rfl⟩ := Int.eq_ofNat_of_zero_le h0
  have := bitsN_and k 128 (by omega) (by decide)
  rw [nat_and128 k (by omega)] at this
  refine this.trans ?_
  by_cases h : 128 ≤ k
  · rw [if_pos h, if_pos (by omega)]; rfl
  · rw [if_neg h, if_neg (by omega)]; rfl
theorem nat_and24 (a : Nat) (h : a < 256) : a &&& 24 = a / 8 % 2 * 8 + a / 16 % 2 * 16 := by revert a; decide +kernel
theorem and24 (x : Int) (h0 : 0 ≤ x) (h1 : x ≤ 255) : bits .and .u8 x 24 = x / 8 % 2 * 8 + x / 16 % 2 * 16 := by
  obtain ⟨k, rfl⟩ := Int.eq_ofNat_of_zero_le h0
  have := bitsN_and k 24 (by omega) (by decide)
  rw [nat_and24 k (by omega)] at this
  refine this.trans ?_
  omega
end Go.Proofs.Ytlnpcbofebppcab
