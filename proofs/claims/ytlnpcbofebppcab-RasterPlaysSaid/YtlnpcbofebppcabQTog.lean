/-
  Bits that the law RasterToggled sets and clears; no condition.
-/
import Derived.Test.YtlnpcbofebppcabQBits
import Derived.Test.YtlnpcbofebppcabQFrm
set_option linter.unusedSimpArgs false
set_option linter.unusedVariables false
namespace Go.Proofs.Ytlnpcbofebppcab
open Go.RowKit Classical
theorem nat_n128 (a : Nat) (h : a < 256) : a &&& (255 - 128) = a % 128 := by revert a; decide +kernel
theorem nat_o128 (a : Nat) (h : a < 256) : a ||| 128 = a % 128 + 128 := by revert a; decide +kernel
theorem nat_o8 (a : Nat) (h : a < 256) : (a ||| 8) < 256 ∧ (a ||| 8) / 8 % 2 = 1 := by revert a; decide +kernel
theorem nat_o16 (a : Nat) (h : a < 256) : (a ||| 16) < 256 ∧ (a ||| 16) / 16 % 2 = 1 := by revert a; decide +kernel
theorem nat_n24 (a : Nat) (h : a < 256) : (a &&& (255 - 24)) < 256 ∧ (a &&& (255 - 24)) / 8 % 2 = 0 ∧ (a &&& (255 - 24)) / 16 % 2 = 0 := by revert a; decide +kernel
theorem n128 (x : Int) (h0 : 0 ≤ x) (h1 : x ≤ 255) : bits .andNot .u8 x 128 = x % 128 := by
  obtain ⟨k, rfl⟩ := Int.eq_ofNat_of_zero_le h0
  have := u8_andNot_nat k 128 (by omega) (by decide)
  rw [nat_n128 k (by omega)] at this
  exact this.trans (by omega)
theorem o128 (x : Int) (h0 : 0 ≤ x) (h1 : x ≤ 255) : bits .or .u8 x 128 = x % 128 + 128 := by
  obtain ⟨k, rfl⟩ := Int.eq_ofNat_of_zero_le h0
  have := u8_or_nat k 128 (by omega) (by decide)
  rw [nat_o128 k (by omega)] at this
  exact this.trans (by omega)
theorem o8 (x : Int) (h0 : 0 ≤ x) (h1 : x ≤ 255) : ∃ y, bits .or .u8 x 8 = y ∧ 0 ≤ y ∧ y ≤ 255 ∧ dw y = true := by
  obtain ⟨k, rfl⟩ := Int.eq_ofNat_of_zero_le h0
  have := nat_o8 k (by omega)
  refine ⟨_, u8_or_nat k 8 (by omega) (by decide), by omega, by omega, ?_⟩
  unfold dw
  rw [decide_eq_true (by omega)]
  rfl
theorem o16 (x : Int) (h0 : 0 ≤ x) (h1 : x ≤ 255) : ∃ y, bits .or .u8 x 16 = y ∧ 0 ≤ y ∧ y ≤ 255 ∧ dw y = true := by
  obtain ⟨k, rfl⟩ := Int.eq_ofNat_of_zero_le h0
  have := nat_o16 k (by omega)
  refine ⟨_, u8_or_nat k 16 (by omega) (by decide), by omega, by omega, ?_⟩
  unfold dw
  rw [decide_eq_true (p := ((k ||| 16 : Nat) : Int) / 16 % 2 = 1) (by omega)]
  simp
theorem n24 (x : Int) (h0 : 0 ≤ x) (h1 : x ≤ 255) : ∃ y, bits .andNot .u8 x 24 = y ∧ 0 ≤ y ∧ y ≤ 255 ∧ dw y = false := by
  obtain ⟨k, rfl⟩ := Int.eq_ofNat_of_zero_le h0
  have := nat_n24 k (by omega)
  refine ⟨_, u8_andNot_nat k 24 (by omega) (by decide), by omega, by omega, ?_⟩
  unfold dw
  rw [decide_eq_false (by omega), decide_eq_false (by omega)]
  rfl
theorem Rs.ctrl_of {r : Rs} (v : r.V) (n : Int) : r.ctrl n = { r with nmi := decide (128 ≤ n) } := by unfold Rs.ctrl; rw [if_pos ((Rs.valid_iff r).2 v)]
theorem Rs.mask_of {r : Rs} (v : r.V) (n : Int) : r.mask n = { r with draw := dw n } := by unfold Rs.mask; rw [if_pos ((Rs.valid_iff r).2 v)]
theorem Rs.line_of {r : Rs} (v : r.V) : r.nmiL = (r.vbl && r.nmi) := by unfold Rs.nmiL; rw [(Rs.valid_iff r).2 v]; rfl
end Go.Proofs.Ytlnpcbofebppcab
