/-
  What a write makes of a clock, as a plain function; facts on bits.
-/
import Derived.Test.YtobiiogoofkmaaaDoorTRead0
set_option linter.unusedSimpArgs false
set_option linter.unusedVariables false
namespace Go.Proofs.YtobiiogoofkmaaaDoor
open Go.RowKit Classical
/-- The clock behind a write. -/
def Ck.wr (c : Ck) (a v cycle : Int) : Ck := if c.valid = false then c else if a = 16407 then c.seq v cycle else if a = 16408 then { c with latch := c.latch / 256 * 256 + v } else if a = 16409 then { c with latch := c.latch % 256 + v * 256 } else if a = 16410 then { c with ctl := v % 32, pre := 0, count := if 128 ≤ v then c.latch else c.count } else if a = 16411 then c.ack else c
theorem nat_and31 (a : Nat) (h : a < 256) : a &&& 31 = a % 32 := by revert a; decide +kernel
theorem and31 (x : Int) (h0 : 0 ≤ x) (h1 : x ≤ 255) : bits .and .u8 x 31 = x % 32 := by
  obtain ⟨k, rfl⟩ := Int.eq_ofNat_of_zero_le h0
  have := bitsN_and k 31 (by omega) (by decide)
  rw [nat_and31 k (by omega)] at this
  exact this
theorem u16_and_nat' (a b : Nat) (ha : a < 65536) (hb : b < 65536) : bits .and .u16 (a : Int) (b : Int) = ((a &&& b : Nat) : Int) := by
  show IntKind.u16.wrap ((BitVec.ofInt 16 (a : Int) &&& BitVec.ofInt 16 (b : Int)).toNat : Nat) = _
  rw [BitVec.toNat_and, BitVec.ofInt_natCast, BitVec.ofInt_natCast, BitVec.toNat_ofNat, BitVec.toNat_ofNat, Nat.mod_eq_of_lt (by omega), Nat.mod_eq_of_lt (by omega)]
  have h : a &&& b < 2 ^ 16 := Nat.and_lt_two_pow _ hb
  have h' : a &&& b < 65536 := h
  generalize a &&& b = k at *
  simp [IntKind.wrap, IntKind.signed, IntKind.bits]
  omega
theorem u16_or_nat' (a b : Nat) (ha : a < 65536) (hb : b < 65536) : bits .or .u16 (a : Int) (b : Int) = ((a ||| b : Nat) : Int) := by
  show IntKind.u16.wrap ((BitVec.ofInt 16 (a : Int) ||| BitVec.ofInt 16 (b : Int)).toNat : Nat) = _
  rw [BitVec.toNat_or, BitVec.ofInt_natCast, BitVec.ofInt_natCast, BitVec.toNat_ofNat, BitVec.toNat_ofNat, Nat.mod_eq_of_lt (by omega), Nat.mod_eq_of_lt (by omega)]
  have h : a ||| b < 2 ^ 16 := Nat.or_lt_two_pow ha hb
  have h' : a ||| b < 65536 := h
  generalize a ||| b = k at *
  simp [IntKind.wrap, IntKind.signed, IntKind.bits]
  omega
theorem andHi (x : Int) (h0 : 0 ≤ x) (h1 : x ≤ 65535) : bits .and .u16 x 65280 = x / 256 * 256 := by
  obtain ⟨k, rfl⟩ := Int.eq_ofNat_of_zero_le h0
  have := u16_and_nat' k 65280 (by omega) (by decide)
  refine this.trans ?_
  have e : k &&& 65280 = k / 256 * 256 := by
    apply Nat.eq_of_testBit_eq
    intro i
    rw [Nat.testBit_and, show (65280 : Nat) = 255 * 2 ^ 8 from rfl, show k / 256 * 256 = k / 2 ^ 8 * 2 ^ 8 from rfl, Nat.testBit_mul_two_pow, Nat.testBit_mul_two_pow, Nat.testBit_div_two_pow]
    by_cases hi : 8 ≤ i
    · simp only [hi, decide_true, Bool.true_and]
      rw [show i - 8 + 8 = i by omega, show (255 : Nat) = 2 ^ 8 - 1 from rfl, Nat.testBit_two_pow_sub_one]
      by_cases h2 : i - 8 < 8
      · simp [h2]
      · have : k < 2 ^ i := Nat.lt_of_lt_of_le (show k < 2 ^ 16 by omega) (Nat.pow_le_pow_right (by decide) (by omega))
        rw [Nat.testBit_lt_two_pow this]; simp
    · simp [hi]
  rw [e]
  omega
theorem andLo (x : Int) (h0 : 0 ≤ x) (h1 : x ≤ 65535) : bits .and .u16 x 255 = x % 256 := by
  obtain ⟨k, rfl⟩ := Int.eq_ofNat_of_zero_le h0
  have := u16_and_nat' k 255 (by omega) (by decide)
  refine this.trans ?_
  rw [show (255 : Nat) = 2 ^ 8 - 1 from rfl, Nat.and_two_pow_sub_one_eq_mod]
  omega
theorem nat_or_hi (h l : Nat) (hl : l < 256) : h * 256 ||| l = h * 256 + l := by
  have := Nat.shiftLeft_add_eq_or_of_lt (i := 8) (b := l) hl h
  rw [Nat.shiftLeft_eq] at this
  exact this.symm
theorem orHi (h l : Int) (h0 : 0 ≤ h) (h1 : h ≤ 255) (l0 : 0 ≤ l) (l1 : l ≤ 255) : bits .or .u16 (h * 256) l = h * 256 + l := by
  obtain ⟨k, rfl⟩ := Int.eq_ofNat_of_zero_le h0
  obtain ⟨m, rfl⟩ := Int.eq_ofNat_of_zero_le l0
  have := u16_or_nat' (k * 256) m (by omega) (by omega)
  rw [nat_or_hi k m (by omega)] at this
  refine Eq.trans (by congr 1) (this.trans (by omega))
theorem orLo (h l : Int) (h0 : 0 ≤ h) (h1 : h ≤ 255) (l0 : 0 ≤ l) (l1 : l ≤ 255) : bits .or .u16 l (h * 256) = l + h * 256 := by
  obtain ⟨k, rfl⟩ := Int.eq_ofNat_of_zero_le h0
  obtain ⟨m, rfl⟩ := Int.eq_ofNat_of_zero_le l0
  have := u16_or_nat' m (k * 256) (by omega) (by omega)
  rw [Nat.or_comm, nat_or_hi k m (by omega)] at this
  refine Eq.trans (by congr 1) (this.trans (by omega))
end Go.Proofs.YtobiiogoofkmaaaDoor
