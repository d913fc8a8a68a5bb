/-
  Helpers for the port.
-/
import Derived.Test.YtkebkbiabdlomaaXBase
set_option linter.unusedSimpArgs false
set_option linter.unusedVariables false
namespace Go.Proofs.Ytkebkbiabdlomaa
open Go.RowKit Classical
theorem below_a2 (w : World) (o1 o2 : Obj) : Below w.heap.size w ((w.alloc o1).alloc o2) := ((Below.refl _ _).alloc (Nat.le_refl _) _).alloc (by simp) _
theorem bitsN_or (a b : Nat) (ha : a < 256) (hb : b < 256) : bits .or .u8 (a : Int) (b : Int) = ((a ||| b : Nat) : Int) := u8_or_nat a b ha hb
theorem nat_or128 (a : Nat) (h : a < 256) : (a / 2) ||| 128 = a / 2 + 128 := by revert a; decide +kernel
theorem or128 (x : Int) (h0 : 0 ≤ x) (h1 : x ≤ 255) : bits .or .u8 (x / 2) 128 = x / 2 + 128 := by
  obtain ⟨k, rfl⟩ := Int.eq_ofNat_of_zero_le h0
  have := bitsN_or (k / 2) 128 (by omega) (by decide)
  rw [nat_or128 k (by omega)] at this
  refine Eq.trans ?_ (this.trans ?_)
  · congr 1
  · omega
end Go.Proofs.Ytkebkbiabdlomaa
