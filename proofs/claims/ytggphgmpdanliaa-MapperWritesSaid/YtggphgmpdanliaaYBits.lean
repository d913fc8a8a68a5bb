/-
  Bits of bytes as quotients and remainders.
-/
import Derived.Test.YtggphgmpdanliaaYDef
set_option linter.unusedSimpArgs false
set_option linter.unusedVariables false
namespace Go.Proofs.Ytggphgmpdanliaa
open Go.RowKit
theorem byteN {x : Int} (h0 : 0 ≤ x) (h1 : x ≤ 255) : ∃ k : Nat, k < 256 ∧ x = k := ⟨x.toNat, by omega, by omega⟩
theorem and15N : ∀ k : Nat, k < 256 → bits .and .u8 (k : Int) 15 = (k : Int) % 16 := by decide +kernel
theorem and15 {x : Int} (h0 : 0 ≤ x) (h1 : x ≤ 255) : bits .and .u8 x 15 = x % 16 := by
  obtain ⟨k, hk, rfl⟩ := byteN h0 h1; exact and15N k hk
theorem and3N : ∀ k : Nat, k < 256 → bits .and .u8 (k : Int) 3 = (k : Int) % 4 := by decide +kernel
theorem and3 {x : Int} (h0 : 0 ≤ x) (h1 : x ≤ 255) : bits .and .u8 x 3 = x % 4 := by
  obtain ⟨k, hk, rfl⟩ := byteN h0 h1; exact and3N k hk
theorem and3w : ∀ k : Nat, k < 8 → bits .and .u16 (k : Int) 3 = (k : Int) % 4 := by decide +kernel
theorem and1N : ∀ k : Nat, k < 256 → bits .and .u8 (k : Int) 1 = (k : Int) % 2 := by decide +kernel
theorem and1 {x : Int} (h0 : 0 ≤ x) (h1 : x ≤ 255) : bits .and .u8 x 1 = x % 2 := by
  obtain ⟨k, hk, rfl⟩ := byteN h0 h1; exact and1N k hk
theorem and7N : ∀ k : Nat, k < 256 → bits .and .u8 (k : Int) 7 = (k : Int) % 8 := by decide +kernel
theorem and7 {x : Int} (h0 : 0 ≤ x) (h1 : x ≤ 255) : bits .and .u8 x 7 = x % 8 := by
  obtain ⟨k, hk, rfl⟩ := byteN h0 h1; exact and7N k hk
theorem and254N : ∀ k : Nat, k < 256 → bits .and .u8 (k : Int) 254 = (k : Int) - (k : Int) % 2 := by decide +kernel
theorem and254 {x : Int} (h0 : 0 ≤ x) (h1 : x ≤ 255) : bits .and .u8 x 254 = x - x % 2 := by
  obtain ⟨k, hk, rfl⟩ := byteN h0 h1; exact and254N k hk
theorem even8N : ∀ k : Nat, k < 256 → bits .andNot .u8 (k : Int) 1 = (k : Int) - (k : Int) % 2 := by decide +kernel
theorem even8 {x : Int} (h0 : 0 ≤ x) (h1 : x ≤ 255) : bits .andNot .u8 x 1 = x - x % 2 := by
  obtain ⟨k, hk, rfl⟩ := byteN h0 h1; exact even8N k hk
theorem even64N : ∀ k : Nat, k < 256 → bits .andNot .i64 (k : Int) 1 = (k : Int) - (k : Int) % 2 := by decide +kernel
theorem even64 {x : Int} (h0 : 0 ≤ x) (h1 : x ≤ 255) : bits .andNot .i64 x 1 = x - x % 2 := by
  obtain ⟨k, hk, rfl⟩ := byteN h0 h1; exact even64N k hk
theorem bit16N : ∀ k : Nat, k < 256 → bits .and .u8 (k : Int) 16 = (k : Int) / 16 % 2 * 16 := by decide +kernel
theorem bit16 {x : Int} (h0 : 0 ≤ x) (h1 : x ≤ 255) : bits .and .u8 x 16 = x / 16 % 2 * 16 := by
  obtain ⟨k, hk, rfl⟩ := byteN h0 h1; exact bit16N k hk
theorem bit64N : ∀ k : Nat, k < 256 → bits .and .u8 (k : Int) 64 = (k : Int) / 64 % 2 * 64 := by decide +kernel
theorem bit64 {x : Int} (h0 : 0 ≤ x) (h1 : x ≤ 255) : bits .and .u8 x 64 = x / 64 % 2 * 64 := by
  obtain ⟨k, hk, rfl⟩ := byteN h0 h1; exact bit64N k hk
theorem bit128N : ∀ k : Nat, k < 256 → bits .and .u8 (k : Int) 128 = (k : Int) / 128 % 2 * 128 := by decide +kernel
theorem bit128 {x : Int} (h0 : 0 ≤ x) (h1 : x ≤ 255) : bits .and .u8 x 128 = x / 128 % 2 * 128 := by
  obtain ⟨k, hk, rfl⟩ := byteN h0 h1; exact bit128N k hk
theorem orPushN : ∀ k : Nat, k < 16 → ∀ v : Nat, v < 2 → bits .or .u8 (k : Int) ((v : Int) * 16) = (k : Int) + (v : Int) * 16 := by decide +kernel
theorem orPush {x y : Int} (h0 : 0 ≤ x) (h1 : x < 16) (v0 : 0 ≤ y) (v1 : y < 2) : bits .or .u8 x (y * 16) = x + y * 16 := by
  have := orPushN x.toNat (by omega) y.toNat (by omega)
  rwa [show ((x.toNat : Nat) : Int) = x by omega, show ((y.toNat : Nat) : Int) = y by omega] at this
theorem or12N : ∀ k : Nat, k < 256 → 0 ≤ bits .or .u8 (k : Int) 12 ∧ bits .or .u8 (k : Int) 12 ≤ 255 ∧ (k < 32 → bits .or .u8 (k : Int) 12 ≤ 31) := by decide +kernel
theorem or12 {x : Int} (h0 : 0 ≤ x) (h1 : x ≤ 255) : 0 ≤ bits .or .u8 x 12 ∧ bits .or .u8 x 12 ≤ 255 ∧ (x ≤ 31 → bits .or .u8 x 12 ≤ 31) := by
  obtain ⟨k, hk, rfl⟩ := byteN h0 h1
  obtain ⟨a, b, c⟩ := or12N k hk
  exact ⟨a, b, fun h => c (by omega)⟩
theorem and199N : ∀ k : Nat, k < 256 → 0 ≤ bits .and .u8 (k : Int) 199 ∧ bits .and .u8 (k : Int) 199 ≤ 255 ∧ bits .andNot .u8 (bits .and .u8 (k : Int) 199) 199 = 0 := by decide +kernel
theorem and199 {x : Int} (h0 : 0 ≤ x) (h1 : x ≤ 255) : 0 ≤ bits .and .u8 x 199 ∧ bits .and .u8 x 199 ≤ 255 ∧ bits .andNot .u8 (bits .and .u8 x 199) 199 = 0 := by
  obtain ⟨k, hk, rfl⟩ := byteN h0 h1; exact and199N k hk
theorem and192N : ∀ k : Nat, k < 256 → 0 ≤ bits .and .u8 (k : Int) 192 ∧ bits .and .u8 (k : Int) 192 ≤ 255 ∧ bits .andNot .u8 (bits .and .u8 (k : Int) 192) 192 = 0 := by decide +kernel
theorem and192 {x : Int} (h0 : 0 ≤ x) (h1 : x ≤ 255) : 0 ≤ bits .and .u8 x 192 ∧ bits .and .u8 x 192 ≤ 255 ∧ bits .andNot .u8 (bits .and .u8 x 192) 192 = 0 := by
  obtain ⟨k, hk, rfl⟩ := byteN h0 h1; exact and192N k hk
theorem guardN : ∀ k : Nat, k < 256 → bits .andNot .u8 (k : Int) 192 = 0 → (k = 0 ∨ k = 64 ∨ k = 128 ∨ k = 192) := by decide +kernel
theorem guard4 {x : Int} (h0 : 0 ≤ x) (h1 : x ≤ 255) (h : bits .andNot .u8 x 192 = 0) : x = 0 ∨ x = 64 ∨ x = 128 ∨ x = 192 := by
  obtain ⟨k, hk, rfl⟩ := byteN h0 h1
  have := guardN k hk h
  omega
end Go.Proofs.Ytggphgmpdanliaa
