/-
  What a shift register holds behind n reads, bit by bit.
-/
import Derived.Test.YtkebkbiabdlomaaXSt
import Derived.Test.YtkebkbiabdlomaaXBit
set_option linter.unusedSimpArgs false
set_option linter.unusedVariables false
namespace Go.Proofs.Ytkebkbiabdlomaa
open Go.RowKit Classical
/-- Behind n reads. -/
def shf (x : Int) : Nat → Int
  | 0 => x
  | n + 1 => shf x n / 2 + 128
theorem shf_ok (x : Int) (h : 0 ≤ x ∧ x ≤ 255) : ∀ n, 0 ≤ shf x n ∧ shf x n ≤ 255
  | 0 => h
  | n + 1 => by have := shf_ok x h n; simp only [shf]; omega
theorem shf_low (x : Int) (h : 0 ≤ x ∧ x ≤ 255) : shf x 0 % 2 = x % 2 ∧ shf x 1 % 2 = x / 2 % 2 ∧ shf x 2 % 2 = x / 4 % 2 ∧ shf x 3 % 2 = x / 8 % 2 ∧ shf x 4 % 2 = x / 16 % 2 ∧ shf x 5 % 2 = x / 32 % 2 ∧ shf x 6 % 2 = x / 64 % 2 ∧ shf x 7 % 2 = x / 128 % 2 := by
  simp only [shf]
  refine ⟨trivial, ?_, ?_, ?_, ?_, ?_, ?_, ?_⟩ <;> omega
theorem shf_eight (x : Int) (h : 0 ≤ x ∧ x ≤ 255) : shf x 8 = 255 := by
  simp only [shf]
  omega
theorem shf_high (x : Int) (h : 0 ≤ x ∧ x ≤ 255) : ∀ n, 8 ≤ n → shf x n = 255
  | 0, h0 => absurd h0 (by decide)
  | n + 1, h0 => by
    by_cases hn : 8 ≤ n
    · have := shf_high x h n hn
      simp only [shf]
      omega
    · obtain rfl : n = 7 := by omega
      exact shf_eight x h
theorem St.aside {w v : World} {l : List (Nat × Pd)} (h : St w l v) (b i : Nat) (x : Value) (hn : ∀ p ∈ l, p.1 ≠ b) (hB : w.heap.size ≤ b) : St w l (v.setCell ⟨b, i, none⟩ x) :=
  ⟨fun p hp => (h.1 p hp).other (hn p hp) i x, h.2.setCell (p := ⟨b, i, none⟩) hB _⟩
theorem Blk.drews {w : World} {b : Nat} {cs : Array Value} {t : TypeId} (h : Blk w b cs t) : ∀ n, Blk (w.drewN n) b cs t
  | 0 => h
  | n + 1 => (Blk.drews h n).drew
theorem St.drews {w v : World} {l : List (Nat × Pd)} (h : St w l v) (n : Nat) : St w l (v.drewN n) := ⟨fun p hp => (h.1 p hp).drews n, below_draws h.2 n⟩
theorem xor90 (x : Int) (h0 : 0 ≤ x) (h1 : x ≤ 255) : ∃ y : Int, bits .xor .u8 x 90 = y ∧ 0 ≤ y ∧ y ≤ 255 := by
  obtain ⟨k, rfl⟩ := Int.eq_ofNat_of_zero_le h0
  have := u8_xor_nat k 90 (by omega) (by decide)
  have h : k ^^^ 90 < 2 ^ 8 := Nat.xor_lt_two_pow (by omega) (by decide)
  exact ⟨_, this, by omega, by omega⟩
theorem below_two {w : World} {l : List (Nat × Pd)} {v : World} (h : St w l v) (o1 o2 : Obj) : St w l ((v.alloc o1).alloc o2) := h.on (((Below.refl _ _).alloc (Nat.le_refl _) _).alloc (by simp) _)
end Go.Proofs.Ytkebkbiabdlomaa
