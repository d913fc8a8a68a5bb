/-
  Flags as eight truth values, and what the bit operations on bytes make of them; plain mathematics, no program.
-/
import Derived.WalkKit
import Derived.WalkSpells
import Derived.WalkLawsBesides
import Derived.Laws.BitsAllLaws
namespace Go.Proofs.YtgnhaicogdnebaaDoor
open Go.RowKit
/-- The eight flags of P. -/
structure Fl where
  n : Bool
  v : Bool
  u : Bool
  b : Bool
  d : Bool
  i : Bool
  z : Bool
  c : Bool
/-- P as a number. -/
def Fl.val (f : Fl) : Nat := 128 * f.n.toNat + 64 * f.v.toNat + 32 * f.u.toNat + 16 * f.b.toNat + 8 * f.d.toNat + 4 * f.i.toNat + 2 * f.z.toNat + f.c.toNat
theorem Fl.lt (f : Fl) : f.val < 256 := by
  obtain ⟨n, v, u, b, d, i, z, c⟩ := f
  revert n v u b d i z c
  decide +kernel
theorem Fl.of (p : Nat) (h : p < 256) : ∃ f : Fl, p = f.val := by
  refine ⟨⟨p.testBit 7, p.testBit 6, p.testBit 5, p.testBit 4, p.testBit 3, p.testBit 2, p.testBit 1, p.testBit 0⟩, ?_⟩
  revert p
  decide +kernel
theorem Fl.ofInt (p : Int) (h1 : 0 ≤ p) (h2 : p ≤ 255) : ∃ f : Fl, p = (f.val : Int) := by
  obtain ⟨n, rfl⟩ := Int.eq_ofNat_of_zero_le h1
  obtain ⟨f, e⟩ := Fl.of n (by omega)
  exact ⟨f, by omega⟩
/-- A flag's bit put by a truth value. -/
def putN (p f : Nat) (on : Bool) : Nat := if on then p ||| f else p &&& (255 - f)
theorem put_c (f : Fl) (on : Bool) : putN f.val 1 on = { f with c := on }.val := by
  obtain ⟨n, v, u, b, d, i, z, c⟩ := f
  revert n v u b d i z c on
  decide +kernel
theorem put_z (f : Fl) (on : Bool) : putN f.val 2 on = { f with z := on }.val := by
  obtain ⟨n, v, u, b, d, i, z, c⟩ := f
  revert n v u b d i z c on
  decide +kernel
theorem put_i (f : Fl) (on : Bool) : putN f.val 4 on = { f with i := on }.val := by
  obtain ⟨n, v, u, b, d, i, z, c⟩ := f
  revert n v u b d i z c on
  decide +kernel
theorem put_d (f : Fl) (on : Bool) : putN f.val 8 on = { f with d := on }.val := by
  obtain ⟨n, v, u, b, d, i, z, c⟩ := f
  revert n v u b d i z c on
  decide +kernel
theorem put_b (f : Fl) (on : Bool) : putN f.val 16 on = { f with b := on }.val := by
  obtain ⟨n, v, u, b, d, i, z, c⟩ := f
  revert n v u b d i z c on
  decide +kernel
theorem put_u (f : Fl) (on : Bool) : putN f.val 32 on = { f with u := on }.val := by
  obtain ⟨n, v, u, b, d, i, z, c⟩ := f
  revert n v u b d i z c on
  decide +kernel
theorem put_v (f : Fl) (on : Bool) : putN f.val 64 on = { f with v := on }.val := by
  obtain ⟨n, v, u, b, d, i, z, c⟩ := f
  revert n v u b d i z c on
  decide +kernel
theorem put_n (f : Fl) (on : Bool) : putN f.val 128 on = { f with n := on }.val := by
  obtain ⟨n, v, u, b, d, i, z, c⟩ := f
  revert n v u b d i z c on
  decide +kernel
theorem and_c (f : Fl) : f.val &&& 1 = f.c.toNat := by
  obtain ⟨n, v, u, b, d, i, z, c⟩ := f
  revert n v u b d i z c
  decide +kernel
theorem and_z (f : Fl) : f.val &&& 2 = 2 * f.z.toNat := by
  obtain ⟨n, v, u, b, d, i, z, c⟩ := f
  revert n v u b d i z c
  decide +kernel
theorem and_d (f : Fl) : f.val &&& 8 = 8 * f.d.toNat := by
  obtain ⟨n, v, u, b, d, i, z, c⟩ := f
  revert n v u b d i z c
  decide +kernel
theorem and_v (f : Fl) : f.val &&& 64 = 64 * f.v.toNat := by
  obtain ⟨n, v, u, b, d, i, z, c⟩ := f
  revert n v u b d i z c
  decide +kernel
theorem and_n (f : Fl) : f.val &&& 128 = 128 * f.n.toNat := by
  obtain ⟨n, v, u, b, d, i, z, c⟩ := f
  revert n v u b d i z c
  decide +kernel
theorem bits_and (a b : Nat) (ha : a < 256) (hb : b < 256) : bits .and .u8 (a : Int) (b : Int) = ((a &&& b : Nat) : Int) := u8_and_nat a b ha hb
theorem bits_or (a b : Nat) (ha : a < 256) (hb : b < 256) : bits .or .u8 (a : Int) (b : Int) = ((a ||| b : Nat) : Int) := u8_or_nat a b ha hb
theorem bits_xor (a b : Nat) (ha : a < 256) (hb : b < 256) : bits .xor .u8 (a : Int) (b : Int) = ((a ^^^ b : Nat) : Int) := u8_xor_nat a b ha hb
theorem bits_andNot (a b : Nat) (ha : a < 256) (hb : b < 256) : bits .andNot .u8 (a : Int) (b : Int) = ((a &&& (255 - b) : Nat) : Int) := u8_andNot_nat a b ha hb
/-- A flag, named by its bit, put by a truth value. -/
def Fl.put (F : Fl) (f : Int) (on : Bool) : Fl :=
  if f = 1 then { F with c := on } else if f = 2 then { F with z := on } else if f = 4 then { F with i := on } else if f = 8 then { F with d := on }
  else if f = 16 then { F with b := on } else if f = 32 then { F with u := on } else if f = 64 then { F with v := on } else { F with n := on }
theorem Fl.put_val (F : Fl) (f : Int) (on : Bool) (h : f ∈ [(1 : Int), 2, 4, 8, 16, 32, 64, 128]) : putN F.val f.toNat on = (F.put f on).val := by
  simp only [List.mem_cons, List.not_mem_nil, or_false] at h
  rcases h with rfl | rfl | rfl | rfl | rfl | rfl | rfl | rfl
  · exact put_c F on
  · exact put_z F on
  · exact put_i F on
  · exact put_d F on
  · exact put_b F on
  · exact put_u F on
  · exact put_v F on
  · exact put_n F on
/-- N and Z by a result. -/
def nzF (r : Int) (F : Fl) : Fl := { F with n := decide (128 ≤ r), z := r == 0 }
/-- A truth value as a number. -/
def ci (b : Bool) : Int := if b then 1 else 0
theorem ci_toNat (b : Bool) : ((b.toNat : Nat) : Int) = ci b := by cases b <;> rfl
theorem ci_bd (b : Bool) : 0 ≤ ci b ∧ ci b ≤ 1 := by cases b <;> decide
theorem bit_c (F : Fl) : bits .and .u8 (F.val : Nat) 1 = ci F.c := by
  rw [← ci_toNat, ← and_c F]; exact bits_and F.val 1 F.lt (by decide)
theorem bit_z (F : Fl) : bits .and .u8 (F.val : Nat) 2 = 2 * ci F.z := by
  have h := bits_and F.val 2 F.lt (by decide)
  rw [and_z] at h
  rw [← ci_toNat]; exact h.trans (by simp)
theorem bit_d (F : Fl) : bits .and .u8 (F.val : Nat) 8 = 8 * ci F.d := by
  have h := bits_and F.val 8 F.lt (by decide)
  rw [and_d] at h
  rw [← ci_toNat]; exact h.trans (by simp)
theorem bit_v (F : Fl) : bits .and .u8 (F.val : Nat) 64 = 64 * ci F.v := by
  have h := bits_and F.val 64 F.lt (by decide)
  rw [and_v] at h
  rw [← ci_toNat]; exact h.trans (by simp)
theorem bit_n (F : Fl) : bits .and .u8 (F.val : Nat) 128 = 128 * ci F.n := by
  have h := bits_and F.val 128 F.lt (by decide)
  rw [and_n] at h
  rw [← ci_toNat]; exact h.trans (by simp)
theorem and_128 (x : Nat) : x &&& 128 = (x.testBit 7).toNat * 128 := by
  refine Nat.eq_of_testBit_eq fun i => ?_
  rw [Nat.testBit_and, show (128 : Nat) = 2 ^ 7 from rfl, Nat.testBit_two_pow]
  by_cases h : 7 = i
  · subst h
    cases x.testBit 7 <;> decide
  · have e : Nat.testBit (2 ^ 7) i = false := by rw [Nat.testBit_two_pow]; simpa using h
    cases x.testBit 7
    · simp [h]
    · simpa [h] using e
theorem i64_and15 (n : Int) : bits .and .i64 n 15 = n % 16 := by
  have h : (BitVec.ofInt 64 15).toNat = 2 ^ 4 - 1 := by decide
  have key : (BitVec.ofInt 64 n &&& BitVec.ofInt 64 15).toNat = (n % ((2 ^ 64 : Nat) : Int)).toNat % 2 ^ 4 := by
    rw [BitVec.toNat_and, BitVec.toNat_ofInt, h, Nat.and_two_pow_sub_one_eq_mod]
  show IntKind.i64.wrap ((BitVec.ofInt 64 n &&& BitVec.ofInt 64 15).toNat : Nat) = n % 16
  rw [key, IntKind.wrap_i64]
  omega
theorem i64_and128 (n : Int) : bits .and .i64 n 128 = n / 128 % 2 * 128 := by
  have h : (BitVec.ofInt 64 128).toNat = 128 := by decide
  have key : (BitVec.ofInt 64 n &&& BitVec.ofInt 64 128).toNat = (n % ((2 ^ 64 : Nat) : Int)).toNat / 128 % 2 * 128 := by
    rw [BitVec.toNat_and, BitVec.toNat_ofInt, h, and_128, Nat.toNat_testBit]
  show IntKind.i64.wrap ((BitVec.ofInt 64 n &&& BitVec.ofInt 64 128).toNat : Nat) = n / 128 % 2 * 128
  rw [key, IntKind.wrap_i64]
  omega
theorem nat_and240 (a : Nat) (h : a < 256) : a &&& 240 = a / 16 * 16 := by revert a; decide +kernel
theorem nat_and1 (a : Nat) (h : a < 256) : a &&& 1 = a % 2 := by revert a; decide +kernel
theorem u8_and240 (a : Int) (h0 : 0 ≤ a) (h1 : a ≤ 255) : bits .and .u8 a 240 = a / 16 * 16 := by
  obtain ⟨A, rfl⟩ := Int.eq_ofNat_of_zero_le h0
  have h := bits_and A 240 (by omega) (by decide)
  rw [nat_and240 A (by omega)] at h
  exact h.trans (by omega)
theorem u8_and1 (a : Int) (h0 : 0 ≤ a) (h1 : a ≤ 255) : bits .and .u8 a 1 = a % 2 := by
  obtain ⟨A, rfl⟩ := Int.eq_ofNat_of_zero_le h0
  have h := bits_and A 1 (by omega) (by decide)
  rw [nat_and1 A (by omega)] at h
  exact h.trans (by omega)
theorem nat_xor255 (a : Nat) (h : a < 256) : 255 ^^^ a = 255 - a := by revert a; decide +kernel
theorem u8_not (a : Int) (h0 : 0 ≤ a) (h1 : a ≤ 255) : bits .xor .u8 255 a = 255 - a := by
  obtain ⟨A, rfl⟩ := Int.eq_ofNat_of_zero_le h0
  have h := bits_xor 255 A (by decide) (by omega)
  rw [nat_xor255 A (by omega)] at h
  exact h.trans (by omega)
theorem u8_not' (a : Int) (h0 : 0 ≤ a) (h1 : a ≤ 255) : bits .xor .u8 IntKind.u8.max a = 255 - a := u8_not a h0 h1
theorem nat_or1 (a : Nat) (h : a < 256) : a % 2 = 0 → a ||| 1 = a + 1 := by revert a; decide +kernel
theorem nat_or128 (a : Nat) (h : a < 128) : a ||| 128 = a + 128 := by revert a; decide +kernel
theorem nat_or0 (a : Nat) : a ||| 0 = a := by simp
theorem u8_or1 (a : Int) (h0 : 0 ≤ a) (h1 : a ≤ 255) (h2 : a % 2 = 0) : bits .or .u8 a 1 = a + 1 := by
  obtain ⟨A, rfl⟩ := Int.eq_ofNat_of_zero_le h0
  have h := bits_or A 1 (by omega) (by decide)
  rw [nat_or1 A (by omega) (by omega)] at h
  exact h.trans (by omega)
theorem u8_or0 (a : Int) (h0 : 0 ≤ a) (h1 : a ≤ 255) : bits .or .u8 a 0 = a := by
  obtain ⟨A, rfl⟩ := Int.eq_ofNat_of_zero_le h0
  have h := bits_or A 0 (by omega) (by decide)
  rw [nat_or0] at h
  exact h
theorem u8_or128' (a : Int) (h0 : 0 ≤ a) (h1 : a < 128) : bits .or .u8 a 128 = a + 128 := by
  obtain ⟨A, rfl⟩ := Int.eq_ofNat_of_zero_le h0
  have h := bits_or A 128 (by omega) (by decide)
  rw [nat_or128 A (by omega)] at h
  exact h.trans (by omega)
theorem tb7 (a : Nat) (h : a < 256) : a.testBit 7 = decide (128 ≤ (a : Int)) := by
  have : ∀ a : Nat, a < 256 → a.testBit 7 = decide (128 ≤ a) := by decide +kernel
  rw [this a h]
  exact decide_eq_decide.2 (by omega)
/-- A sum of two bytes has neither of their signs. -/
def lv (a m s : Int) : Bool := (decide (128 ≤ a) != decide (128 ≤ s)) && (decide (128 ≤ m) != decide (128 ≤ s))
theorem leaves_bits (a m s : Int) (a0 : 0 ≤ a) (a1 : a ≤ 255) (m0 : 0 ≤ m) (m1 : m ≤ 255) (s0 : 0 ≤ s) (s1 : s ≤ 255) :
    bits .and .u8 (bits .and .u8 (bits .xor .u8 a s) (bits .xor .u8 m s)) 128 = 128 * ci (lv a m s) := by
  obtain ⟨A, rfl⟩ := Int.eq_ofNat_of_zero_le a0
  obtain ⟨M, rfl⟩ := Int.eq_ofNat_of_zero_le m0
  obtain ⟨S, rfl⟩ := Int.eq_ofNat_of_zero_le s0
  have hA : A < 2 ^ 8 := by omega
  have hM : M < 2 ^ 8 := by omega
  have hS : S < 2 ^ 8 := by omega
  have x1 : A ^^^ S < 2 ^ 8 := Nat.xor_lt_two_pow hA hS
  have x2 : M ^^^ S < 2 ^ 8 := Nat.xor_lt_two_pow hM hS
  have x3 : (A ^^^ S) &&& (M ^^^ S) < 2 ^ 8 := Nat.and_lt_two_pow _ x2
  rw [bits_xor A S hA hS, bits_xor M S hM hS, bits_and _ _ x1 x2]
  refine (bits_and _ 128 x3 (by decide)).trans ?_
  rw [and_128, Nat.testBit_and, Nat.testBit_xor, Nat.testBit_xor, tb7 A hA, tb7 M hM, tb7 S hS]
  show ((Bool.toNat (lv (A : Int) M S) * 128 : Nat) : Int) = _
  rw [← ci_toNat]
  omega
/-- What a shift makes of a byte and C; what falls out of it; the flags behind it. -/
def shV (op m : Int) (c : Bool) : Int :=
  if op = 2 then m * 2 % 256 else if op = 32 then m / 2 else if op = 39 then m * 2 % 256 + ci c else if op = 40 then m / 2 + 128 * ci c else m
def shO (op m : Int) : Bool := if op = 2 ∨ op = 39 then decide (128 ≤ m) else m % 2 == 1
def shF (op m : Int) (F : Fl) : Fl := if op = 2 ∨ op = 32 ∨ op = 39 ∨ op = 40 then nzF (shV op m F.c) (F.put 1 (shO op m)) else F
/-- The binary sum; the decimal one. -/
def adcB (a m : Int) (F : Fl) : Fl := nzF ((a + m + ci F.c) % 256) ((F.put 1 (decide (255 < a + m + ci F.c))).put 64 (lv a m ((a + m + ci F.c) % 256)))
def lowA (a m c : Int) : Int := if 10 ≤ a % 16 + m % 16 + c then (a % 16 + m % 16 + c + 6) % 16 + 16 else a % 16 + m % 16 + c
def sumA (a m c : Int) : Int := a / 16 * 16 + m / 16 * 16 + lowA a m c
def upA (s : Int) : Int := if 160 ≤ s then s + 96 else s
def adcD (a m : Int) (F : Fl) : Fl :=
  (((F.put 128 (sumA a m (ci F.c) / 128 % 2 == 1)).put 64 (lv a m (sumA a m (ci F.c) % 256))).put 2 ((a + m + ci F.c) % 256 == 0)).put 1 (decide (255 < upA (sumA a m (ci F.c))))
def adcV (a m : Int) (F : Fl) : Int := if F.d then upA (sumA a m (ci F.c)) % 256 else (a + m + ci F.c) % 256
def adcF (a m : Int) (F : Fl) : Fl := if F.d then adcD a m F else adcB a m F
/-- The difference. -/
def lowS (a m c : Int) : Int := if a % 16 - m % 16 - c < 0 then (a % 16 - m % 16 - c - 6) % 16 - 16 else a % 16 - m % 16 - c
def sumS (a m c : Int) : Int := a / 16 * 16 - m / 16 * 16 + lowS a m c
def dnS (s : Int) : Int := if s < 0 then s - 96 else s
def sbcV (a m : Int) (F : Fl) : Int := if F.d then dnS (sumS a m (1 - ci F.c)) % 256 else (a - m - (1 - ci F.c)) % 256
def sbcF (a m : Int) (F : Fl) : Fl := nzF ((a - m - (1 - ci F.c)) % 256) ((F.put 1 (decide (0 ≤ a - m - (1 - ci F.c)))).put 64 (lv a (255 - m) ((a - m - (1 - ci F.c)) % 256)))
end Go.Proofs.YtgnhaicogdnebaaDoor
