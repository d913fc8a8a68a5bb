/-
  The law AluLongSums returns true: eight bytes, then eight pairs of digits, C handed on.
-/
import Derived.Test.YtnckbgeajdloiaaADec
namespace Go.Proofs.Ytnckbgeajdloiaa
open Go.RowKit
theorem wf64 {n : Int} (h : (Lit.int .u64 n).wf = true) : 0 ≤ n ∧ n ≤ 18446744073709551615 := by
  simp [Lit.wf, IntKind.min, IntKind.max, IntKind.signed, IntKind.bits] at h
  omega
/-- What stands behind the bytes below P: their sum, C, and V and N of the last one. -/
def Inv (P : Int) (G : Fl) (x y s : Int) : Prop :=
  s = (x % P + y % P) % P ∧ G.c = decide (P ≤ x % P + y % P) ∧ G.d = false ∧ (P = 1 ∨ ∃ Q, P = 256 * Q ∧ G.v = lv (x / Q % 256) (y / Q % 256) (s / Q) ∧ G.n = decide (128 ≤ s / Q))
theorem mod_of {x P q r : Int} (h : x = P * q + r) (r0 : 0 ≤ r) (r1 : r < P) : x % P = r := by
  rw [h, Int.mul_add_emod_self_left, Int.emod_eq_of_lt r0 r1]
theorem mod_step (x P : Int) (hP : 0 < P) : x % (256 * P) = x % P + P * (x / P % 256) := by
  have e1 : P * (x / P) + x % P = x := Int.mul_ediv_add_emod x P
  have u0 : 0 ≤ x % P := Int.emod_nonneg _ (by omega)
  have u1 : x % P < P := Int.emod_lt_of_pos _ hP
  have e2 : x / P = 256 * (x / P / 256) + x / P % 256 := by omega
  have b0 : 0 ≤ x / P % 256 ∧ x / P % 256 ≤ 255 := by omega
  generalize x / P % 256 = a at *
  generalize x / P / 256 = d at *
  generalize x / P = q at *
  generalize x % P = r at *
  have h1 := Int.mul_nonneg (Int.le_of_lt hP) b0.1
  have h2 : P * a ≤ P * 255 := Int.mul_le_mul_of_nonneg_left b0.2 (Int.le_of_lt hP)
  refine mod_of (q := d) ?_ (by omega) (by omega)
  rw [← e1, e2, Int.mul_add, ← Int.mul_assoc, Int.mul_comm P 256]
  omega
theorem sum_mod (u v P : Int) (u0 : 0 ≤ u) (u1 : u < P) (v0 : 0 ≤ v) (v1 : v < P) : u + v = P * ci (decide (P ≤ u + v)) + (u + v) % P := by
  by_cases h : P ≤ u + v
  · rw [decide_eq_true h, show ci true = 1 from rfl, mod_of (x := u + v) (q := 1) (r := u + v - P) (by omega) (by omega) (by omega)]
    omega
  · rw [decide_eq_false h, show ci false = 0 from rfl, Int.emod_eq_of_lt (by omega) (by omega)]
    omega
theorem adc_bin (a m : Int) (F : Fl) (hd : F.d = false) : adcV a m F = (a + m + ci F.c) % 256 ∧ (adcF a m F).c = decide (255 < a + m + ci F.c) ∧ (adcF a m F).d = false ∧
    (adcF a m F).v = lv a m ((a + m + ci F.c) % 256) ∧ (adcF a m F).n = decide (128 ≤ (a + m + ci F.c) % 256) := by
  have e1 : adcV a m F = (a + m + ci F.c) % 256 := by simp [adcV, hd]
  have e2 : adcF a m F = adcB a m F := by simp [adcF, hd]
  rw [e1, e2]
  exact ⟨rfl, rfl, hd, rfl, rfl⟩
theorem Inv.step {P : Int} {G : Fl} {x y s : Int} (hP : 0 < P) (h : Inv P G x y s) :
    Inv (256 * P) (adcF (x / P % 256) (y / P % 256) G) x y (s + adcV (x / P % 256) (y / P % 256) G * P) ∧ 0 ≤ s ∧ s < P := by
  obtain ⟨hs, hc, hd, -⟩ := h
  obtain ⟨v1, v2, v3, v4, v5⟩ := adc_bin (x / P % 256) (y / P % 256) G hd
  have s0 : 0 ≤ s := by rw [hs]; exact Int.emod_nonneg _ (by omega)
  have s1 : s < P := by rw [hs]; exact Int.emod_lt_of_pos _ hP
  have a0 : 0 ≤ x / P % 256 ∧ x / P % 256 ≤ 255 := by omega
  have b0 : 0 ≤ y / P % 256 ∧ y / P % 256 ≤ 255 := by omega
  have u0 : 0 ≤ x % P := Int.emod_nonneg _ (by omega)
  have u1 : x % P < P := Int.emod_lt_of_pos _ hP
  have w0 : 0 ≤ y % P := Int.emod_nonneg _ (by omega)
  have w1 : y % P < P := Int.emod_lt_of_pos _ hP
  have cc : x % P + y % P = P * ci G.c + s := by
    rw [hs, hc]; exact sum_mod _ _ P u0 u1 w0 w1
  have hb := ci_bd G.c
  unfold Inv
  rw [v1, v2, v3, v4, v5, mod_step x P hP, mod_step y P hP]
  generalize hxa : x / P % 256 = a at *
  generalize hyb : y / P % 256 = b at *
  have tot : x % P + P * a + (y % P + P * b) = P * (a + b + ci G.c) + s := by
    rw [Int.mul_add, Int.mul_add]; omega
  have rr : a + b + ci G.c = 256 * ((a + b + ci G.c) / 256) + (a + b + ci G.c) % 256 := by omega
  have r0 : 0 ≤ (a + b + ci G.c) % 256 ∧ (a + b + ci G.c) % 256 ≤ 255 := by omega
  have q0 : 0 ≤ (a + b + ci G.c) / 256 ∧ (a + b + ci G.c) / 256 ≤ 1 := by omega
  have low : 0 ≤ s + (a + b + ci G.c) % 256 * P ∧ s + (a + b + ci G.c) % 256 * P < 256 * P := by
    have := Int.mul_nonneg r0.1 (Int.le_of_lt hP)
    have h2 : (a + b + ci G.c) % 256 * P ≤ 255 * P := Int.mul_le_mul_of_nonneg_right r0.2 (Int.le_of_lt hP)
    omega
  have tot2 : P * (a + b + ci G.c) + s = 256 * P * ((a + b + ci G.c) / 256) + (s + (a + b + ci G.c) % 256 * P) := by
    have : P * (a + b + ci G.c) = P * (256 * ((a + b + ci G.c) / 256)) + P * ((a + b + ci G.c) % 256) := by
      rw [← Int.mul_add, ← rr]
    rw [this, Int.mul_comm P ((a + b + ci G.c) % 256), ← Int.mul_assoc, Int.mul_comm P 256]
    omega
  refine ⟨⟨?_, ?_, rfl, .inr ⟨P, rfl, ?_, ?_⟩⟩, s0, s1⟩
  · rw [tot, tot2, Int.mul_add_emod_self_left, Int.emod_eq_of_lt low.1 low.2]
  · refine decide_eq_decide.2 ?_
    rw [tot, tot2]
    have hq : (a + b + ci G.c) / 256 = 0 ∨ (a + b + ci G.c) / 256 = 1 := by omega
    rcases hq with hq | hq
    · rw [hq]; omega
    · rw [hq]; omega
  · rw [Int.add_mul_ediv_right _ _ (by omega), Int.ediv_eq_zero_of_lt s0 s1, Int.zero_add, hxa, hyb]
  · rw [Int.add_mul_ediv_right _ _ (by omega), Int.ediv_eq_zero_of_lt s0 s1, Int.zero_add]
theorem or_high (s r P : Int) (k : Nat) (hP : P = ((2 ^ k : Nat) : Int)) (s0 : 0 ≤ s) (s1 : s < P) (r0 : 0 ≤ r) (h : r * P + P ≤ 18446744073709551616) : bits .or .u64 s (r * P) = s + r * P := by
  obtain ⟨S, rfl⟩ := Int.eq_ofNat_of_zero_le s0
  obtain ⟨R, rfl⟩ := Int.eq_ofNat_of_zero_le r0
  subst hP
  have e : ((R : Nat) : Int) * ((2 ^ k : Nat) : Int) = ((R * 2 ^ k : Nat) : Int) := by omega
  have hp : 0 < 2 ^ k := Nat.two_pow_pos k
  rw [e] at h ⊢
  rw [u64_or_nat S (R * 2 ^ k) (by omega) (by omega)]
  have := Nat.two_pow_add_eq_or_of_lt (i := k) (b := S) (by omega) R
  rw [Nat.or_comm, Nat.mul_comm R, ← this, Int.natCast_add, Int.add_comm]
theorem Inv.start (G : Fl) (x y : Int) (hc : G.c = false) (hd : G.d = false) : Inv 1 G x y 0 := by
  refine ⟨by omega, ?_, hd, .inl rfl⟩
  rw [hc]; exact (decide_eq_false (by omega)).symm
theorem ov_add (x y z : Int) (x0 : 0 ≤ x) (x1 : x ≤ 18446744073709551615) (y0 : 0 ≤ y) (y1 : y ≤ 18446744073709551615) (z0 : 0 ≤ z) (z1 : z ≤ 18446744073709551615) :
    lv (x / 72057594037927936 % 256) (y / 72057594037927936 % 256) (z / 72057594037927936) = ((x / 9223372036854775808 == y / 9223372036854775808) && (z / 9223372036854775808 != x / 9223372036854775808)) := by
  have hx : decide (128 ≤ x / 72057594037927936 % 256) = decide (x / 9223372036854775808 = 1) := decide_eq_decide.2 (by omega)
  have hy : decide (128 ≤ y / 72057594037927936 % 256) = decide (y / 9223372036854775808 = 1) := decide_eq_decide.2 (by omega)
  have hz : decide (128 ≤ z / 72057594037927936) = decide (z / 9223372036854775808 = 1) := decide_eq_decide.2 (by omega)
  unfold lv
  rw [hx, hy, hz]
  have bx : x / 9223372036854775808 = 0 ∨ x / 9223372036854775808 = 1 := by omega
  have bY : y / 9223372036854775808 = 0 ∨ y / 9223372036854775808 = 1 := by omega
  have bz : z / 9223372036854775808 = 0 ∨ z / 9223372036854775808 = 1 := by omega
  rcases bx with e1 | e1 <;> rcases bY with e2 | e2 <;> rcases bz with e3 | e3 <;> rw [e1, e2, e3] <;> rfl
theorem Inv.last {G : Fl} {x y s : Int} (x0 : 0 ≤ x) (x1 : x ≤ 18446744073709551615) (y0 : 0 ≤ y) (y1 : y ≤ 18446744073709551615) (h : Inv 18446744073709551616 G x y s) :
    s = (x + y) % 18446744073709551616 ∧ G.c = decide ((x + y) % 18446744073709551616 < x) ∧
    G.v = ((x / 9223372036854775808 == y / 9223372036854775808) && ((x + y) % 18446744073709551616 / 9223372036854775808 != x / 9223372036854775808)) ∧
    G.n = ((x + y) % 18446744073709551616 / 9223372036854775808 == 1) := by
  obtain ⟨h1, h2, -, h4⟩ := h
  have e : s = (x + y) % 18446744073709551616 := by omega
  refine ⟨e, ?_, ?_⟩
  · rw [h2]; exact decide_eq_decide.2 (by omega)
  · rcases h4 with h4 | ⟨Q, hQ, hv, hn⟩
    · exact absurd h4 (by decide)
    · obtain rfl : Q = 72057594037927936 := by omega
      subst e
      rw [hv, hn]
      refine ⟨ov_add x y _ x0 x1 y0 y1 (by omega) (by omega), ?_⟩
      rw [Bool.eq_iff_iff, decide_eq_true_iff, beq_iff_eq]
      omega
/-- A hundred to the pairs of digits that are left. -/
def pw (k : Nat) : Int := 100 ^ (8 - k)
theorem pw_step (k : Nat) (h : k < 8) : pw k = 100 * pw (k + 1) := by
  unfold pw
  rw [show 8 - k = (8 - (k + 1)) + 1 by omega, Int.pow_succ, Int.mul_comm]
theorem pw_lt {k : Nat} {x : Int} (h : k < 8) (hx : x < pw k) : x / 100 < pw (k + 1) := by
  rw [pw_step k h] at hx; omega
theorem pw_le (k : Nat) (h : k ≤ 8) : pw k ≤ 10000000000000000 := by
  have : ∀ k : Nat, k ≤ 8 → pw k ≤ 10000000000000000 := by decide +kernel
  exact this k h
theorem carry100 (x y c : Int) (c0 : 0 ≤ c) (c1 : c ≤ 1) : (x + y + c) / 100 = x / 100 + y / 100 + ci (decide (100 ≤ x % 100 + y % 100 + c)) := by
  by_cases h : 100 ≤ x % 100 + y % 100 + c
  · rw [decide_eq_true h, show ci true = 1 from rfl]; omega
  · rw [decide_eq_false h, show ci false = 0 from rfl]; omega
def PW (k P : Int) : Prop := (k = 0 ∧ P = 1) ∨ (k = 8 ∧ P = 256) ∨ (k = 16 ∧ P = 65536) ∨ (k = 24 ∧ P = 16777216) ∨ (k = 32 ∧ P = 4294967296) ∨ (k = 40 ∧ P = 1099511627776) ∨ (k = 48 ∧ P = 281474976710656) ∨ (k = 56 ∧ P = 72057594037927936) ∨ (k = 64 ∧ P = 18446744073709551616)
end Go.Proofs.Ytnckbgeajdloiaa
