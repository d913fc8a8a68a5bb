/-
  What eight bytes' differences and eight pairs of digits' differences come to: plain numbers.
-/
import Derived.Test.YtnckbgeajdloiaaALong
namespace Go.Proofs.Ytnckbgeajdloiaa
open Go.RowKit
/-- What stands behind the bytes below P: their difference, C, and V and N of the last one. -/
def InvS (P : Int) (G : Fl) (x y s : Int) : Prop :=
  s = (x % P - y % P) % P ∧ G.c = decide (y % P ≤ x % P) ∧ G.d = false ∧ (P = 1 ∨ ∃ Q, P = 256 * Q ∧ G.v = lv (x / Q % 256) (255 - y / Q % 256) (s / Q) ∧ G.n = decide (128 ≤ s / Q))
theorem dif_mod (u v P : Int) (u0 : 0 ≤ u) (u1 : u < P) (v0 : 0 ≤ v) (v1 : v < P) : u - v = (u - v) % P - P * (1 - ci (decide (v ≤ u))) := by
  by_cases h : v ≤ u
  · rw [decide_eq_true h, show ci true = 1 from rfl, Int.emod_eq_of_lt (by omega) (by omega)]
    omega
  · rw [decide_eq_false h, show ci false = 0 from rfl, mod_of (x := u - v) (q := -1) (r := u - v + P) (by omega) (by omega) (by omega)]
    omega
theorem sbc_bin (a m : Int) (F : Fl) (hd : F.d = false) : sbcV a m F = (a - m - (1 - ci F.c)) % 256 ∧ (sbcF a m F).c = decide (0 ≤ a - m - (1 - ci F.c)) ∧ (sbcF a m F).d = false ∧
    (sbcF a m F).v = lv a (255 - m) ((a - m - (1 - ci F.c)) % 256) ∧ (sbcF a m F).n = decide (128 ≤ (a - m - (1 - ci F.c)) % 256) := by
  have e1 : sbcV a m F = (a - m - (1 - ci F.c)) % 256 := by simp [sbcV, hd]
  rw [e1]
  exact ⟨rfl, rfl, hd, rfl, rfl⟩
theorem InvS.step {P : Int} {G : Fl} {x y s : Int} (hP : 0 < P) (h : InvS P G x y s) :
    InvS (256 * P) (sbcF (x / P % 256) (y / P % 256) G) x y (s + sbcV (x / P % 256) (y / P % 256) G * P) ∧ 0 ≤ s ∧ s < P := by
  obtain ⟨hs, hc, hd, -⟩ := h
  obtain ⟨v1, v2, v3, v4, v5⟩ := sbc_bin (x / P % 256) (y / P % 256) G hd
  have s0 : 0 ≤ s := by rw [hs]; exact Int.emod_nonneg _ (by omega)
  have s1 : s < P := by rw [hs]; exact Int.emod_lt_of_pos _ hP
  have a0 : 0 ≤ x / P % 256 ∧ x / P % 256 ≤ 255 := by omega
  have b0 : 0 ≤ y / P % 256 ∧ y / P % 256 ≤ 255 := by omega
  have u0 : 0 ≤ x % P := Int.emod_nonneg _ (by omega)
  have u1 : x % P < P := Int.emod_lt_of_pos _ hP
  have w0 : 0 ≤ y % P := Int.emod_nonneg _ (by omega)
  have w1 : y % P < P := Int.emod_lt_of_pos _ hP
  have cc : x % P - y % P = s - P * (1 - ci G.c) := by
    rw [hs, hc]; exact dif_mod _ _ P u0 u1 w0 w1
  have hb := ci_bd G.c
  unfold InvS
  rw [v1, v2, v3, v4, v5, mod_step x P hP, mod_step y P hP]
  generalize hxa : x / P % 256 = a at *
  generalize hyb : y / P % 256 = b at *
  generalize hbw : 1 - ci G.c = bw at *
  have tot : x % P + P * a - (y % P + P * b) = P * (a - b - bw) + s := by
    rw [Int.mul_sub, Int.mul_sub]; omega
  have rr : a - b - bw = 256 * ((a - b - bw) / 256) + (a - b - bw) % 256 := by omega
  have r0 : 0 ≤ (a - b - bw) % 256 ∧ (a - b - bw) % 256 ≤ 255 := by omega
  have low : 0 ≤ s + (a - b - bw) % 256 * P ∧ s + (a - b - bw) % 256 * P < 256 * P := by
    have := Int.mul_nonneg r0.1 (Int.le_of_lt hP)
    have h2 : (a - b - bw) % 256 * P ≤ 255 * P := Int.mul_le_mul_of_nonneg_right r0.2 (Int.le_of_lt hP)
    omega
  have tot2 : P * (a - b - bw) + s = 256 * P * ((a - b - bw) / 256) + (s + (a - b - bw) % 256 * P) := by
    have : P * (a - b - bw) = P * (256 * ((a - b - bw) / 256)) + P * ((a - b - bw) % 256) := by
      rw [← Int.mul_add, ← rr]
    rw [this, Int.mul_comm P ((a - b - bw) % 256), ← Int.mul_assoc, Int.mul_comm P 256]
    omega
  refine ⟨⟨?_, ?_, rfl, .inr ⟨P, rfl, ?_, ?_⟩⟩, s0, s1⟩
  · rw [tot, tot2, Int.mul_add_emod_self_left, Int.emod_eq_of_lt low.1 low.2]
  · refine decide_eq_decide.2 ?_
    have hq : (a - b - bw) / 256 = 0 ∨ (a - b - bw) / 256 = -1 := by omega
    have t3 := tot.trans tot2
    rcases hq with hq | hq
    · rw [hq] at t3; omega
    · rw [hq] at t3; omega
  · rw [Int.add_mul_ediv_right _ _ (by omega), Int.ediv_eq_zero_of_lt s0 s1, Int.zero_add, hxa, hyb]
  · rw [Int.add_mul_ediv_right _ _ (by omega), Int.ediv_eq_zero_of_lt s0 s1, Int.zero_add]
theorem InvS.start (G : Fl) (x y : Int) (hc : G.c = true) (hd : G.d = false) : InvS 1 G x y 0 := by
  refine ⟨by omega, ?_, hd, .inl rfl⟩
  rw [hc]; exact (decide_eq_true (by omega)).symm
theorem ov_sub (x y z : Int) (x0 : 0 ≤ x) (x1 : x ≤ 18446744073709551615) (y0 : 0 ≤ y) (y1 : y ≤ 18446744073709551615) (z0 : 0 ≤ z) (z1 : z ≤ 18446744073709551615) :
    lv (x / 72057594037927936 % 256) (255 - y / 72057594037927936 % 256) (z / 72057594037927936) = (!(x / 9223372036854775808 == y / 9223372036854775808) && (z / 9223372036854775808 != x / 9223372036854775808)) := by
  have hx : decide (128 ≤ x / 72057594037927936 % 256) = decide (x / 9223372036854775808 = 1) := decide_eq_decide.2 (by omega)
  have hy : decide (128 ≤ 255 - y / 72057594037927936 % 256) = decide (y / 9223372036854775808 = 0) := decide_eq_decide.2 (by omega)
  have hz : decide (128 ≤ z / 72057594037927936) = decide (z / 9223372036854775808 = 1) := decide_eq_decide.2 (by omega)
  unfold lv
  rw [hx, hy, hz]
  have bx : x / 9223372036854775808 = 0 ∨ x / 9223372036854775808 = 1 := by omega
  have bY : y / 9223372036854775808 = 0 ∨ y / 9223372036854775808 = 1 := by omega
  have bz : z / 9223372036854775808 = 0 ∨ z / 9223372036854775808 = 1 := by omega
  rcases bx with e1 | e1 <;> rcases bY with e2 | e2 <;> rcases bz with e3 | e3 <;> rw [e1, e2, e3] <;> rfl
theorem InvS.last {G : Fl} {x y s : Int} (x0 : 0 ≤ x) (x1 : x ≤ 18446744073709551615) (y0 : 0 ≤ y) (y1 : y ≤ 18446744073709551615) (h : InvS 18446744073709551616 G x y s) :
    s = (x - y) % 18446744073709551616 ∧ G.c = decide (y ≤ x) ∧
    G.v = (!(x / 9223372036854775808 == y / 9223372036854775808) && ((x - y) % 18446744073709551616 / 9223372036854775808 != x / 9223372036854775808)) ∧
    G.n = ((x - y) % 18446744073709551616 / 9223372036854775808 == 1) := by
  obtain ⟨h1, h2, -, h4⟩ := h
  have e : s = (x - y) % 18446744073709551616 := by omega
  refine ⟨e, ?_, ?_⟩
  · rw [h2]; exact decide_eq_decide.2 (by omega)
  · rcases h4 with h4 | ⟨Q, hQ, hv, hn⟩
    · exact absurd h4 (by decide)
    · obtain rfl : Q = 72057594037927936 := by omega
      subst e
      rw [hv, hn]
      refine ⟨ov_sub x y _ x0 x1 y0 y1 (by omega) (by omega), ?_⟩
      rw [Bool.eq_iff_iff, decide_eq_true_iff, beq_iff_eq]
      omega
theorem ret_bool {a b : Bool} (h : a = b) : Ending.returned (.bool a) = .returned (.bool b) := by rw [h]
theorem borrow100 (x y c : Int) (c0 : 0 ≤ c) (c1 : c ≤ 1) : (x - y - (1 - c)) / 100 = x / 100 - y / 100 - (1 - ci (decide (0 ≤ x % 100 - y % 100 - 1 + c))) := by
  by_cases h : 0 ≤ x % 100 - y % 100 - 1 + c
  · rw [decide_eq_true h, show ci true = 1 from rfl]; omega
  · rw [decide_eq_false h, show ci false = 0 from rfl]; omega
theorem pw_pos (k : Nat) : 0 < pw k := Int.pow_pos (by decide)
theorem mod_100 (t p : Int) (hp : 0 < p) : t % (100 * p) = 100 * (t / 100 % p) + t % 100 := by
  have e1 : p * (t / 100 / p) + t / 100 % p = t / 100 := Int.mul_ediv_add_emod _ p
  have u0 : 0 ≤ t / 100 % p := Int.emod_nonneg _ (by omega)
  have u1 : t / 100 % p < p := Int.emod_lt_of_pos _ hp
  refine mod_of (q := t / 100 / p) ?_ (by omega) (by omega)
  rw [Int.mul_assoc]
  omega
end Go.Proofs.Ytnckbgeajdloiaa
