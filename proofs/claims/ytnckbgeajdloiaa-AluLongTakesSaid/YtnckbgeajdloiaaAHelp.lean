/-
  The contracts of the laws' own small functions (has, with, one, digits), and the digits of decimal sums: plain numbers.
-/
import Derived.Test.YtnckbgeajdloiaaASum
namespace Go.Proofs.Ytnckbgeajdloiaa
open Go.RowKit
/-- Is a bit of a byte set? -/
def gt (p f : Int) : Bool := bits .and .u8 p f != 0
theorem has_any (p f : Int) (w : World) :
    Calls Try.prog 10 #[.int .u8 p, .int .u8 f] w fun e w' => e = .returned (.bool (gt p f)) ∧ w' = w := by
  go_enter Try.func10, Try.ntmps10
  go_wp2
  go_ret
  exact ⟨rfl, rfl⟩
theorem gt_c (F : Fl) : gt (F.val : Nat) 1 = F.c := by unfold gt; rw [bit_c]; cases F.c <;> rfl
theorem gt_z (F : Fl) : gt (F.val : Nat) 2 = F.z := by unfold gt; rw [bit_z]; cases F.z <;> rfl
theorem gt_d (F : Fl) : gt (F.val : Nat) 8 = F.d := by unfold gt; rw [bit_d]; cases F.d <;> rfl
theorem gt_v (F : Fl) : gt (F.val : Nat) 64 = F.v := by unfold gt; rw [bit_v]; cases F.v <;> rfl
theorem gt_n (F : Fl) : gt (F.val : Nat) 128 = F.n := by unfold gt; rw [bit_n]; cases F.n <;> rfl
theorem gt_1 (s : Int) (h0 : 0 ≤ s) (h1 : s ≤ 255) : gt s 1 = decide (s % 2 = 1) := by
  unfold gt; rw [u8_and1 s h0 h1, Bool.eq_iff_iff]; simp; omega
/-- P with C and D as they are told. -/
def withF (F : Fl) (c d : Bool) : Fl := { F with c := c, d := d }
theorem and_with (F : Fl) : F.val &&& (255 - 9) = (withF F false false).val := by
  obtain ⟨n, v, u, b, d, i, z, c⟩ := F
  revert n v u b d i z c
  decide +kernel
theorem or_with (F : Fl) : F.val ||| 1 = { F with c := true }.val := by
  obtain ⟨n, v, u, b, d, i, z, c⟩ := F
  revert n v u b d i z c
  decide +kernel
theorem or_with8 (F : Fl) : F.val ||| 8 = { F with d := true }.val := by
  obtain ⟨n, v, u, b, d, i, z, c⟩ := F
  revert n v u b d i z c
  decide +kernel
theorem with_any (F : Fl) (c d : Bool) (w : World) :
    Calls Try.prog 11 #[.int .u8 (F.val : Nat), .bool c, .bool d] w fun e w' => e = .returned (.int .u8 ((withF F c d).val : Nat)) ∧ w' = w := by
  have h1 : bits .andNot .u8 (F.val : Nat) 9 = ((withF F false false).val : Nat) := by
    rw [← and_with]; exact bits_andNot F.val 9 F.lt (by decide)
  have h2 : ∀ G : Fl, bits .or .u8 (G.val : Nat) 1 = (({ G with c := true } : Fl).val : Nat) := fun G => by
    rw [← or_with]; exact bits_or G.val 1 G.lt (by decide)
  have h3 : ∀ G : Fl, bits .or .u8 (G.val : Nat) 8 = (({ G with d := true } : Fl).val : Nat) := fun G => by
    rw [← or_with8]; exact bits_or G.val 8 G.lt (by decide)
  cases c <;> cases d
  all_goals
    go_enter Try.func11, Try.ntmps11
    go_wp2
    go_ret
    exact ⟨rfl, rfl⟩
theorem one_any (c : Bool) (w : World) :
    Calls Try.prog 15 #[.bool c] w fun e w' => e = .returned (.int .i64 (ci c)) ∧ w' = w := by
  cases c
  all_goals
    go_enter Try.func15, Try.ntmps15
    go_wp2
    go_ret
    exact ⟨rfl, rfl⟩
/-- Two decimal digits as a byte. -/
def dg (n : Int) : Int := 16 * (n / 10) + n % 10
theorem dg_bd (n : Int) (h0 : 0 ≤ n) (h1 : n ≤ 99) : 0 ≤ dg n ∧ dg n ≤ 153 := by unfold dg; omega
theorem digits_any (n : Int) (w : World) (h0 : 0 ≤ n) (h1 : n ≤ 99) :
    Calls Try.prog 13 #[.int .i64 n] w fun e w' => e = .returned (.int .u8 (dg n)) ∧ w' = w := by
  go_enter Try.func13, Try.ntmps13
  go_wp2
  go_ret
  exact ⟨congrArg (fun x => Ending.returned (.int .u8 x)) (by unfold dg; omega), rfl⟩
theorem dg_mod (n : Int) : dg n % 16 = n % 10 := by unfold dg; omega
theorem dg_div (n : Int) : dg n / 16 = n / 10 := by unfold dg; omega
theorem dg_of (s t u : Int) (hu : 0 ≤ u) (hu' : u ≤ 9) (h : s = 10 * t + u) : dg s = 16 * t + u := by
  have h1 : s / 10 = t := by omega
  have h2 : s % 10 = u := by omega
  unfold dg; rw [h1, h2]
theorem up_add (x y c : Int) (x0 : 0 ≤ x) (x1 : x ≤ 99) (y0 : 0 ≤ y) (y1 : y ≤ 99) (c0 : 0 ≤ c) (c1 : c ≤ 1) :
    upA (sumA (dg x) (dg y) c) = if 100 ≤ x + y + c then 256 + dg (x + y + c - 100) else dg (x + y + c) := by
  unfold sumA lowA
  rw [dg_mod x, dg_mod y, dg_div x, dg_div y]
  have ex : x = 10 * (x / 10) + x % 10 := by omega
  have ey : y = 10 * (y / 10) + y % 10 := by omega
  have b1 : 0 ≤ x % 10 ∧ x % 10 ≤ 9 := by omega
  have b2 : 0 ≤ y % 10 ∧ y % 10 ≤ 9 := by omega
  have b3 : 0 ≤ x / 10 ∧ x / 10 ≤ 9 := by omega
  have b4 : 0 ≤ y / 10 ∧ y / 10 ≤ 9 := by omega
  generalize x / 10 = a at *
  generalize x % 10 = b at *
  generalize y / 10 = d at *
  generalize y % 10 = e at *
  subst ex; subst ey
  by_cases h1 : 10 ≤ b + e + c
  · rw [if_pos h1, show (b + e + c + 6) % 16 + 16 = b + e + c + 6 by omega]
    unfold upA
    by_cases h2 : 100 ≤ 10 * a + b + (10 * d + e) + c
    · rw [if_pos h2, if_pos (by omega), dg_of (10 * a + b + (10 * d + e) + c - 100) (a + d - 9) (b + e + c - 10) (by omega) (by omega) (by omega)]
      omega
    · rw [if_neg h2, if_neg (by omega), dg_of (10 * a + b + (10 * d + e) + c) (a + d + 1) (b + e + c - 10) (by omega) (by omega) (by omega)]
      omega
  · rw [if_neg h1]
    unfold upA
    by_cases h2 : 100 ≤ 10 * a + b + (10 * d + e) + c
    · rw [if_pos h2, if_pos (by omega), dg_of (10 * a + b + (10 * d + e) + c - 100) (a + d - 10) (b + e + c) (by omega) (by omega) (by omega)]
      omega
    · rw [if_neg h2, if_neg (by omega), dg_of (10 * a + b + (10 * d + e) + c) (a + d) (b + e + c) (by omega) (by omega) (by omega)]
      omega
theorem dn_sub (x y c : Int) (x0 : 0 ≤ x) (x1 : x ≤ 99) (y0 : 0 ≤ y) (y1 : y ≤ 99) (c0 : 0 ≤ c) (c1 : c ≤ 1) :
    dnS (sumS (dg x) (dg y) c) = if x - y - c < 0 then dg (x - y - c + 100) - 256 else dg (x - y - c) := by
  unfold sumS lowS
  rw [dg_mod x, dg_mod y, dg_div x, dg_div y]
  have ex : x = 10 * (x / 10) + x % 10 := by omega
  have ey : y = 10 * (y / 10) + y % 10 := by omega
  have b1 : 0 ≤ x % 10 ∧ x % 10 ≤ 9 := by omega
  have b2 : 0 ≤ y % 10 ∧ y % 10 ≤ 9 := by omega
  have b3 : 0 ≤ x / 10 ∧ x / 10 ≤ 9 := by omega
  have b4 : 0 ≤ y / 10 ∧ y / 10 ≤ 9 := by omega
  generalize x / 10 = a at *
  generalize x % 10 = b at *
  generalize y / 10 = d at *
  generalize y % 10 = e at *
  subst ex; subst ey
  by_cases h1 : b - e - c < 0
  · rw [if_pos h1, show (b - e - c - 6) % 16 - 16 = b - e - c - 6 by omega]
    unfold dnS
    by_cases h2 : 10 * a + b - (10 * d + e) - c < 0
    · rw [if_pos h2, if_pos (by omega), dg_of (10 * a + b - (10 * d + e) - c + 100) (a - d + 9) (b - e - c + 10) (by omega) (by omega) (by omega)]
      omega
    · rw [if_neg h2, if_neg (by omega), dg_of (10 * a + b - (10 * d + e) - c) (a - d - 1) (b - e - c + 10) (by omega) (by omega) (by omega)]
      omega
  · rw [if_neg h1]
    unfold dnS
    by_cases h2 : 10 * a + b - (10 * d + e) - c < 0
    · rw [if_pos h2, if_pos (by omega), dg_of (10 * a + b - (10 * d + e) - c + 100) (a - d + 10) (b - e - c) (by omega) (by omega) (by omega)]
      omega
    · rw [if_neg h2, if_neg (by omega), dg_of (10 * a + b - (10 * d + e) - c) (a - d) (b - e - c) (by omega) (by omega) (by omega)]
      omega
theorem dec_add (x y : Int) (F : Fl) (x0 : 0 ≤ x) (x1 : x ≤ 99) (y0 : 0 ≤ y) (y1 : y ≤ 99) (hd : F.d = true) :
    adcV (dg x) (dg y) F = dg ((x + y + ci F.c) % 100) ∧ (adcF (dg x) (dg y) F).c = decide (100 ≤ x + y + ci F.c) ∧ (adcF (dg x) (dg y) F).d = true := by
  have hc := ci_bd F.c
  have hV : adcV (dg x) (dg y) F = upA (sumA (dg x) (dg y) (ci F.c)) % 256 := by simp [adcV, hd]
  have hF : adcF (dg x) (dg y) F = adcD (dg x) (dg y) F := by simp [adcF, hd]
  rw [hV, hF]
  refine ⟨?_, ?_, ?_⟩
  · rw [up_add x y _ x0 x1 y0 y1 hc.1 hc.2]
    by_cases h : 100 ≤ x + y + ci F.c
    · have b := dg_bd (x + y + ci F.c - 100) (by omega) (by omega)
      rw [if_pos h, show (x + y + ci F.c) % 100 = x + y + ci F.c - 100 by omega]
      omega
    · have b := dg_bd (x + y + ci F.c) (by omega) (by omega)
      rw [if_neg h, show (x + y + ci F.c) % 100 = x + y + ci F.c by omega]
      omega
  · show decide (255 < upA (sumA (dg x) (dg y) (ci F.c))) = _
    refine decide_eq_decide.2 ?_
    rw [up_add x y _ x0 x1 y0 y1 hc.1 hc.2]
    by_cases h : 100 ≤ x + y + ci F.c
    · have b := dg_bd (x + y + ci F.c - 100) (by omega) (by omega)
      rw [if_pos h]
      omega
    · have b := dg_bd (x + y + ci F.c) (by omega) (by omega)
      rw [if_neg h]
      omega
  · exact hd
theorem dec_sub (x y : Int) (F : Fl) (x0 : 0 ≤ x) (x1 : x ≤ 99) (y0 : 0 ≤ y) (y1 : y ≤ 99) (hd : F.d = true) :
    sbcV (dg x) (dg y) F = dg ((x - y - 1 + ci F.c) % 100) ∧ (sbcF (dg x) (dg y) F).c = decide (0 ≤ x - y - 1 + ci F.c) ∧ (sbcF (dg x) (dg y) F).d = true := by
  have hc := ci_bd F.c
  have hV : sbcV (dg x) (dg y) F = dnS (sumS (dg x) (dg y) (1 - ci F.c)) % 256 := by simp [sbcV, hd]
  rw [hV]
  refine ⟨?_, ?_, ?_⟩
  · rw [dn_sub x y (1 - ci F.c) x0 x1 y0 y1 (by omega) (by omega)]
    by_cases h : x - y - (1 - ci F.c) < 0
    · have b := dg_bd (x - y - (1 - ci F.c) + 100) (by omega) (by omega)
      rw [if_pos h, show (x - y - 1 + ci F.c) % 100 = x - y - (1 - ci F.c) + 100 by omega]
      omega
    · have b := dg_bd (x - y - (1 - ci F.c)) (by omega) (by omega)
      rw [if_neg h, show (x - y - 1 + ci F.c) % 100 = x - y - (1 - ci F.c) by omega]
      omega
  · show decide (0 ≤ dg x - dg y - (1 - ci F.c)) = _
    refine decide_eq_decide.2 ?_
    unfold dg
    omega
  · exact hd
end Go.Proofs.Ytnckbgeajdloiaa
