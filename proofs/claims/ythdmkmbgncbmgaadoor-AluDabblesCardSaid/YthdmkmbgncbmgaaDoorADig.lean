/-
  The contract of digits, and the digits of decimal sums: plain numbers.
-/
import Derived.Test.YthdmkmbgncbmgaaDoorASum
namespace Go.Proofs.YthdmkmbgncbmgaaDoor
open Go.RowKit
/-- Two decimal digits as a byte. -/
def dg (n : Int) : Int := 16 * (n / 10) + n % 10
theorem dg_bd (n : Int) (h0 : 0 ≤ n) (h1 : n ≤ 99) : 0 ≤ dg n ∧ dg n ≤ 153 := by unfold dg; omega
theorem digits_any (n : Int) (w : World) (h0 : 0 ≤ n) (h1 : n ≤ 99) :
    Calls Tryd.prog 10 #[.int .i64 n] w fun e w' => e = .returned (.int .u8 (dg n)) ∧ w' = w := by
  go_enter Tryd.func10, Tryd.ntmps10
  go_wp2
  go_ret
  exact ⟨congrArg (fun x => Ending.returned (.int .u8 x)) (by unfold dg; omega), rfl⟩
theorem dg_mod (n : Int) : dg n % 16 = n % 10 := by unfold dg; omega
theorem dg_div (n : Int) : dg n / 16 = n / 10 := by unfold dg; omega
theorem dg_of (s t u : Int) (hu : 0 ≤ u) (hu' : u ≤ 9) (h : s = 10 * t + u) : dg s = 16 * t + u := by
  have h1 : s / 10 = t := by omega
  have h2 : s % 10 = u := by omega
  unfold dg; rw [h1, h2]
theorem up_add (x y c : Int) (x0 : 0 ≤ x) (x1 : x ≤ 99) (y0 : 0 ≤ y) (y1 : y ≤ 99) (c0 : 0 ≤ c) (c1 : c ≤ 1) :
    upA (sumA (dg x) (dg y) c) = if 100 ≤ x + y + c then 256 + dg (x + y + c - 100) else dg (x + y + c) := by
  unfold sumA lowA
  rw [dg_mod x, dg_mod y, dg_div x, dg_div y]
  have ex : x = 10 * (x / 10) + x % 10 := by omega
  have ey : y = 10 * (y / 10) + y % 10 := by omega
  have b1 : 0 ≤ x % 10 ∧ x % 10 ≤ 9 := by omega
  have b2 : 0 ≤ y % 10 ∧ y % 10 ≤ 9 := by omega
  have b3 : 0 ≤ x / 10 ∧ x / 10 ≤ 9 := by omega
  have b4 : 0 ≤ y / 10 ∧ y / 10 ≤ 9 := by omega
  generalize x / 10 = a at *
  generalize x % 10 = b at *
  generalize y / 10 = d at *
  generalize y % 10 = e at *
  subst ex; subst ey
  by_cases h1 : 10 ≤ b + e + c
  · rw [if_pos h1, show (b + e + c + 6) % 16 + 16 = b + e + c + 6 by omega]
    unfold upA
    by_cases h2 : 100 ≤ 10 * a + b + (10 * d + e) + c
    · rw [if_pos h2, if_pos (by omega), dg_of (10 * a + b + (10 * d + e) + c - 100) (a + d - 9) (b + e + c - 10) (by omega) (by omega) (by omega)]
      omega
    · rw [if_neg h2, if_neg (by omega), dg_of (10 * a + b + (10 * d + e) + c) (a + d + 1) (b + e + c - 10) (by omega) (by omega) (by omega)]
      omega
  · rw [if_neg h1]
    unfold upA
    by_cases h2 : 100 ≤ 10 * a + b + (10 * d + e) + c
    · rw [if_pos h2, if_pos (by omega), dg_of (10 * a + b + (10 * d + e) + c - 100) (a + d - 10) (b + e + c) (by omega) (by omega) (by omega)]
      omega
    · rw [if_neg h2, if_neg (by omega), dg_of (10 * a + b + (10 * d + e) + c) (a + d) (b + e + c) (by omega) (by omega) (by omega)]
      omega
theorem dn_sub (x y c : Int) (x0 : 0 ≤ x) (x1 : x ≤ 99) (y0 : 0 ≤ y) (y1 : y ≤ 99) (c0 : 0 ≤ c) (c1 : c ≤ 1) :
    dnS (sumS (dg x) (dg y) c) = if x - y - c < 0 then dg (x - y - c + 100) - 256 else dg (x - y - c) := by
  unfold sumS lowS
  rw [dg_mod x, dg_mod y, dg_div x, dg_div y]
  have ex : x = 10 * (x / 10) + x % 10 := by omega
  have ey : y = 10 * (y / 10) + y % 10 := by omega
  have b1 : 0 ≤ x % 10 ∧ x % 10 ≤ 9 := by omega
  have b2 : 0 ≤ y % 10 ∧ y % 10 ≤ 9 := by omega
  have b3 : 0 ≤ x / 10 ∧ x / 10 ≤ 9 := by omega
  have b4 : 0 ≤ y / 10 ∧ y / 10 ≤ 9 := by omega
  generalize x / 10 = a at *
  generalize x % 10 = b at *
  generalize y / 10 = d at *
  generalize y % 10 = e at *
  subst ex; subst ey
  by_cases h1 : b - e - c < 0
  · rw [if_pos h1, show (b - e - c - 6) % 16 - 16 = b - e - c - 6 by omega]
    unfold dnS
    by_cases h2 : 10 * a + b - (10 * d + e) - c < 0
    · rw [if_pos h2, if_pos (by omega), dg_of (10 * a + b - (10 * d + e) - c + 100) (a - d + 9) (b - e - c + 10) (by omega) (by omega) (by omega)]
      omega
    · rw [if_neg h2, if_neg (by omega), dg_of (10 * a + b - (10 * d + e) - c) (a - d - 1) (b - e - c + 10) (by omega) (by omega) (by omega)]
      omega
  · rw [if_neg h1]
    unfold dnS
    by_cases h2 : 10 * a + b - (10 * d + e) - c < 0
    · rw [if_pos h2, if_pos (by omega), dg_of (10 * a + b - (10 * d + e) - c + 100) (a - d + 10) (b - e - c) (by omega) (by omega) (by omega)]
      omega
    · rw [if_neg h2, if_neg (by omega), dg_of (10 * a + b - (10 * d + e) - c) (a - d) (b - e - c) (by omega) (by omega) (by omega)]
      omega
theorem dec_add (x y : Int) (F : Fl) (x0 : 0 ≤ x) (x1 : x ≤ 99) (y0 : 0 ≤ y) (y1 : y ≤ 99) (hd : F.d = true) :
    adcV (dg x) (dg y) F = dg ((x + y + ci F.c) % 100) ∧ (adcF (dg x) (dg y) F).c = decide (100 ≤ x + y + ci F.c) ∧ (adcF (dg x) (dg y) F).d = true := by
  have hc := ci_bd F.c
  have hV : adcV (dg x) (dg y) F = upA (sumA (dg x) (dg y) (ci F.c)) % 256 := by simp [adcV, hd]
  have hF : adcF (dg x) (dg y) F = adcD (dg x) (dg y) F := by simp [adcF, hd]
  rw [hV, hF]
  refine ⟨?_, ?_, ?_⟩
  · rw [up_add x y _ x0 x1 y0 y1 hc.1 hc.2]
    by_cases h : 100 ≤ x + y + ci F.c
    · have b := dg_bd (x + y + ci F.c - 100) (by omega) (by omega)
      rw [if_pos h, show (x + y + ci F.c) % 100 = x + y + ci F.c - 100 by omega]
      omega
    · have b := dg_bd (x + y + ci F.c) (by omega) (by omega)
      rw [if_neg h, show (x + y + ci F.c) % 100 = x + y + ci F.c by omega]
      omega
  · show decide (255 < upA (sumA (dg x) (dg y) (ci F.c))) = _
    refine decide_eq_decide.2 ?_
    rw [up_add x y _ x0 x1 y0 y1 hc.1 hc.2]
    by_cases h : 100 ≤ x + y + ci F.c
    · have b := dg_bd (x + y + ci F.c - 100) (by omega) (by omega)
      rw [if_pos h]
      omega
    · have b := dg_bd (x + y + ci F.c) (by omega) (by omega)
      rw [if_neg h]
      omega
  · exact hd
theorem dec_sub (x y : Int) (F : Fl) (x0 : 0 ≤ x) (x1 : x ≤ 99) (y0 : 0 ≤ y) (y1 : y ≤ 99) (hd : F.d = true) :
    sbcV (dg x) (dg y) F = dg ((x - y - 1 + ci F.c) % 100) ∧ (sbcF (dg x) (dg y) F).c = decide (0 ≤ x - y - 1 + ci F.c) ∧ (sbcF (dg x) (dg y) F).d = true := by
  have hc := ci_bd F.c
  have hV : sbcV (dg x) (dg y) F = dnS (sumS (dg x) (dg y) (1 - ci F.c)) % 256 := by simp [sbcV, hd]
  rw [hV]
  refine ⟨?_, ?_, ?_⟩
  · rw [dn_sub x y (1 - ci F.c) x0 x1 y0 y1 (by omega) (by omega)]
    by_cases h : x - y - (1 - ci F.c) < 0
    · have b := dg_bd (x - y - (1 - ci F.c) + 100) (by omega) (by omega)
      rw [if_pos h, show (x - y - 1 + ci F.c) % 100 = x - y - (1 - ci F.c) + 100 by omega]
      omega
    · have b := dg_bd (x - y - (1 - ci F.c)) (by omega) (by omega)
      rw [if_neg h, show (x - y - 1 + ci F.c) % 100 = x - y - (1 - ci F.c) by omega]
      omega
  · show decide (0 ≤ dg x - dg y - (1 - ci F.c)) = _
    refine decide_eq_decide.2 ?_
    unfold dg
    omega
  · exact hd
end Go.Proofs.YthdmkmbgncbmgaaDoor
