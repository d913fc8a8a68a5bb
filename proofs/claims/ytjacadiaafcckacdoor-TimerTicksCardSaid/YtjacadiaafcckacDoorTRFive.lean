/-
  The document's five; conditions: the numbers fit their kinds.
-/
import Derived.Test.YtjacadiaafcckacDoorTRFive0
set_option linter.unusedSimpArgs false
set_option linter.unusedVariables false
namespace Go.Proofs.YtjacadiaafcckacDoor
open Go.RowKit Classical
/-- The document's five, as a plain function. -/
def Ck.fiveF (c : Ck) : Ck := { c with beats := (c.beats + bt true c.at_) % 64, at_ := if 37282 ≤ c.at_ then 0 else c.at_ }
theorem five_any (c : Ck) (w : World) (b0 : 0 ≤ c.beats) (b1 : c.beats ≤ 63) (a0 : 0 ≤ c.at_) (a1 : c.at_ ≤ 65535) :
    Calls Tryd.prog 24 #[.agg c.cells] w fun e w' => e = .returned (.agg c.fiveF.cells) ∧ Below w.heap.size w w' := by
  by_cases h0 : c.at_ = 7457
  · have e : c.fiveF = { c with beats := (c.beats + 1) % 64 } := by
      unfold Ck.fiveF
      rw [show bt true c.at_ = 1 by rw [h0]; rfl, if_neg (by omega)]
    rw [e]; exact five_7457 c w b0 b1 a0 a1 h0
  by_cases h1 : c.at_ = 14913
  · have e : c.fiveF = { c with beats := (c.beats + 1) % 64 } := by
      unfold Ck.fiveF
      rw [show bt true c.at_ = 1 by rw [h1]; rfl, if_neg (by omega)]
    rw [e]; exact five_14913 c w b0 b1 a0 a1 h1
  by_cases h2 : c.at_ = 22371
  · have e : c.fiveF = { c with beats := (c.beats + 1) % 64 } := by
      unfold Ck.fiveF
      rw [show bt true c.at_ = 1 by rw [h2]; rfl, if_neg (by omega)]
    rw [e]; exact five_22371 c w b0 b1 a0 a1 h2
  by_cases h3 : c.at_ = 37281
  · have e : c.fiveF = { c with beats := (c.beats + 1) % 64 } := by
      unfold Ck.fiveF
      rw [show bt true c.at_ = 1 by rw [h3]; rfl, if_neg (by omega)]
    rw [e]; exact five_37281 c w b0 b1 a0 a1 h3
  have hb : bt true c.at_ = 0 := by unfold bt; rw [if_neg (by simp only [lastM, if_true]; omega)]
  have n0 : (c.at_ == 7457) = false := by simpa using h0
  have n1 : (c.at_ == 14913) = false := by simpa using h1
  have n2 : (c.at_ == 22371) = false := by simpa using h2
  have n3 : (c.at_ == 37281) = false := by simpa using h3
  by_cases hl : c.at_ < 37282
  · have e : c.fiveF = c := by
      unfold Ck.fiveF
      rw [hb, if_neg (by omega), Int.add_zero, Int.emod_eq_of_lt b0 (by omega)]
    rw [e]; exact five_lt c w b0 b1 a0 a1 n0 n1 n2 n3 hl
  · have e : c.fiveF = { c with at_ := 0 } := by
      unfold Ck.fiveF
      rw [hb, if_pos (by omega), Int.add_zero, Int.emod_eq_of_lt b0 (by omega)]
    rw [e]; exact five_gt c w b0 b1 a0 a1 n0 n1 n2 n3 hl
end Go.Proofs.YtjacadiaafcckacDoor
