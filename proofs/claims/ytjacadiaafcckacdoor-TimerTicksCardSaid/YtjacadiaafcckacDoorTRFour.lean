/-
  The document's four; conditions: the numbers fit their kinds.
-/
import Derived.Test.YtjacadiaafcckacDoorTRFour0
set_option linter.unusedSimpArgs false
set_option linter.unusedVariables false
namespace Go.Proofs.YtjacadiaafcckacDoor
open Go.RowKit Classical
/-- The document's four, as a plain function. -/
def Ck.four (c : Ck) : Ck := { c with beats := (c.beats + bt false c.at_) % 64, frame := c.frame || (!c.inh && decide (29828 ≤ c.at_ ∧ c.at_ ≤ 29830)), at_ := if 29830 ≤ c.at_ then 0 else c.at_ }
theorem four_any (c : Ck) (w : World) (b0 : 0 ≤ c.beats) (b1 : c.beats ≤ 63) (a0 : 0 ≤ c.at_) (a1 : c.at_ ≤ 65535) :
    Calls Tryd.prog 25 #[.agg c.cells] w fun e w' => e = .returned (.agg c.four.cells) ∧ Below w.heap.size w w' := by
  by_cases h0 : c.at_ = 7457
  · have e : c.four = { c with beats := (c.beats + 1) % 64 } := by
      unfold Ck.four
      rw [show bt false c.at_ = 1 by rw [h0]; rfl, decide_eq_false (by omega), if_neg (by omega), Bool.and_false, Bool.or_false]
    rw [e]; exact four_7457 c w b0 b1 a0 a1 h0
  by_cases h1 : c.at_ = 14913
  · have e : c.four = { c with beats := (c.beats + 1) % 64 } := by
      unfold Ck.four
      rw [show bt false c.at_ = 1 by rw [h1]; rfl, decide_eq_false (by omega), if_neg (by omega), Bool.and_false, Bool.or_false]
    rw [e]; exact four_14913 c w b0 b1 a0 a1 h1
  by_cases h2 : c.at_ = 22371
  · have e : c.four = { c with beats := (c.beats + 1) % 64 } := by
      unfold Ck.four
      rw [show bt false c.at_ = 1 by rw [h2]; rfl, decide_eq_false (by omega), if_neg (by omega), Bool.and_false, Bool.or_false]
    rw [e]; exact four_22371 c w b0 b1 a0 a1 h2
  by_cases g28 : c.at_ = 29828
  · rcases (show c.inh = false ∨ c.inh = true by cases c.inh <;> simp) with hi | hi
    · have e : c.four = { c with frame := true } := by
        unfold Ck.four
        rw [show bt false c.at_ = 0 by rw [g28]; rfl, show (!c.inh && decide (29828 ≤ c.at_ ∧ c.at_ ≤ 29830)) = true by rw [hi, decide_eq_true (by omega)]; rfl, Bool.or_true, if_neg (by omega), Int.add_zero, Int.emod_eq_of_lt b0 (by omega)]
      rw [e]; exact four_28_false c w b0 b1 a0 a1 g28 hi
    · have e : c.four = c := by
        unfold Ck.four
        rw [show bt false c.at_ = 0 by rw [g28]; rfl, show (!c.inh && decide (29828 ≤ c.at_ ∧ c.at_ ≤ 29830)) = false by rw [hi]; rfl, Bool.or_false, if_neg (by omega), Int.add_zero, Int.emod_eq_of_lt b0 (by omega)]
      rw [e]; exact four_28_true c w b0 b1 a0 a1 g28 hi
  by_cases g29 : c.at_ = 29829
  · rcases (show c.inh = false ∨ c.inh = true by cases c.inh <;> simp) with hi | hi
    · have e : c.four = { c with beats := (c.beats + 1) % 64, frame := true } := by
        unfold Ck.four
        rw [show bt false c.at_ = 1 by rw [g29]; rfl, show (!c.inh && decide (29828 ≤ c.at_ ∧ c.at_ ≤ 29830)) = true by rw [hi, decide_eq_true (by omega)]; rfl, Bool.or_true, if_neg (by omega)]
      rw [e]; exact four_29_false c w b0 b1 a0 a1 g29 hi
    · have e : c.four = { c with beats := (c.beats + 1) % 64 } := by
        unfold Ck.four
        rw [show bt false c.at_ = 1 by rw [g29]; rfl, show (!c.inh && decide (29828 ≤ c.at_ ∧ c.at_ ≤ 29830)) = false by rw [hi]; rfl, Bool.or_false, if_neg (by omega)]
      rw [e]; exact four_29_true c w b0 b1 a0 a1 g29 hi
  by_cases g30 : c.at_ = 29830
  · rcases (show c.inh = false ∨ c.inh = true by cases c.inh <;> simp) with hi | hi
    · have e : c.four = { c with at_ := 0, frame := true } := by
        unfold Ck.four
        rw [show bt false c.at_ = 0 by rw [g30]; rfl, show (!c.inh && decide (29828 ≤ c.at_ ∧ c.at_ ≤ 29830)) = true by rw [hi, decide_eq_true (by omega)]; rfl, Bool.or_true, if_pos (by omega), Int.add_zero, Int.emod_eq_of_lt b0 (by omega)]
      rw [e]; exact four_30_false c w b0 b1 a0 a1 g30 hi
    · have e : c.four = { c with at_ := 0 } := by
        unfold Ck.four
        rw [show bt false c.at_ = 0 by rw [g30]; rfl, show (!c.inh && decide (29828 ≤ c.at_ ∧ c.at_ ≤ 29830)) = false by rw [hi]; rfl, Bool.or_false, if_pos (by omega), Int.add_zero, Int.emod_eq_of_lt b0 (by omega)]
      rw [e]; exact four_30_true c w b0 b1 a0 a1 g30 hi
  have hb : bt false c.at_ = 0 := by unfold bt; rw [if_neg (by simp only [lastM, Bool.false_eq_true, if_false]; omega)]
  have n0 : (c.at_ == 7457) = false := by simpa using h0
  have n1 : (c.at_ == 14913) = false := by simpa using h1
  have n2 : (c.at_ == 22371) = false := by simpa using h2
  have n3 : (c.at_ == 29829) = false := by simpa using g29
  by_cases hl : c.at_ < 29828
  · have e : c.four = c := by
      unfold Ck.four
      rw [hb, decide_eq_false (by omega), if_neg (by omega), Bool.and_false, Bool.or_false, Int.add_zero, Int.emod_eq_of_lt b0 (by omega)]
    rw [e]; exact four_lt c w b0 b1 a0 a1 n0 n1 n2 n3 hl
  · have e : c.four = { c with at_ := 0 } := by
      unfold Ck.four
      rw [hb, decide_eq_false (by omega), if_pos (by omega), Bool.and_false, Bool.or_false, Int.add_zero, Int.emod_eq_of_lt b0 (by omega)]
    rw [e]; exact four_gt c w b0 b1 a0 a1 n0 n1 n2 n3 (by omega)
end Go.Proofs.YtjacadiaafcckacDoor
