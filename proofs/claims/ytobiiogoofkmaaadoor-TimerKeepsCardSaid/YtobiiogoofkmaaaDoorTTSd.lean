/-
  What tickSequencer comes to.
-/
import Derived.Test.YtobiiogoofkmaaaDoorTWait
set_option linter.unusedSimpArgs false
set_option linter.unusedVariables false
namespace Go.Proofs.YtobiiogoofkmaaaDoor
open Go.RowKit Classical
def btk (l a : Int) (k : Nat) : Int := (if 1 ≤ k ∧ a = 7457 then 1 else 0) + (if 2 ≤ k ∧ a = 14913 then 1 else 0) + (if 3 ≤ k ∧ a = 22371 then 1 else 0) + (if 4 ≤ k ∧ a = l then 1 else 0)
theorem btk_bd (l a : Int) (k : Nat) : 0 ≤ btk l a k ∧ btk l a k ≤ 4 := by unfold btk; split <;> split <;> split <;> split <;> omega
theorem btk_0 (l a : Int) : btk l a 0 = 0 := by unfold btk; simp
theorem btk_1 (l a : Int) : btk l a 1 = btk l a 0 + if a = 7457 then 1 else 0 := by unfold btk; simp
theorem btk_2 (l a : Int) : btk l a 2 = btk l a 1 + if a = 14913 then 1 else 0 := by unfold btk; simp
theorem btk_3 (l a : Int) : btk l a 3 = btk l a 2 + if a = 22371 then 1 else 0 := by unfold btk; simp
theorem btk_4 (l a : Int) : btk l a 4 = btk l a 3 + if a = l then 1 else 0 := by unfold btk; simp
theorem btk_bt (five : Bool) (a : Int) : btk (lastM five) a 4 = bt five a := by rw [bt_sum]; unfold btk; simp
def frk (k : Nat) (a : Int) : Bool := decide ((1 ≤ k ∧ a = 29828) ∨ (2 ≤ k ∧ a = 29829) ∨ (3 ≤ k ∧ a = 29830))
theorem frk_0 (a : Int) : frk 0 a = false := by unfold frk; simp
theorem frk_1 (a : Int) : frk 1 a = (frk 0 a || decide (a = 29828)) := by unfold frk; simp
theorem frk_2 (a : Int) : frk 2 a = (frk 1 a || decide (a = 29829)) := by unfold frk; simp
theorem frk_3 (a : Int) : frk 3 a = (frk 2 a || decide (a = 29830)) := by unfold frk; simp [Bool.or_assoc]
theorem frk_all (a : Int) : frk 3 a = decide (29828 ≤ a ∧ a ≤ 29830) := by unfold frk; rw [decide_eq_decide]; omega
/-- The clock when both loops are done. -/
def Ck.midS (c : Ck) : Ck := { c with at_ := c.at_ + 1, beats := (c.beats + bt c.five (c.at_ + 1)) % 64, frame := c.frame || (c.asks && decide (29828 ≤ c.at_ + 1 ∧ c.at_ + 1 ≤ 29830)) }
theorem tickS_mid (c : Ck) : c.tickS = { c.midS with at_ := if c.wait = 1 then 0 else if rdL c.five ≤ c.at_ + 1 then 0 else c.at_ + 1, wait := if 0 < c.wait then c.wait - 1 else c.wait, beats := if c.wait = 1 then wb c.five c.midS.beats else c.midS.beats } := rfl
end Go.Proofs.YtobiiogoofkmaaaDoor
