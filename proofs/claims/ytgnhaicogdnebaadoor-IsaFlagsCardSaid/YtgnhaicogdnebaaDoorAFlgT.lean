/-
  The contract of Taken.
-/
import Derived.Test.YtgnhaicogdnebaaDoorATab
namespace Go.Proofs.YtgnhaicogdnebaaDoor
open Go.RowKit
theorem retB {a b : Bool} (h : a = b) : Ending.returned (.bool a) = .returned (.bool b) := by rw [h]
/-- Is a branch taken? -/
def tk (op p : Int) : Bool :=
  if op = 3 then bits .and .u8 p 1 == 0 else if op = 4 then bits .and .u8 p 1 != 0 else if op = 8 then bits .and .u8 p 2 == 0 else if op = 5 then bits .and .u8 p 2 != 0
  else if op = 9 then bits .and .u8 p 128 == 0 else if op = 7 then bits .and .u8 p 128 != 0 else if op = 11 then bits .and .u8 p 64 == 0 else if op = 12 then bits .and .u8 p 64 != 0 else false
theorem tk_no (op p : Int) (h : op ≠ 3 ∧ op ≠ 4 ∧ op ≠ 5 ∧ op ≠ 7 ∧ op ≠ 8 ∧ op ≠ 9 ∧ op ≠ 11 ∧ op ≠ 12) : tk op p = false := by
  obtain ⟨h1, h2, h3, h4, h5, h6, h7, h8⟩ := h
  unfold tk
  simp only [h1, h2, h3, h4, h5, h6, h7, h8, if_false]
theorem taken_any (op p : Int) (w : World) (T : Tabs w) :
    Calls Tryd.prog 7 #[.int .i64 op, .int .u8 p] w fun e w' => e = .returned (.bool (tk op p)) ∧ w' = w := by
  go_enter Tryd.func7, Tryd.ntmps7
  go_wp2_with (go_at_call 13; refine (needs_any _ _ T).mono ?_; rintro e w' ⟨rfl, rfl⟩)
  all_goals
    go_ret
    first
      | exact ⟨retB (tk_no op p (by simp only [beq_eq_false_iff_ne] at *; omega)).symm, rfl⟩
      | (have hh := eq_of_beq ‹(op == _) = true›; subst hh; first | exact ⟨rfl, rfl⟩ | exact ⟨retB (Bool.not_not _), rfl⟩)
end Go.Proofs.YtgnhaicogdnebaaDoor
