/-
  The law AluFlags returns true: Taken, Needs and Sets answer what the document's do; condition: the two tables lie in their variables.
-/
import Derived.Test.YtnckbgeajdloiabDoorAFlg
namespace Go.Proofs.YtnckbgeajdloiabDoor
open Go.RowKit
theorem law_aluFlags (op p : Int) (w : World) (T : Tabs w) :
    Calls Tryd.prog 3 #[.int .i64 op, .int .u8 p] w fun e w' => e = .returned (.bool true) ∧ Below w.heap.size w w' := by
  go_enter Tryd.func3, Tryd.ntmps3
  go_wp2_with (first
    | (go_at_call 4; refine (taken_any _ _ _ T).mono ?_; rintro e w' ⟨rfl, rfl⟩)
    | (go_at_call 5; refine (rtaken_any _ _ _).mono ?_; rintro e w' ⟨rfl, rfl⟩)
    | (go_at_call 6; refine (needs_any _ _ T).mono ?_; rintro e w' ⟨rfl, rfl⟩)
    | (go_at_call 7; refine (rneeds_any _ _).mono ?_; rintro e w' ⟨rfl, rfl⟩)
    | (go_at_call 8; refine (sets_any _ _ T).mono ?_; rintro e w' ⟨rfl, rfl⟩)
    | (go_at_call 9; refine (rsets_any _ _).mono ?_; rintro e w' ⟨rfl, rfl⟩))
  go_ret
  exact ⟨rfl, Below.refl _ _⟩
end Go.Proofs.YtnckbgeajdloiabDoor
