/-
  What line, cell, named, has of the document's isa answer; conditions: a byte; a name of the list; texts that are not too long.
-/
import Derived.Test.YtebnapgnnflnhaaDoorRows
import Derived.Test.YtebnapgnnflnhaaDoorIRefP
set_option linter.unusedSimpArgs false
set_option linter.unusedVariables false
namespace Go.Proofs.YtebnapgnnflnhaaDoor
open Go.RowKit
theorem Hid.mk1 {p : Prop} (h : p) : Hid p := h
theorem retS {a b : ByteArray} (h : a = b) : Ending.returned (.string a) = .returned (.string b) := by rw [h]
theorem line_at {r : Nat} {c : Int} (h : ((r : Int) == c) = true) : lineB c.toNat = lineB r := by
  rw [show c.toNat = r by have := eq_of_beq h; omega]
set_option maxRecDepth 100000 in
set_option maxHeartbeats 4000000 in
theorem line_any (r : Nat) (hr : r < 16) (w : World) :
    Calls Tryd.prog 32 #[.int .u8 (r : Nat)] w fun e w' => e = .returned (.string (lineB r)) ∧ w' = w := by
  go_enter Tryd.func32, Tryd.ntmps32
  go_wp2
  all_goals
    go_ret
    refine ⟨retS ?_, rfl⟩
    go_light
    first
      | exact (show _ = lineB 15 by kernel_rfl).trans (congrArg lineB (show 15 = r by simp only [beq_eq_false_iff_ne] at *; omega))
      | exact Eq.trans (by kernel_rfl) (line_at ‹((r : Int) == _) = true›)
end Go.Proofs.YtebnapgnnflnhaaDoor
