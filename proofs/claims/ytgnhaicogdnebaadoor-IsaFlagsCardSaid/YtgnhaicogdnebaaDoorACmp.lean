/-
  The contract of Cmp.
-/
import Derived.Test.YtgnhaicogdnebaaDoorASum
namespace Go.Proofs.YtgnhaicogdnebaaDoor
open Go.RowKit
theorem cmp_any (r m : Int) (F : Fl) (w : World) :
    Calls Tryd.prog 76 #[.int .u8 r, .int .u8 m, .int .u8 (F.val : Nat)] w fun e w' => e = .returned (.int .u8 ((nzF ((r - m) % 256) (F.put 1 (decide (m ≤ r)))).val : Nat)) ∧ w' = w := by
  go_enter Tryd.func76, Tryd.ntmps76
  go_wp2_with (first | (go_at_call 39; refine (putF_any _ _ _ _ (by decide)).mono ?_; rintro e w' ⟨rfl, rfl⟩) | (go_at_call 38; refine (nz_any _ _ _).mono ?_; rintro e w' ⟨rfl, rfl⟩))
  go_ret
  exact ⟨rfl, rfl⟩
end Go.Proofs.YtgnhaicogdnebaaDoor
