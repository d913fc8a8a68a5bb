/-
  The contracts of the laws' own small functions has.
-/
import Derived.Test.YthdmkmbgncbmgaaDoorASum
namespace Go.Proofs.YthdmkmbgncbmgaaDoor
open Go.RowKit
/-- Is a bit of a byte set? -/
def gt (p f : Int) : Bool := bits .and .u8 p f != 0
theorem has_any (p f : Int) (w : World) :
    Calls Tryd.prog 17 #[.int .u8 p, .int .u8 f] w fun e w' => e = .returned (.bool (gt p f)) ∧ w' = w := by
  go_enter Tryd.func17, Tryd.ntmps17
  go_wp2
  go_ret
  exact ⟨rfl, rfl⟩
theorem gt_c (F : Fl) : gt (F.val : Nat) 1 = F.c := by unfold gt; rw [bit_c]; cases F.c <;> rfl
theorem gt_z (F : Fl) : gt (F.val : Nat) 2 = F.z := by unfold gt; rw [bit_z]; cases F.z <;> rfl
theorem gt_d (F : Fl) : gt (F.val : Nat) 8 = F.d := by unfold gt; rw [bit_d]; cases F.d <;> rfl
theorem gt_v (F : Fl) : gt (F.val : Nat) 64 = F.v := by unfold gt; rw [bit_v]; cases F.v <;> rfl
theorem gt_n (F : Fl) : gt (F.val : Nat) 128 = F.n := by unfold gt; rw [bit_n]; cases F.n <;> rfl
theorem gt_1 (s : Int) (h0 : 0 ≤ s) (h1 : s ≤ 255) : gt s 1 = decide (s % 2 = 1) := by
  unfold gt; rw [u8_and1 s h0 h1, Bool.eq_iff_iff]; simp; omega
end Go.Proofs.YthdmkmbgncbmgaaDoor
