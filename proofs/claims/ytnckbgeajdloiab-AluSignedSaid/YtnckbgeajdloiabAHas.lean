/-
  The contracts of the laws' own small functions has, with, one.
-/
import Derived.Test.YtnckbgeajdloiabASum
namespace Go.Proofs.Ytnckbgeajdloiab
open Go.RowKit
/-- Is a bit of a byte set? -/
def gt (p f : Int) : Bool := bits .and .u8 p f != 0
theorem has_any (p f : Int) (w : World) :
    Calls Try.prog 9 #[.int .u8 p, .int .u8 f] w fun e w' => e = .returned (.bool (gt p f)) ∧ w' = w := by
  go_enter Try.func9, Try.ntmps9
  go_wp2
  go_ret
  exact ⟨rfl, rfl⟩
theorem gt_c (F : Fl) : gt (F.val : Nat) 1 = F.c := by unfold gt; rw [bit_c]; cases F.c <;> rfl
theorem gt_z (F : Fl) : gt (F.val : Nat) 2 = F.z := by unfold gt; rw [bit_z]; cases F.z <;> rfl
theorem gt_d (F : Fl) : gt (F.val : Nat) 8 = F.d := by unfold gt; rw [bit_d]; cases F.d <;> rfl
theorem gt_v (F : Fl) : gt (F.val : Nat) 64 = F.v := by unfold gt; rw [bit_v]; cases F.v <;> rfl
theorem gt_n (F : Fl) : gt (F.val : Nat) 128 = F.n := by unfold gt; rw [bit_n]; cases F.n <;> rfl
theorem gt_1 (s : Int) (h0 : 0 ≤ s) (h1 : s ≤ 255) : gt s 1 = decide (s % 2 = 1) := by
  unfold gt; rw [u8_and1 s h0 h1, Bool.eq_iff_iff]; simp; omega
/-- P with C and D as they are told. -/
def withF (F : Fl) (c d : Bool) : Fl := { F with c := c, d := d }
theorem and_with (F : Fl) : F.val &&& (255 - 9) = (withF F false false).val := by
  obtain ⟨n, v, u, b, d, i, z, c⟩ := F
  revert n v u b d i z c
  decide +kernel
theorem or_with (F : Fl) : F.val ||| 1 = { F with c := true }.val := by
  obtain ⟨n, v, u, b, d, i, z, c⟩ := F
  revert n v u b d i z c
  decide +kernel
theorem or_with8 (F : Fl) : F.val ||| 8 = { F with d := true }.val := by
  obtain ⟨n, v, u, b, d, i, z, c⟩ := F
  revert n v u b d i z c
  decide +kernel
theorem with_any (F : Fl) (c d : Bool) (w : World) :
    Calls Try.prog 6 #[.int .u8 (F.val : Nat), .bool c, .bool d] w fun e w' => e = .returned (.int .u8 ((withF F c d).val : Nat)) ∧ w' = w := by
  have h1 : bits .andNot .u8 (F.val : Nat) 9 = ((withF F false false).val : Nat) := by
    rw [← and_with]; exact bits_andNot F.val 9 F.lt (by decide)
  have h2 : ∀ G : Fl, bits .or .u8 (G.val : Nat) 1 = (({ G with c := true } : Fl).val : Nat) := fun G => by
    rw [← or_with]; exact bits_or G.val 1 G.lt (by decide)
  have h3 : ∀ G : Fl, bits .or .u8 (G.val : Nat) 8 = (({ G with d := true } : Fl).val : Nat) := fun G => by
    rw [← or_with8]; exact bits_or G.val 8 G.lt (by decide)
  cases c <;> cases d
  all_goals
    go_enter Try.func6, Try.ntmps6
    go_wp2
    go_ret
    exact ⟨rfl, rfl⟩
theorem one_any (c : Bool) (w : World) :
    Calls Try.prog 8 #[.bool c] w fun e w' => e = .returned (.int .i64 (ci c)) ∧ w' = w := by
  cases c
  all_goals
    go_enter Try.func8, Try.ntmps8
    go_wp2
    go_ret
    exact ⟨rfl, rfl⟩
end Go.Proofs.Ytnckbgeajdloiab
