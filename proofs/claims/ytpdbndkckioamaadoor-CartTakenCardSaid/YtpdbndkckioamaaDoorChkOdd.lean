/-
  What math/bits.TrailingZeros and the function oddPart answer; conditions: the number is above 0, the library's table of sixty-four bytes lies in its variable.
-/
import Derived.Test.YtpdbndkckioamaaDoorChkLeaf
import Derived.Shelf.Spec.TrailingZeros
import Derived.Laws.Bits64b
import Derived.Laws.BitsAllLaws
set_option linter.unusedSimpArgs false
set_option linter.unusedVariables false
namespace Go.Proofs.YtpdbndkckioamaaDoor
open Go.RowKit
/-- The library's table. -/
def Tz (w : World) : Prop := ∀ j, j < 64 → w.cell? ⟨3, j, none⟩ = some (.int .u8 (Lib.deBruijn64tab.getD j 0 : Nat))
set_option maxHeartbeats 1000000 in
theorem tz64_core (x k idx : Nat) (w : World) (hx0 : ((x : Int) == 0) = false)
    (key : IntKind.u64.wrap (bits BinOp.and IntKind.u64 (x : Int) (IntKind.u64.wrap (-(x : Int))) * 285870213051353865) / 288230376151711744 = (idx : Int))
    (hi : idx < 64) (hk : k < 64) (hcell : w.cell? ⟨3, idx, none⟩ = some (.int .u8 k)) :
    Calls Tryd.prog 86 #[.int .u64 x] w fun e w' => e = .returned (.int .i64 k) ∧ w' = w := by
  go_enter Tryd.func86, Tryd.ntmps86
  go_wp2_with (simp only [key])
  go_ret
  exact ⟨rfl, rfl⟩
theorem tz64_any (x : Nat) (hx0 : x ≠ 0) (hx : x < 18446744073709551616) (w : World) (T : Tz w) :
    Calls Tryd.prog 86 #[.int .u64 x] w fun e w' => e = .returned (.int .i64 (Lib.ctz 64 x : Nat)) ∧ w' = w := by
  obtain ⟨hlow, hk⟩ := Lib.lowest_bit 64 x hx0 hx
  obtain ⟨hi, htab⟩ := Lib.deBruijn64_at _ hk
  have hcell := T _ hi
  rw [htab] at hcell
  exact tz64_core x _ _ w (by simp; omega) (tz64_key x _ hx hx0 hlow) hi hk hcell
set_option maxHeartbeats 400000 in
theorem tz_any (x : Nat) (hx0 : x ≠ 0) (hx : x < 18446744073709551616) (w : World) (T : Tz w) :
    Calls Tryd.prog 74 #[.int .u64 x] w fun e w' => e = .returned (.int .i64 (Lib.ctz 64 x : Nat)) ∧ w' = w := by
  have hw : IntKind.u64.wrap (x : Int) = (x : Int) := by rw [IntKind.wrap_u64]; omega
  go_enter Tryd.func74, Tryd.ntmps74
  go_wp2_with (go_at_call 86; refine (tz64_any x hx0 hx w T).mono ?_; rintro e w' ⟨rfl, hw'⟩; rw [hw'])
  go_ret
  exact ⟨rfl, rfl⟩
theorem odd_shift (n : Nat) (h0 : n ≠ 0) (h : n < 2 ^ 64) : n / 2 ^ Lib.ctz 64 n = Chk.oddPart 64 n := by
  have g : ∀ f m : Nat, 0 < m → m < 2 ^ f → m / 2 ^ Lib.ctzFrom f m = Chk.oddPart f m := by
    intro f
    induction f with
    | zero => intro m h1 h2; simp at h2; omega
    | succ f ih =>
      intro m h1 h2
      unfold Lib.ctzFrom Chk.oddPart
      by_cases hm : m % 2 = 1
      · rw [if_pos hm, if_neg (by omega)]; simp
      · rw [if_neg hm, if_pos (by omega), ← ih (m / 2) (by omega) (by rw [Nat.pow_succ] at h2; omega), Nat.pow_add, Nat.pow_one, Nat.div_div_eq_div_mul]
  rw [← g 64 n (by omega) h, Lib.ctz, if_neg h0]
set_option maxHeartbeats 400000 in
theorem odd_core (n k : Nat) (hk : k < 64) (h : n ≤ 9223372036854775807) (w : World) (hc : Calls Tryd.prog 74 #[.int .u64 n] w fun e w' => e = .returned (.int .i64 (k : Nat)) ∧ w' = w) :
    Calls Tryd.prog 84 #[.int .i64 n] w fun e w' => e = .returned (.int .i64 (n / 2 ^ k : Nat)) ∧ w' = w := by
  have hw : IntKind.u64.wrap (n : Int) = (n : Int) := by rw [IntKind.wrap_u64]; omega
  have E : Hid ((n : Int) / 2 ^ k = ((n / 2 ^ k : Nat) : Int)) := by unfold Hid; rw [Int.natCast_ediv]; simp
  go_enter Tryd.func84, Tryd.ntmps84
  go_wp2_with fail
  refine hc.mono ?_
  rintro e w' ⟨rfl, hw'⟩
  subst hw'
  clear hc
  go_wp2
  go_ret
  exact ⟨congrArg (fun n => Ending.returned (.int .i64 n)) E.out, rfl⟩
theorem odd_any (n : Nat) (h0 : n ≠ 0) (h : n ≤ 9223372036854775807) (w : World) (T : Tz w) :
    Calls Tryd.prog 84 #[.int .i64 n] w fun e w' => e = .returned (.int .i64 (Chk.oddPart 64 n : Nat)) ∧ w' = w := by
  rw [← odd_shift n h0 (by omega)]
  exact odd_core n _ (Lib.lowest_bit 64 n h0 (by omega)).2 h w (tz_any n h0 (by omega) w T)
end Go.Proofs.YtpdbndkckioamaaDoor
