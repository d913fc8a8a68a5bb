/-
  The contracts of dividerOf and Valid; conditions: the table of the dividers lies in its variable, the numbers fit their kinds.
-/
import Derived.Test.YtobiiogoofkmaaaDoorTBase
set_option linter.unusedSimpArgs false
set_option linter.unusedVariables false
namespace Go.Proofs.YtobiiogoofkmaaaDoor
open Go.RowKit Classical
theorem bitsN_and (a b : Nat) (ha : a < 256) (hb : b < 256) : bits .and .u8 (a : Int) (b : Int) = ((a &&& b : Nat) : Int) := u8_and_nat a b ha hb
theorem nat_and3 (a : Nat) (h : a < 256) : a &&& 3 = a % 4 := by revert a; decide +kernel
theorem and3 (x : Int) (h0 : 0 ≤ x) (h1 : x ≤ 255) : bits .and .u8 x 3 = x % 4 := by
  obtain ⟨k, rfl⟩ := Int.eq_ofNat_of_zero_le h0
  have := bitsN_and k 3 (by omega) (by decide)
  rw [nat_and3 k (by omega)] at this
  exact this
theorem dividerOf_any (k : Int) (w : World) (h0 : 0 ≤ k) (h1 : k ≤ 255) (T : DTab w) :
    Calls Tryd.prog 17 #[.int .u8 k] w fun e w' => e = .returned (.int .u16 (dv k)) ∧ w' = w := by
  obtain ⟨c0, c1, c2, c3⟩ := T
  have ha := and3 (k / 8) (by omega) (by omega)
  have hc : k / 8 % 4 = 0 ∨ k / 8 % 4 = 1 ∨ k / 8 % 4 = 2 ∨ k / 8 % 4 = 3 := by omega
  rcases hc with h | h | h | h
  all_goals
    have E : Hid (dv k = _) := (by unfold dv; rw [h]; rfl)
    rw [h] at ha
    clear h
    go_enter Tryd.func17, Tryd.ntmps17
    go_wp2
    go_ret
    exact ⟨congrArg (fun x => Ending.returned (.int .u16 x)) E.out.symm, rfl⟩
end Go.Proofs.YtobiiogoofkmaaaDoor
