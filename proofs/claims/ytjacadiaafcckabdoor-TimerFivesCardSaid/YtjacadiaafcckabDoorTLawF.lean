/-
  Facts that the laws of the timer lean on: a number cut to 62 bits, a clock that moves, the new clock.
-/
import Derived.Test.YtjacadiaafcckabDoorTSt
set_option linter.unusedSimpArgs false
set_option linter.unusedVariables false
namespace Go.Proofs.YtjacadiaafcckabDoor
open Go.RowKit Classical
theorem i64_in (n : Int) (h : -9223372036854775808 ≤ n ∧ n ≤ 9223372036854775807) : IntKind.i64.wrap n = n := by rw [IntKind.wrap_i64]; omega
/-- A number cut to its low 62 bits. -/
def hf (x : Int) : Int := x % 4611686018427387904
theorem hf_bd (x : Int) : 0 ≤ hf x ∧ hf x ≤ 4611686018427387903 := by unfold hf; omega
theorem and_hf (n : Int) : bits .and .i64 n 4611686018427387903 = hf n := by
  have key : (BitVec.ofInt 64 n &&& BitVec.ofInt 64 4611686018427387903).toNat = (n % ((2 ^ 64 : Nat) : Int)).toNat % 2 ^ 62 := by
    rw [BitVec.toNat_and, BitVec.toNat_ofInt, BitVec.toNat_ofInt, show ((4611686018427387903 : Int) % ((2 ^ 64 : Nat) : Int)).toNat = 2 ^ 62 - 1 from rfl, Nat.and_two_pow_sub_one_eq_mod]
  show IntKind.i64.wrap ((BitVec.ofInt 64 n &&& BitVec.ofInt 64 4611686018427387903).toNat : Nat) = hf n
  rw [key]
  have h2 : (((n % ((2 ^ 64 : Nat) : Int)).toNat % 2 ^ 62 : Nat) : Int) = hf n := by unfold hf; omega
  rw [h2]
  have := hf_bd n
  exact i64_in _ (by omega)
theorem zero_ok : zeroC.Ok := ⟨by decide, by decide, by decide, by decide, by decide, by decide, by decide, by decide⟩
theorem zero_valid : zeroC.valid = true := by decide
theorem vzero (w : World) (T : DTab w) : Calls Tryd.prog 15 #[.agg zeroC.cells] w fun e w' => e = .returned (.bool true) ∧ Below w.heap.size w w' := by
  have h := valid_any zeroC w zero_ok T
  rwa [zero_valid] at h
/-- Every valid clock moves. -/
theorem Ck.moves {c : Ck} (o : c.Ok) (hv : c.valid = true) : c.tick ≠ c := by
  intro h
  unfold Ck.tick at h
  rw [if_pos hv] at h
  have h1 := congrArg Ck.wait h
  have h2 := congrArg Ck.at_ h
  have tw : c.tickT.wait = c.wait := by unfold Ck.tickT; (repeat (first | rfl | split))
  have ta : c.tickT.at_ = c.at_ := by unfold Ck.tickT; (repeat (first | rfl | split))
  have tf : c.tickT.five = c.five := by unfold Ck.tickT; (repeat (first | rfl | split))
  simp only [Ck.tickS, tw, ta, tf] at h1 h2
  have hr : 29830 ≤ rdL c.five := by cases c.five <;> decide
  have := o.wait
  have := o.at_
  split at h1
  · omega
  · rw [if_neg (by omega)] at h2
    split at h2 <;> omega
theorem Ck.stays {c : Ck} (hv : c.valid = false) : c.tick = c := by unfold Ck.tick; rw [hv]; rfl
end Go.Proofs.YtjacadiaafcckabDoor
