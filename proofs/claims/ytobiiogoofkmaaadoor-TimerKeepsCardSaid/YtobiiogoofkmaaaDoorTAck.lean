/-
  The contracts of acknowledged, sequenced and when.
-/
import Derived.Test.YtobiiogoofkmaaaDoorTLeaf
set_option linter.unusedSimpArgs false
set_option linter.unusedVariables false
namespace Go.Proofs.YtobiiogoofkmaaaDoor
open Go.RowKit Classical
def Ck.ack (c : Ck) : Ck := { c with flag := false, over := false }
theorem ack_any (c : Ck) (w : World) :
    Calls Tryd.prog 19 #[.agg c.cells] w fun e w' => e = .returned (.agg c.ack.cells) ∧ w' = (w.alloc (.cells c.ack.cells 24)).alloc (.cells c.ack.cells 24) := by
  obtain ⟨latch, count, pre, hold, ctl, flag, over, five, inh, frame, at_, wait, beats⟩ := c
  unfold Ck.ack Ck.cells
  simp only
  go_enter Tryd.func19, Tryd.ntmps19
  go_wp2
  exact bodyPost_ret (v := .agg #[.int .u16 latch, .int .u16 count, .int .u16 pre, .int .u8 hold, .int .u8 ctl, .bool false, .bool false, .bool five, .bool inh, .bool frame, .int .u16 at_, .int .u8 wait, .int .u8 beats]) (by simp [results, Tryd.results19, go_sem]) rfl ⟨rfl, rfl⟩
theorem when_any (h : Bool) (k : Int) (w : World) :
    Calls Tryd.prog 18 #[.bool h, .int .u8 k] w fun e w' => e = .returned (.int .u8 (if h = true then k else 0)) ∧ w' = w := by
  cases h
  all_goals
    go_enter Tryd.func18, Tryd.ntmps18
    go_wp2
    go_ret
    exact ⟨rfl, rfl⟩
/-- The clock behind a write to the sequencer. -/
def Ck.seq (c : Ck) (v cycle : Int) : Ck := { c with five := decide (128 ≤ v), inh := decide (v / 64 % 2 = 1), frame := c.frame && !decide (v / 64 % 2 = 1), wait := if cycle % 2 = 0 then 3 else 4 }
theorem nat_and128 (a : Nat) (h : a < 256) : a &&& 128 = if 128 ≤ a then 128 else 0 := by revert a; decide +kernel
theorem nat_and64 (a : Nat) (h : a < 256) : a &&& 64 = if a / 64 % 2 = 1 then 64 else 0 := by revert a; decide +kernel
theorem and128 (x : Int) (h0 : 0 ≤ x) (h1 : x ≤ 255) : bits .and .u8 x 128 = if 128 ≤ x then 128 else 0 := by
  obtain ⟨k, rfl⟩ := Int.eq_ofNat_of_zero_le h0
  have := bitsN_and k 128 (by omega) (by decide)
  rw [nat_and128 k (by omega)] at this
  refine this.trans ?_
  by_cases h : 128 ≤ k
  · rw [if_pos h, if_pos (by omega)]; rfl
  · rw [if_neg h, if_neg (by omega)]; rfl
theorem and64 (x : Int) (h0 : 0 ≤ x) (h1 : x ≤ 255) : bits .and .u8 x 64 = if x / 64 % 2 = 1 then 64 else 0 := by
  obtain ⟨k, rfl⟩ := Int.eq_ofNat_of_zero_le h0
  have := bitsN_and k 64 (by omega) (by decide)
  rw [nat_and64 k (by omega)] at this
  refine this.trans ?_
  by_cases h : k / 64 % 2 = 1
  · rw [if_pos h, if_pos (by omega)]; rfl
  · rw [if_neg h, if_neg (by omega)]; rfl
theorem i64_and1 (n : Int) : bits .and .i64 n 1 = n % 2 := by
  have key : (BitVec.ofInt 64 n &&& BitVec.ofInt 64 1).toNat = (n % ((2 ^ 64 : Nat) : Int)).toNat % 2 ^ 1 := by
    rw [BitVec.toNat_and, BitVec.toNat_ofInt, BitVec.toNat_ofInt, show ((1 : Int) % ((2 ^ 64 : Nat) : Int)).toNat = 2 ^ 1 - 1 from rfl, Nat.and_two_pow_sub_one_eq_mod]
  show IntKind.i64.wrap ((BitVec.ofInt 64 n &&& BitVec.ofInt 64 1).toNat : Nat) = n % 2
  rw [key]
  have h2 : (n % ((2 ^ 64 : Nat) : Int)).toNat % 2 ^ 1 = (n % 2).toNat := by omega
  rw [h2]
  rcases Int.emod_two_eq n with h | h <;> rw [h] <;> decide
set_option maxHeartbeats 1000000 in
theorem seq_any (c : Ck) (v cycle : Int) (w : World) (v0 : 0 ≤ v) (v1 : v ≤ 255) :
    Calls Tryd.prog 20 #[.agg c.cells, .int .u8 v, .int .i64 cycle] w fun e w' => e = .returned (.agg (c.seq v cycle).cells) ∧ w' = (w.alloc (.cells (c.seq v cycle).cells 24)).alloc (.cells (c.seq v cycle).cells 24) := by
  obtain ⟨latch, count, pre, hold, ctl, flag, over, five, inh, frame, at_, wait, beats⟩ := c
  have a1 := and128 v v0 v1
  have a2 := and64 v v0 v1
  have a3 := i64_and1 cycle
  unfold Ck.seq Ck.cells
  simp only
  by_cases h1 : 128 ≤ v
  all_goals by_cases h2 : v / 64 % 2 = 1
  all_goals by_cases h3 : cycle % 2 = 0
  all_goals
    first | rw [if_pos h1] at a1 | rw [if_neg h1] at a1
    first | rw [if_pos h2] at a2 | rw [if_neg h2] at a2
    first | rw [if_pos h3] | rw [if_neg h3]
    first | rw [h3] at a3 | rw [show cycle % 2 = 1 by omega] at a3
    first | rw [decide_eq_true h1] | rw [decide_eq_false h1]
    first | rw [decide_eq_true h2] | rw [decide_eq_false h2]
    clear h1 h2 h3 v0 v1
    simp only [Bool.not_true, Bool.not_false, Bool.and_true, Bool.and_false]
    go_enter Tryd.func20, Tryd.ntmps20
    go_wp2
    refine bodyPost_ret (by simp [results, Tryd.results20, go_sem]) rfl ⟨rfl, rfl⟩
end Go.Proofs.YtobiiogoofkmaaaDoor
