/-
  The contract of Valid; conditions: the table of the dividers lies in its variable, the numbers fit their kinds.
-/
import Derived.Test.YtobiiogoofkmaaaDoorTLeaf
set_option linter.unusedSimpArgs false
set_option linter.unusedVariables false
namespace Go.Proofs.YtobiiogoofkmaaaDoor
open Go.RowKit Classical
set_option maxHeartbeats 2000000 in
theorem valid_ex (c : Ck) (w : World) (o : c.Ok) (T : DTab w) :
    Calls Tryd.prog 5 #[.agg c.cells] w fun e w' => e = .returned (.bool c.valid) ∧ ∃ n, w' = (w.alloc (.cells c.cells 24)).drewN n := by
  obtain ⟨latch, count, pre, hold, ctl, flag, over, five, inh, frame, at_, wait, beats⟩ := c
  obtain ⟨-, -, o3, -, o5, o6, o7, o8⟩ := o
  simp only at o3 o5 o6 o7 o8
  unfold Ck.cells
  simp only
  by_cases h1 : ctl ≤ 31
  rotate_left
  · have E : Hid (Ck.valid ⟨latch, count, pre, hold, ctl, flag, over, five, inh, frame, at_, wait, beats⟩ = false) := by unfold Hid Ck.valid; simp [h1]
    have h1' : decide (ctl ≤ 31) = false := decide_eq_false h1
    go_enter Tryd.func5, Tryd.ntmps5
    go_upto_region 1 with fail
    go_quiet ((go_at_call 17; exact Calls.quiet_of_same (dividerOf_any _ _ o5.1 o5.2 (T.on (below_draws ((Below.refl _ _).alloc (Nat.le_refl _) _) _)))))
    go_wp2
    go_ret
    exact ⟨congrArg (fun x => Ending.returned (.bool x)) E.out.symm, _, rfl⟩
  by_cases h2 : pre < dv ctl
  rotate_left
  · have E : Hid (Ck.valid ⟨latch, count, pre, hold, ctl, flag, over, five, inh, frame, at_, wait, beats⟩ = false) := by unfold Hid Ck.valid; simp [h1, h2]
    have h2' : decide (pre < dv ctl) = false := decide_eq_false h2
    go_enter Tryd.func5, Tryd.ntmps5
    go_upto_region 1 with fail
    go_quiet ((go_at_call 17; exact Calls.quiet_of_same (dividerOf_any _ _ o5.1 o5.2 (T.on (below_draws ((Below.refl _ _).alloc (Nat.le_refl _) _) _)))))
    go_wp2
    go_ret
    exact ⟨congrArg (fun x => Ending.returned (.bool x)) E.out.symm, _, rfl⟩
  by_cases h3 : at_ ≤ 37281
  rotate_left
  · have E : Hid (Ck.valid ⟨latch, count, pre, hold, ctl, flag, over, five, inh, frame, at_, wait, beats⟩ = false) := by unfold Hid Ck.valid; simp [h1, h2, h3]
    have h3' : decide (at_ ≤ 37281) = false := decide_eq_false h3
    go_enter Tryd.func5, Tryd.ntmps5
    go_upto_region 1 with fail
    go_quiet ((go_at_call 17; exact Calls.quiet_of_same (dividerOf_any _ _ o5.1 o5.2 (T.on (below_draws ((Below.refl _ _).alloc (Nat.le_refl _) _) _)))))
    go_wp2
    go_ret
    exact ⟨congrArg (fun x => Ending.returned (.bool x)) E.out.symm, _, rfl⟩
  by_cases h4 : wait ≤ 4
  rotate_left
  · have E : Hid (Ck.valid ⟨latch, count, pre, hold, ctl, flag, over, five, inh, frame, at_, wait, beats⟩ = false) := by unfold Hid Ck.valid; simp [h1, h2, h3, h4]
    have h4' : decide (wait ≤ 4) = false := decide_eq_false h4
    go_enter Tryd.func5, Tryd.ntmps5
    go_upto_region 1 with fail
    go_quiet ((go_at_call 17; exact Calls.quiet_of_same (dividerOf_any _ _ o5.1 o5.2 (T.on (below_draws ((Below.refl _ _).alloc (Nat.le_refl _) _) _)))))
    go_wp2
    go_ret
    exact ⟨congrArg (fun x => Ending.returned (.bool x)) E.out.symm, _, rfl⟩
  by_cases h5 : beats ≤ 63
  rotate_left
  · have E : Hid (Ck.valid ⟨latch, count, pre, hold, ctl, flag, over, five, inh, frame, at_, wait, beats⟩ = false) := by unfold Hid Ck.valid; simp [h1, h2, h3, h4, h5]
    have h5' : decide (beats ≤ 63) = false := decide_eq_false h5
    go_enter Tryd.func5, Tryd.ntmps5
    go_upto_region 1 with fail
    go_quiet ((go_at_call 17; exact Calls.quiet_of_same (dividerOf_any _ _ o5.1 o5.2 (T.on (below_draws ((Below.refl _ _).alloc (Nat.le_refl _) _) _)))))
    go_wp2
    go_ret
    exact ⟨congrArg (fun x => Ending.returned (.bool x)) E.out.symm, _, rfl⟩
  cases flag <;> cases over <;> cases inh <;> cases frame
  · have E : Hid (Ck.valid ⟨latch, count, pre, hold, ctl, false, false, five, false, false, at_, wait, beats⟩ = true) := by unfold Hid Ck.valid; simp [h1, h2, h3, h4, h5]
    go_enter Tryd.func5, Tryd.ntmps5
    go_upto_region 1 with fail
    go_quiet ((go_at_call 17; exact Calls.quiet_of_same (dividerOf_any _ _ o5.1 o5.2 (T.on (below_draws ((Below.refl _ _).alloc (Nat.le_refl _) _) _)))))
    go_wp2
    go_ret
    exact ⟨congrArg (fun x => Ending.returned (.bool x)) E.out.symm, _, rfl⟩
  · have E : Hid (Ck.valid ⟨latch, count, pre, hold, ctl, false, false, five, false, true, at_, wait, beats⟩ = true) := by unfold Hid Ck.valid; simp [h1, h2, h3, h4, h5]
    go_enter Tryd.func5, Tryd.ntmps5
    go_upto_region 1 with fail
    go_quiet ((go_at_call 17; exact Calls.quiet_of_same (dividerOf_any _ _ o5.1 o5.2 (T.on (below_draws ((Below.refl _ _).alloc (Nat.le_refl _) _) _)))))
    go_wp2
    go_ret
    exact ⟨congrArg (fun x => Ending.returned (.bool x)) E.out.symm, _, rfl⟩
  · have E : Hid (Ck.valid ⟨latch, count, pre, hold, ctl, false, false, five, true, false, at_, wait, beats⟩ = true) := by unfold Hid Ck.valid; simp [h1, h2, h3, h4, h5]
    go_enter Tryd.func5, Tryd.ntmps5
    go_upto_region 1 with fail
    go_quiet ((go_at_call 17; exact Calls.quiet_of_same (dividerOf_any _ _ o5.1 o5.2 (T.on (below_draws ((Below.refl _ _).alloc (Nat.le_refl _) _) _)))))
    go_wp2
    go_ret
    exact ⟨congrArg (fun x => Ending.returned (.bool x)) E.out.symm, _, rfl⟩
  · have E : Hid (Ck.valid ⟨latch, count, pre, hold, ctl, false, false, five, true, true, at_, wait, beats⟩ = false) := by unfold Hid Ck.valid; simp [h1, h2, h3, h4, h5]
    go_enter Tryd.func5, Tryd.ntmps5
    go_upto_region 1 with fail
    go_quiet ((go_at_call 17; exact Calls.quiet_of_same (dividerOf_any _ _ o5.1 o5.2 (T.on (below_draws ((Below.refl _ _).alloc (Nat.le_refl _) _) _)))))
    go_wp2
    go_ret
    exact ⟨congrArg (fun x => Ending.returned (.bool x)) E.out.symm, _, rfl⟩
  · have E : Hid (Ck.valid ⟨latch, count, pre, hold, ctl, false, true, five, false, false, at_, wait, beats⟩ = false) := by unfold Hid Ck.valid; simp [h1, h2, h3, h4, h5]
    go_enter Tryd.func5, Tryd.ntmps5
    go_upto_region 1 with fail
    go_quiet ((go_at_call 17; exact Calls.quiet_of_same (dividerOf_any _ _ o5.1 o5.2 (T.on (below_draws ((Below.refl _ _).alloc (Nat.le_refl _) _) _)))))
    go_wp2
    go_ret
    exact ⟨congrArg (fun x => Ending.returned (.bool x)) E.out.symm, _, rfl⟩
  · have E : Hid (Ck.valid ⟨latch, count, pre, hold, ctl, false, true, five, false, true, at_, wait, beats⟩ = false) := by unfold Hid Ck.valid; simp [h1, h2, h3, h4, h5]
    go_enter Tryd.func5, Tryd.ntmps5
    go_upto_region 1 with fail
    go_quiet ((go_at_call 17; exact Calls.quiet_of_same (dividerOf_any _ _ o5.1 o5.2 (T.on (below_draws ((Below.refl _ _).alloc (Nat.le_refl _) _) _)))))
    go_wp2
    go_ret
    exact ⟨congrArg (fun x => Ending.returned (.bool x)) E.out.symm, _, rfl⟩
  · have E : Hid (Ck.valid ⟨latch, count, pre, hold, ctl, false, true, five, true, false, at_, wait, beats⟩ = false) := by unfold Hid Ck.valid; simp [h1, h2, h3, h4, h5]
    go_enter Tryd.func5, Tryd.ntmps5
    go_upto_region 1 with fail
    go_quiet ((go_at_call 17; exact Calls.quiet_of_same (dividerOf_any _ _ o5.1 o5.2 (T.on (below_draws ((Below.refl _ _).alloc (Nat.le_refl _) _) _)))))
    go_wp2
    go_ret
    exact ⟨congrArg (fun x => Ending.returned (.bool x)) E.out.symm, _, rfl⟩
  · have E : Hid (Ck.valid ⟨latch, count, pre, hold, ctl, false, true, five, true, true, at_, wait, beats⟩ = false) := by unfold Hid Ck.valid; simp [h1, h2, h3, h4, h5]
    go_enter Tryd.func5, Tryd.ntmps5
    go_upto_region 1 with fail
    go_quiet ((go_at_call 17; exact Calls.quiet_of_same (dividerOf_any _ _ o5.1 o5.2 (T.on (below_draws ((Below.refl _ _).alloc (Nat.le_refl _) _) _)))))
    go_wp2
    go_ret
    exact ⟨congrArg (fun x => Ending.returned (.bool x)) E.out.symm, _, rfl⟩
  · have E : Hid (Ck.valid ⟨latch, count, pre, hold, ctl, true, false, five, false, false, at_, wait, beats⟩ = true) := by unfold Hid Ck.valid; simp [h1, h2, h3, h4, h5]
    go_enter Tryd.func5, Tryd.ntmps5
    go_upto_region 1 with fail
    go_quiet ((go_at_call 17; exact Calls.quiet_of_same (dividerOf_any _ _ o5.1 o5.2 (T.on (below_draws ((Below.refl _ _).alloc (Nat.le_refl _) _) _)))))
    go_wp2
    go_ret
    exact ⟨congrArg (fun x => Ending.returned (.bool x)) E.out.symm, _, rfl⟩
  · have E : Hid (Ck.valid ⟨latch, count, pre, hold, ctl, true, false, five, false, true, at_, wait, beats⟩ = true) := by unfold Hid Ck.valid; simp [h1, h2, h3, h4, h5]
    go_enter Tryd.func5, Tryd.ntmps5
    go_upto_region 1 with fail
    go_quiet ((go_at_call 17; exact Calls.quiet_of_same (dividerOf_any _ _ o5.1 o5.2 (T.on (below_draws ((Below.refl _ _).alloc (Nat.le_refl _) _) _)))))
    go_wp2
    go_ret
    exact ⟨congrArg (fun x => Ending.returned (.bool x)) E.out.symm, _, rfl⟩
  · have E : Hid (Ck.valid ⟨latch, count, pre, hold, ctl, true, false, five, true, false, at_, wait, beats⟩ = true) := by unfold Hid Ck.valid; simp [h1, h2, h3, h4, h5]
    go_enter Tryd.func5, Tryd.ntmps5
    go_upto_region 1 with fail
    go_quiet ((go_at_call 17; exact Calls.quiet_of_same (dividerOf_any _ _ o5.1 o5.2 (T.on (below_draws ((Below.refl _ _).alloc (Nat.le_refl _) _) _)))))
    go_wp2
    go_ret
    exact ⟨congrArg (fun x => Ending.returned (.bool x)) E.out.symm, _, rfl⟩
  · have E : Hid (Ck.valid ⟨latch, count, pre, hold, ctl, true, false, five, true, true, at_, wait, beats⟩ = false) := by unfold Hid Ck.valid; simp [h1, h2, h3, h4, h5]
    go_enter Tryd.func5, Tryd.ntmps5
    go_upto_region 1 with fail
    go_quiet ((go_at_call 17; exact Calls.quiet_of_same (dividerOf_any _ _ o5.1 o5.2 (T.on (below_draws ((Below.refl _ _).alloc (Nat.le_refl _) _) _)))))
    go_wp2
    go_ret
    exact ⟨congrArg (fun x => Ending.returned (.bool x)) E.out.symm, _, rfl⟩
  · have E : Hid (Ck.valid ⟨latch, count, pre, hold, ctl, true, true, five, false, false, at_, wait, beats⟩ = true) := by unfold Hid Ck.valid; simp [h1, h2, h3, h4, h5]
    go_enter Tryd.func5, Tryd.ntmps5
    go_upto_region 1 with fail
    go_quiet ((go_at_call 17; exact Calls.quiet_of_same (dividerOf_any _ _ o5.1 o5.2 (T.on (below_draws ((Below.refl _ _).alloc (Nat.le_refl _) _) _)))))
    go_wp2
    go_ret
    exact ⟨congrArg (fun x => Ending.returned (.bool x)) E.out.symm, _, rfl⟩
  · have E : Hid (Ck.valid ⟨latch, count, pre, hold, ctl, true, true, five, false, true, at_, wait, beats⟩ = true) := by unfold Hid Ck.valid; simp [h1, h2, h3, h4, h5]
    go_enter Tryd.func5, Tryd.ntmps5
    go_upto_region 1 with fail
    go_quiet ((go_at_call 17; exact Calls.quiet_of_same (dividerOf_any _ _ o5.1 o5.2 (T.on (below_draws ((Below.refl _ _).alloc (Nat.le_refl _) _) _)))))
    go_wp2
    go_ret
    exact ⟨congrArg (fun x => Ending.returned (.bool x)) E.out.symm, _, rfl⟩
  · have E : Hid (Ck.valid ⟨latch, count, pre, hold, ctl, true, true, five, true, false, at_, wait, beats⟩ = true) := by unfold Hid Ck.valid; simp [h1, h2, h3, h4, h5]
    go_enter Tryd.func5, Tryd.ntmps5
    go_upto_region 1 with fail
    go_quiet ((go_at_call 17; exact Calls.quiet_of_same (dividerOf_any _ _ o5.1 o5.2 (T.on (below_draws ((Below.refl _ _).alloc (Nat.le_refl _) _) _)))))
    go_wp2
    go_ret
    exact ⟨congrArg (fun x => Ending.returned (.bool x)) E.out.symm, _, rfl⟩
  · have E : Hid (Ck.valid ⟨latch, count, pre, hold, ctl, true, true, five, true, true, at_, wait, beats⟩ = false) := by unfold Hid Ck.valid; simp [h1, h2, h3, h4, h5]
    go_enter Tryd.func5, Tryd.ntmps5
    go_upto_region 1 with fail
    go_quiet ((go_at_call 17; exact Calls.quiet_of_same (dividerOf_any _ _ o5.1 o5.2 (T.on (below_draws ((Below.refl _ _).alloc (Nat.le_refl _) _) _)))))
    go_wp2
    go_ret
    exact ⟨congrArg (fun x => Ending.returned (.bool x)) E.out.symm, _, rfl⟩
theorem valid_any (c : Ck) (w : World) (o : c.Ok) (T : DTab w) :
    Calls Tryd.prog 5 #[.agg c.cells] w fun e w' => e = .returned (.bool c.valid) ∧ Below w.heap.size w w' :=
  (valid_ex c w o T).mono fun e w' ⟨he, n, hn⟩ => ⟨he, by subst hn; exact below_draws ((Below.refl _ _).alloc (Nat.le_refl _) _) n⟩
end Go.Proofs.YtobiiogoofkmaaaDoor
