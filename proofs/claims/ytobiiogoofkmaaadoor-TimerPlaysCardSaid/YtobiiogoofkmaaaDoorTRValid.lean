/-
  The document's Valid; conditions: the numbers fit their kinds.
-/
import Derived.Test.YtobiiogoofkmaaaDoorTRef
set_option linter.unusedSimpArgs false
set_option linter.unusedVariables false
namespace Go.Proofs.YtobiiogoofkmaaaDoor
open Go.RowKit Classical
set_option maxHeartbeats 2000000 in
theorem rvalid_ex (c : Ck) (w : World) (o : c.Ok) :
    Calls Tryd.prog 28 #[.agg c.cells] w fun e w' => e = .returned (.bool c.valid) ∧ ∃ n, w' = (w.alloc (.cells c.cells 24)).drewN n := by
  have hd := dv_pos c.ctl
  obtain ⟨latch, count, pre, hold, ctl, flag, over, five, inh, frame, at_, wait, beats⟩ := c
  obtain ⟨-, -, o3, -, o5, o6, o7, o8⟩ := o
  simp only at o3 o5 o6 o7 o8 hd
  unfold Ck.cells
  simp only
  by_cases h1 : ctl ≤ 31
  rotate_left
  · have E : Hid (Ck.valid ⟨latch, count, pre, hold, ctl, flag, over, five, inh, frame, at_, wait, beats⟩ = false) := by unfold Hid Ck.valid; simp [h1]
    go_enter Tryd.func28, Tryd.ntmps28
    go_wp2
    go_ret
    exact ⟨congrArg (fun x => Ending.returned (.bool x)) E.out.symm, 0, rfl⟩
  by_cases h3 : at_ ≤ 37281
  rotate_left
  · have E : Hid (Ck.valid ⟨latch, count, pre, hold, ctl, flag, over, five, inh, frame, at_, wait, beats⟩ = false) := by unfold Hid Ck.valid; simp [h1, h3]
    go_enter Tryd.func28, Tryd.ntmps28
    go_wp2
    go_ret
    exact ⟨congrArg (fun x => Ending.returned (.bool x)) E.out.symm, 0, rfl⟩
  by_cases h4 : wait ≤ 4
  rotate_left
  · have E : Hid (Ck.valid ⟨latch, count, pre, hold, ctl, flag, over, five, inh, frame, at_, wait, beats⟩ = false) := by unfold Hid Ck.valid; simp [h1, h3, h4]
    go_enter Tryd.func28, Tryd.ntmps28
    go_wp2
    go_ret
    exact ⟨congrArg (fun x => Ending.returned (.bool x)) E.out.symm, 0, rfl⟩
  by_cases h5 : beats ≤ 63
  rotate_left
  · have E : Hid (Ck.valid ⟨latch, count, pre, hold, ctl, flag, over, five, inh, frame, at_, wait, beats⟩ = false) := by unfold Hid Ck.valid; simp [h1, h3, h4, h5]
    go_enter Tryd.func28, Tryd.ntmps28
    go_wp2
    go_ret
    exact ⟨congrArg (fun x => Ending.returned (.bool x)) E.out.symm, 0, rfl⟩
  by_cases h2 : pre < dv ctl
  rotate_left
  · have E : Hid (Ck.valid ⟨latch, count, pre, hold, ctl, flag, over, five, inh, frame, at_, wait, beats⟩ = false) := by unfold Hid Ck.valid; simp [h1, h3, h4, h5, h2]
    go_enter Tryd.func28, Tryd.ntmps28
    go_wp2
    go_quiet ((go_at_call 30; exact Calls.quiet_of_same (rdiv_any _ _ o5.1 o5.2)))
    go_wp2
    go_ret
    exact ⟨congrArg (fun x => Ending.returned (.bool x)) E.out.symm, _, rfl⟩
  cases flag <;> cases over <;> cases inh <;> cases frame
  · have E : Hid (Ck.valid ⟨latch, count, pre, hold, ctl, false, false, five, false, false, at_, wait, beats⟩ = true) := by unfold Hid Ck.valid; simp [h1, h3, h4, h5, h2]
    go_enter Tryd.func28, Tryd.ntmps28
    go_wp2
    go_quiet ((go_at_call 30; exact Calls.quiet_of_same (rdiv_any _ _ o5.1 o5.2)))
    go_wp2
    go_ret
    exact ⟨congrArg (fun x => Ending.returned (.bool x)) E.out.symm, _, rfl⟩
  · have E : Hid (Ck.valid ⟨latch, count, pre, hold, ctl, false, false, five, false, true, at_, wait, beats⟩ = true) := by unfold Hid Ck.valid; simp [h1, h3, h4, h5, h2]
    go_enter Tryd.func28, Tryd.ntmps28
    go_wp2
    go_quiet ((go_at_call 30; exact Calls.quiet_of_same (rdiv_any _ _ o5.1 o5.2)))
    go_wp2
    go_ret
    exact ⟨congrArg (fun x => Ending.returned (.bool x)) E.out.symm, _, rfl⟩
  · have E : Hid (Ck.valid ⟨latch, count, pre, hold, ctl, false, false, five, true, false, at_, wait, beats⟩ = true) := by unfold Hid Ck.valid; simp [h1, h3, h4, h5, h2]
    go_enter Tryd.func28, Tryd.ntmps28
    go_wp2
    go_quiet ((go_at_call 30; exact Calls.quiet_of_same (rdiv_any _ _ o5.1 o5.2)))
    go_wp2
    go_ret
    exact ⟨congrArg (fun x => Ending.returned (.bool x)) E.out.symm, _, rfl⟩
  · have E : Hid (Ck.valid ⟨latch, count, pre, hold, ctl, false, false, five, true, true, at_, wait, beats⟩ = false) := by unfold Hid Ck.valid; simp [h1, h3, h4, h5, h2]
    go_enter Tryd.func28, Tryd.ntmps28
    go_wp2
    go_quiet ((go_at_call 30; exact Calls.quiet_of_same (rdiv_any _ _ o5.1 o5.2)))
    go_wp2
    go_ret
    exact ⟨congrArg (fun x => Ending.returned (.bool x)) E.out.symm, _, rfl⟩
  · have E : Hid (Ck.valid ⟨latch, count, pre, hold, ctl, false, true, five, false, false, at_, wait, beats⟩ = false) := by unfold Hid Ck.valid; simp [h1, h3, h4, h5, h2]
    go_enter Tryd.func28, Tryd.ntmps28
    go_wp2
    go_quiet ((go_at_call 30; exact Calls.quiet_of_same (rdiv_any _ _ o5.1 o5.2)))
    go_wp2
    go_ret
    exact ⟨congrArg (fun x => Ending.returned (.bool x)) E.out.symm, _, rfl⟩
  · have E : Hid (Ck.valid ⟨latch, count, pre, hold, ctl, false, true, five, false, true, at_, wait, beats⟩ = false) := by unfold Hid Ck.valid; simp [h1, h3, h4, h5, h2]
    go_enter Tryd.func28, Tryd.ntmps28
    go_wp2
    go_quiet ((go_at_call 30; exact Calls.quiet_of_same (rdiv_any _ _ o5.1 o5.2)))
    go_wp2
    go_ret
    exact ⟨congrArg (fun x => Ending.returned (.bool x)) E.out.symm, _, rfl⟩
  · have E : Hid (Ck.valid ⟨latch, count, pre, hold, ctl, false, true, five, true, false, at_, wait, beats⟩ = false) := by unfold Hid Ck.valid; simp [h1, h3, h4, h5, h2]
    go_enter Tryd.func28, Tryd.ntmps28
    go_wp2
    go_quiet ((go_at_call 30; exact Calls.quiet_of_same (rdiv_any _ _ o5.1 o5.2)))
    go_wp2
    go_ret
    exact ⟨congrArg (fun x => Ending.returned (.bool x)) E.out.symm, _, rfl⟩
  · have E : Hid (Ck.valid ⟨latch, count, pre, hold, ctl, false, true, five, true, true, at_, wait, beats⟩ = false) := by unfold Hid Ck.valid; simp [h1, h3, h4, h5, h2]
    go_enter Tryd.func28, Tryd.ntmps28
    go_wp2
    go_quiet ((go_at_call 30; exact Calls.quiet_of_same (rdiv_any _ _ o5.1 o5.2)))
    go_wp2
    go_ret
    exact ⟨congrArg (fun x => Ending.returned (.bool x)) E.out.symm, _, rfl⟩
  · have E : Hid (Ck.valid ⟨latch, count, pre, hold, ctl, true, false, five, false, false, at_, wait, beats⟩ = true) := by unfold Hid Ck.valid; simp [h1, h3, h4, h5, h2]
    go_enter Tryd.func28, Tryd.ntmps28
    go_wp2
    go_quiet ((go_at_call 30; exact Calls.quiet_of_same (rdiv_any _ _ o5.1 o5.2)))
    go_wp2
    go_ret
    exact ⟨congrArg (fun x => Ending.returned (.bool x)) E.out.symm, _, rfl⟩
  · have E : Hid (Ck.valid ⟨latch, count, pre, hold, ctl, true, false, five, false, true, at_, wait, beats⟩ = true) := by unfold Hid Ck.valid; simp [h1, h3, h4, h5, h2]
    go_enter Tryd.func28, Tryd.ntmps28
    go_wp2
    go_quiet ((go_at_call 30; exact Calls.quiet_of_same (rdiv_any _ _ o5.1 o5.2)))
    go_wp2
    go_ret
    exact ⟨congrArg (fun x => Ending.returned (.bool x)) E.out.symm, _, rfl⟩
  · have E : Hid (Ck.valid ⟨latch, count, pre, hold, ctl, true, false, five, true, false, at_, wait, beats⟩ = true) := by unfold Hid Ck.valid; simp [h1, h3, h4, h5, h2]
    go_enter Tryd.func28, Tryd.ntmps28
    go_wp2
    go_quiet ((go_at_call 30; exact Calls.quiet_of_same (rdiv_any _ _ o5.1 o5.2)))
    go_wp2
    go_ret
    exact ⟨congrArg (fun x => Ending.returned (.bool x)) E.out.symm, _, rfl⟩
  · have E : Hid (Ck.valid ⟨latch, count, pre, hold, ctl, true, false, five, true, true, at_, wait, beats⟩ = false) := by unfold Hid Ck.valid; simp [h1, h3, h4, h5, h2]
    go_enter Tryd.func28, Tryd.ntmps28
    go_wp2
    go_quiet ((go_at_call 30; exact Calls.quiet_of_same (rdiv_any _ _ o5.1 o5.2)))
    go_wp2
    go_ret
    exact ⟨congrArg (fun x => Ending.returned (.bool x)) E.out.symm, _, rfl⟩
  · have E : Hid (Ck.valid ⟨latch, count, pre, hold, ctl, true, true, five, false, false, at_, wait, beats⟩ = true) := by unfold Hid Ck.valid; simp [h1, h3, h4, h5, h2]
    go_enter Tryd.func28, Tryd.ntmps28
    go_wp2
    go_quiet ((go_at_call 30; exact Calls.quiet_of_same (rdiv_any _ _ o5.1 o5.2)))
    go_wp2
    go_ret
    exact ⟨congrArg (fun x => Ending.returned (.bool x)) E.out.symm, _, rfl⟩
  · have E : Hid (Ck.valid ⟨latch, count, pre, hold, ctl, true, true, five, false, true, at_, wait, beats⟩ = true) := by unfold Hid Ck.valid; simp [h1, h3, h4, h5, h2]
    go_enter Tryd.func28, Tryd.ntmps28
    go_wp2
    go_quiet ((go_at_call 30; exact Calls.quiet_of_same (rdiv_any _ _ o5.1 o5.2)))
    go_wp2
    go_ret
    exact ⟨congrArg (fun x => Ending.returned (.bool x)) E.out.symm, _, rfl⟩
  · have E : Hid (Ck.valid ⟨latch, count, pre, hold, ctl, true, true, five, true, false, at_, wait, beats⟩ = true) := by unfold Hid Ck.valid; simp [h1, h3, h4, h5, h2]
    go_enter Tryd.func28, Tryd.ntmps28
    go_wp2
    go_quiet ((go_at_call 30; exact Calls.quiet_of_same (rdiv_any _ _ o5.1 o5.2)))
    go_wp2
    go_ret
    exact ⟨congrArg (fun x => Ending.returned (.bool x)) E.out.symm, _, rfl⟩
  · have E : Hid (Ck.valid ⟨latch, count, pre, hold, ctl, true, true, five, true, true, at_, wait, beats⟩ = false) := by unfold Hid Ck.valid; simp [h1, h3, h4, h5, h2]
    go_enter Tryd.func28, Tryd.ntmps28
    go_wp2
    go_quiet ((go_at_call 30; exact Calls.quiet_of_same (rdiv_any _ _ o5.1 o5.2)))
    go_wp2
    go_ret
    exact ⟨congrArg (fun x => Ending.returned (.bool x)) E.out.symm, _, rfl⟩
end Go.Proofs.YtobiiogoofkmaaaDoor
