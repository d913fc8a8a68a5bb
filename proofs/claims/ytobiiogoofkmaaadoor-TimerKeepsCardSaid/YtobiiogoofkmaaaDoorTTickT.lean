/-
  The contract of tickTimer; conditions: the numbers fit their kinds.
-/
import Derived.Test.YtobiiogoofkmaaaDoorTOut
set_option linter.unusedSimpArgs false
set_option linter.unusedVariables false
namespace Go.Proofs.YtobiiogoofkmaaaDoor
open Go.RowKit Classical
set_option maxHeartbeats 2000000 in
theorem tickT_any (c : Ck) (w0 w : World) (b : Nat) (o : c.Ok) (v : c.V) (T : DTab w0) (A : At w0 w b c) :
    Calls Tryd.prog 21 #[.pointer (some ⟨b, 0, none⟩)] w fun e w' => e = .returned (.tuple #[]) ∧ At w0 w' b c.tickT := by
  obtain ⟨f0, f1, f2, f3, f4, f5, f6, f7, f8, f9, f10, f11, f12, ff⟩ := A.facts
  have e1 := and1 c.ctl o.ctl.1 o.ctl.2
  have p0 := o.pre.1
  have p1 : c.pre ≤ 255 := by have := v.pre; have := dv_pos c.ctl; omega
  have q0 := o.count.1
  have q1 := o.count.2
  have AH : Hid _ := A
  clear A
  by_cases h1 : c.ctl % 2 = 0
  · have E : Hid (c.tickT = c) := by unfold Hid Ck.tickT; rw [if_pos h1]
    rw [h1] at e1
    clear h1
    go_enter Tryd.func21, Tryd.ntmps21
    go_wp2
    refine bodyPost_ret (v := .tuple #[]) (by simp [results, Tryd.results21]) rfl ⟨rfl, ?_⟩
    rw [E.out]; exact AH.out
  by_cases h2 : c.pre + 1 < dv c.ctl
  · have E : Hid (c.tickT = ({ c with pre := c.pre + 1 } : Ck)) := by unfold Hid Ck.tickT; rw [if_neg h1, if_pos h2]
    rw [show c.ctl % 2 = 1 by omega] at e1
    clear h1
    go_enter Tryd.func21, Tryd.ntmps21
    go_wp2
    go_quiet ((go_at_call 17; exact Calls.quiet_of_same (dividerOf_any _ _ o.ctl.1 o.ctl.2 (T.on (below_draws ((At.set (c' := ({ c with pre := c.pre + 1 } : Ck)) AH.out 2 (.int .u16 (c.pre + 1)) rfl)).bel _)))))
    go_wp2
    refine bodyPost_ret (v := .tuple #[]) (by simp [results, Tryd.results21]) rfl ⟨rfl, ?_⟩
    rw [E.out]; exact (((At.set (c' := ({ c with pre := c.pre + 1 } : Ck)) AH.out 2 (.int .u16 (c.pre + 1)) rfl)).drews _)
  by_cases h3 : 0 < c.count
  · have E : Hid (c.tickT = ({ c with pre := 0, count := c.count - 1 } : Ck)) := by unfold Hid Ck.tickT; rw [if_neg h1, if_neg h2, if_pos h3]
    rw [show c.ctl % 2 = 1 by omega] at e1
    clear h1
    go_enter Tryd.func21, Tryd.ntmps21
    go_wp2
    go_quiet ((go_at_call 17; exact Calls.quiet_of_same (dividerOf_any _ _ o.ctl.1 o.ctl.2 (T.on (below_draws ((At.set (c' := ({ c with pre := c.pre + 1 } : Ck)) AH.out 2 (.int .u16 (c.pre + 1)) rfl)).bel _)))))
    go_wp2
    refine bodyPost_ret (v := .tuple #[]) (by simp [results, Tryd.results21]) rfl ⟨rfl, ?_⟩
    rw [E.out]; exact (At.set (c' := ({ c with pre := 0, count := c.count - 1 } : Ck)) (At.set (c' := ({ c with pre := 0 } : Ck)) (((At.set (c' := ({ c with pre := c.pre + 1 } : Ck)) AH.out 2 (.int .u16 (c.pre + 1)) rfl)).drews _) 2 (.int .u16 (0)) rfl) 1 (.int .u16 (c.count - 1)) rfl)
  · have E : Hid (c.tickT = Ck.out { c with pre := 0 }) := by unfold Hid Ck.tickT; rw [if_neg h1, if_neg h2, if_neg h3]
    have h3' : c.count = 0 := by have := o.count; omega
    rw [h3'] at f1
    rw [show c.ctl % 2 = 1 by omega] at e1
    clear h1 h3 h3'
    go_enter Tryd.func21, Tryd.ntmps21
    go_wp2
    go_quiet ((go_at_call 17; exact Calls.quiet_of_same (dividerOf_any _ _ o.ctl.1 o.ctl.2 (T.on (below_draws ((At.set (c' := ({ c with pre := c.pre + 1 } : Ck)) AH.out 2 (.int .u16 (c.pre + 1)) rfl)).bel _)))))
    go_wp2_with (go_at_call 32; refine (out_any { c with pre := 0 } w0 _ b ⟨o.latch, o.count, by simp only; decide, o.hold, o.ctl, o.at_, o.wait, o.beats⟩ (At.set (c' := ({ c with pre := 0 } : Ck)) (((At.set (c' := ({ c with pre := c.pre + 1 } : Ck)) AH.out 2 (.int .u16 (c.pre + 1)) rfl)).drews _) 2 (.int .u16 (0)) rfl)).mono ?_; rintro e w2 ⟨rfl, A2⟩)
    go_end0
    exact ⟨rfl, by rw [E.out]; exact A2⟩
end Go.Proofs.YtobiiogoofkmaaaDoor
