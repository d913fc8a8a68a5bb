/-
  The contract of runOut; conditions: the numbers fit their kinds.
-/
import Derived.Test.YtobiiogoofkmaaaDoorTPtr
set_option linter.unusedSimpArgs false
set_option linter.unusedVariables false
namespace Go.Proofs.YtobiiogoofkmaaaDoor
open Go.RowKit Classical
set_option maxHeartbeats 1000000 in
theorem out_any (c : Ck) (w0 w : World) (b : Nat) (o : c.Ok) (A : At w0 w b c) :
    Calls Tryd.prog 32 #[.pointer (some ⟨b, 0, none⟩)] w fun e w' => e = .returned (.tuple #[]) ∧ At w0 w' b c.out := by
  obtain ⟨f0, f1, f2, f3, f4, f5, f6, f7, f8, f9, f10, f11, f12, ff⟩ := A.facts
  have e1 := and4 c.ctl o.ctl.1 o.ctl.2
  have e2 := andN1 c.ctl o.ctl.1 o.ctl.2
  have AH : Hid _ := A
  clear A
  cases hf : c.flag <;> by_cases h : c.ctl / 4 % 2 = 1
  · rw [hf] at f5
    rw [if_pos h] at e1
    have HF : Hid (c.flag = false) := hf
    have HH : Hid (c.ctl / 4 % 2 = 1) := h
    clear hf h
    go_enter Tryd.func32, Tryd.ntmps32
    go_wp2
    go_end0
    refine ⟨rfl, ?_⟩
    rw [show c.out = ({ c with flag := true, count := c.latch, ctl := c.ctl - c.ctl % 2 } : Ck) by unfold Ck.out; rw [HF.out, if_pos HH.out, Bool.or_false]]
    exact (At.set (c' := ({ c with flag := true, count := c.latch, ctl := c.ctl - c.ctl % 2 } : Ck)) (At.set (c' := ({ c with flag := true, count := c.latch } : Ck)) (At.set (c' := ({ c with flag := true } : Ck)) AH.out 5 (.bool (true)) rfl) 1 (.int .u16 (c.latch)) rfl) 4 (.int .u8 (c.ctl - c.ctl % 2)) rfl)
  · rw [hf] at f5
    rw [if_neg h] at e1
    have HF : Hid (c.flag = false) := hf
    have HH : Hid (¬ c.ctl / 4 % 2 = 1) := h
    clear hf h
    go_enter Tryd.func32, Tryd.ntmps32
    go_wp2
    go_end0
    refine ⟨rfl, ?_⟩
    rw [show c.out = ({ c with flag := true, count := c.latch } : Ck) by unfold Ck.out; rw [HF.out, if_neg HH.out, Bool.or_false]]
    exact (At.set (c' := ({ c with flag := true, count := c.latch } : Ck)) (At.set (c' := ({ c with flag := true } : Ck)) AH.out 5 (.bool (true)) rfl) 1 (.int .u16 (c.latch)) rfl)
  · rw [hf] at f5
    rw [if_pos h] at e1
    have HF : Hid (c.flag = true) := hf
    have HH : Hid (c.ctl / 4 % 2 = 1) := h
    clear hf h
    go_enter Tryd.func32, Tryd.ntmps32
    go_wp2
    go_end0
    refine ⟨rfl, ?_⟩
    rw [show c.out = ({ c with over := true, flag := true, count := c.latch, ctl := c.ctl - c.ctl % 2 } : Ck) by unfold Ck.out; rw [HF.out, if_pos HH.out, Bool.or_true]]
    exact (At.set (c' := ({ c with over := true, flag := true, count := c.latch, ctl := c.ctl - c.ctl % 2 } : Ck)) (At.set (c' := ({ c with over := true, flag := true, count := c.latch } : Ck)) (At.set (c' := ({ c with over := true, flag := true } : Ck)) (At.set (c' := ({ c with over := true } : Ck)) AH.out 6 (.bool (true)) rfl) 5 (.bool (true)) rfl) 1 (.int .u16 (c.latch)) rfl) 4 (.int .u8 (c.ctl - c.ctl % 2)) rfl)
  · rw [hf] at f5
    rw [if_neg h] at e1
    have HF : Hid (c.flag = true) := hf
    have HH : Hid (¬ c.ctl / 4 % 2 = 1) := h
    clear hf h
    go_enter Tryd.func32, Tryd.ntmps32
    go_wp2
    go_end0
    refine ⟨rfl, ?_⟩
    rw [show c.out = ({ c with over := true, flag := true, count := c.latch } : Ck) by unfold Ck.out; rw [HF.out, if_neg HH.out, Bool.or_true]]
    exact (At.set (c' := ({ c with over := true, flag := true, count := c.latch } : Ck)) (At.set (c' := ({ c with over := true, flag := true } : Ck)) (At.set (c' := ({ c with over := true } : Ck)) AH.out 6 (.bool (true)) rfl) 5 (.bool (true)) rfl) 1 (.int .u16 (c.latch)) rfl)
end Go.Proofs.YtobiiogoofkmaaaDoor
