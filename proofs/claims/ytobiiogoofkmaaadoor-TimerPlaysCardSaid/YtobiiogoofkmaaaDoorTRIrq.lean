/-
  The document's Irq; conditions: the numbers fit their kinds.
-/
import Derived.Test.YtobiiogoofkmaaaDoorTIrq
import Derived.Test.YtobiiogoofkmaaaDoorTRValid
set_option linter.unusedSimpArgs false
set_option linter.unusedVariables false
namespace Go.Proofs.YtobiiogoofkmaaaDoor
open Go.RowKit Classical
set_option maxHeartbeats 2000000 in
theorem rirq_true (c : Ck) (w : World) (o : c.Ok) (hv : c.valid = true) :
    Calls Tryd.prog 15 #[.agg c.cells] w fun e w' => e = .returned (.bool (c.frame || (c.flag && decide (c.ctl / 2 % 2 = 1)))) ∧ Below w.heap.size w w' := by
  have V : ∀ W, Calls Tryd.prog 28 #[.agg c.cells] W fun e w' => e = .returned (.bool true) ∧ ∃ n, w' = (W.alloc (.cells c.cells 24)).drewN n := fun W => by
    have := rvalid_ex c W o
    rwa [hv] at this
  have k0 := o.ctl.1
  have k1 := o.ctl.2
  clear hv
  obtain ⟨latch, count, pre, hold, ctl, flag, over, five, inh, frame, at_, wait, beats⟩ := c
  have VH : Hid _ := V
  clear V
  unfold Ck.cells
  simp only at k0 k1 ⊢
  by_cases hb : ctl / 2 % 2 = 1
  all_goals cases frame <;> cases flag
  all_goals
    first | rw [decide_eq_true hb] | rw [decide_eq_false hb]
    first | (have hb' : (ctl / 2 % 2 == 1) = true := (by simpa using hb); clear hb) | (have hb' : (ctl / 2 % 2 == 1) = false := (by simpa using hb); clear hb)
    simp only [Bool.true_or, Bool.false_or, Bool.true_and, Bool.false_and]
    go_enter Tryd.func15, Tryd.ntmps15
    go_wp2_with (go_at_call 28; refine (VH.out _).mono ?_; rintro e w2 ⟨rfl, n, rfl⟩; rw [drewN_alloc, drewN_alloc]; have b1 : Below w.heap.size w (w.drewN n) := below_draws (Below.refl _ _) n; have z1 : w.heap.size ≤ (w.drewN n).heap.size := Nat.le_refl _; rw [drewN_size w n]; generalize w.drewN n = w1 at *)
    go_ret
    exact ⟨rfl, below_c2 b1 z1 _ _⟩
set_option maxHeartbeats 2000000 in
theorem rirq_false (c : Ck) (w : World) (o : c.Ok) (hv : c.valid = false) :
    Calls Tryd.prog 15 #[.agg c.cells] w fun e w' => e = .returned (.bool (false)) ∧ Below w.heap.size w w' := by
  have V : ∀ W, Calls Tryd.prog 28 #[.agg c.cells] W fun e w' => e = .returned (.bool false) ∧ ∃ n, w' = (W.alloc (.cells c.cells 24)).drewN n := fun W => by
    have := rvalid_ex c W o
    rwa [hv] at this
  have k0 := o.ctl.1
  have k1 := o.ctl.2
  clear hv
  obtain ⟨latch, count, pre, hold, ctl, flag, over, five, inh, frame, at_, wait, beats⟩ := c
  have VH : Hid _ := V
  clear V
  unfold Ck.cells
  simp only at k0 k1 ⊢
  go_enter Tryd.func15, Tryd.ntmps15
  go_wp2_with (go_at_call 28; refine (VH.out _).mono ?_; rintro e w2 ⟨rfl, n, rfl⟩; rw [drewN_alloc, drewN_alloc]; have b1 : Below w.heap.size w (w.drewN n) := below_draws (Below.refl _ _) n; have z1 : w.heap.size ≤ (w.drewN n).heap.size := Nat.le_refl _; rw [drewN_size w n]; generalize w.drewN n = w1 at *)
  go_ret
  exact ⟨rfl, below_c2 b1 z1 _ _⟩
theorem rirq_any (c : Ck) (w : World) (o : c.Ok) :
    Calls Tryd.prog 15 #[.agg c.cells] w fun e w' => e = .returned (.bool c.irq) ∧ Below w.heap.size w w' := by
  unfold Ck.irq
  cases hv : c.valid
  · rw [Bool.false_and]; exact rirq_false c w o hv
  · rw [Bool.true_and]; exact rirq_true c w o hv
end Go.Proofs.YtobiiogoofkmaaaDoor
