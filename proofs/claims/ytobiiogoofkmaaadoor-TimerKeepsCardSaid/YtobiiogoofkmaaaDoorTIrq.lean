/-
  The contract of Irq; conditions: the table of the dividers lies in its variable, the numbers fit their kinds.
-/
import Derived.Test.YtobiiogoofkmaaaDoorTPtr
import Derived.Test.YtobiiogoofkmaaaDoorTRead0
set_option linter.unusedSimpArgs false
set_option linter.unusedVariables false
namespace Go.Proofs.YtobiiogoofkmaaaDoor
open Go.RowKit Classical
/-- The level of the interrupt line. -/
def Ck.irq (c : Ck) : Bool := c.valid && (c.frame || (c.flag && decide (c.ctl / 2 % 2 = 1)))
theorem below_c2 {B : Nat} {a w : World} (h : Below B a w) (hB : B ≤ w.heap.size) (o1 o2 : Obj) : Below B a ((w.alloc o1).alloc o2) := (h.alloc hB _).alloc (by simp; omega) _
set_option maxHeartbeats 2000000 in
theorem irq_true (c : Ck) (w : World) (o : c.Ok) (T : DTab w) (hv : c.valid = true) :
    Calls Tryd.prog 10 #[.agg c.cells] w fun e w' => e = .returned (.bool (c.frame || (c.flag && decide (c.ctl / 2 % 2 = 1)))) ∧ Below w.heap.size w w' := by
  have V : ∀ W, DTab W → Calls Tryd.prog 5 #[.agg c.cells] W fun e w' => e = .returned (.bool true) ∧ ∃ n, w' = (W.alloc (.cells c.cells 24)).drewN n := fun W hW => by
    have := valid_ex c W o hW
    rwa [hv] at this
  have e2 := and2 c.ctl o.ctl.1 o.ctl.2
  clear hv
  obtain ⟨latch, count, pre, hold, ctl, flag, over, five, inh, frame, at_, wait, beats⟩ := c
  have VH : Hid _ := V
  clear V
  unfold Ck.cells
  simp only at e2 ⊢
  by_cases hb : ctl / 2 % 2 = 1
  all_goals first | rw [if_pos hb] at e2 | rw [if_neg hb] at e2
  all_goals first | rw [decide_eq_true hb] | rw [decide_eq_false hb]
  all_goals clear hb
  all_goals cases frame <;> cases flag
  all_goals
    simp only [Bool.true_or, Bool.false_or, Bool.true_and, Bool.false_and]
    go_enter Tryd.func10, Tryd.ntmps10
    go_wp2_with (go_at_call 5; refine (VH.out _ (T.on ((Below.refl _ _).alloc (Nat.le_refl _) _))).mono ?_; rintro e w2 ⟨rfl, n, rfl⟩; rw [drewN_alloc, drewN_alloc]; have b1 : Below w.heap.size w (w.drewN n) := below_draws (Below.refl _ _) n; have z1 : w.heap.size ≤ (w.drewN n).heap.size := Nat.le_refl _; rw [drewN_size w n]; generalize w.drewN n = w1 at *)
    go_ret
    exact ⟨rfl, below_c2 b1 z1 _ _⟩
set_option maxHeartbeats 2000000 in
theorem irq_false (c : Ck) (w : World) (o : c.Ok) (T : DTab w) (hv : c.valid = false) :
    Calls Tryd.prog 10 #[.agg c.cells] w fun e w' => e = .returned (.bool (false)) ∧ Below w.heap.size w w' := by
  have V : ∀ W, DTab W → Calls Tryd.prog 5 #[.agg c.cells] W fun e w' => e = .returned (.bool false) ∧ ∃ n, w' = (W.alloc (.cells c.cells 24)).drewN n := fun W hW => by
    have := valid_ex c W o hW
    rwa [hv] at this
  have e2 := and2 c.ctl o.ctl.1 o.ctl.2
  clear hv
  obtain ⟨latch, count, pre, hold, ctl, flag, over, five, inh, frame, at_, wait, beats⟩ := c
  have VH : Hid _ := V
  clear V
  unfold Ck.cells
  simp only at e2 ⊢
  go_enter Tryd.func10, Tryd.ntmps10
  go_wp2_with (go_at_call 5; refine (VH.out _ (T.on ((Below.refl _ _).alloc (Nat.le_refl _) _))).mono ?_; rintro e w2 ⟨rfl, n, rfl⟩; rw [drewN_alloc, drewN_alloc]; have b1 : Below w.heap.size w (w.drewN n) := below_draws (Below.refl _ _) n; have z1 : w.heap.size ≤ (w.drewN n).heap.size := Nat.le_refl _; rw [drewN_size w n]; generalize w.drewN n = w1 at *)
  go_ret
  exact ⟨rfl, below_c2 b1 z1 _ _⟩
theorem irq_any (c : Ck) (w : World) (o : c.Ok) (T : DTab w) :
    Calls Tryd.prog 10 #[.agg c.cells] w fun e w' => e = .returned (.bool c.irq) ∧ Below w.heap.size w w' := by
  unfold Ck.irq
  cases hv : c.valid
  · rw [Bool.false_and]; exact irq_false c w o T hv
  · rw [Bool.true_and]; exact irq_true c w o T hv
end Go.Proofs.YtobiiogoofkmaaaDoor
