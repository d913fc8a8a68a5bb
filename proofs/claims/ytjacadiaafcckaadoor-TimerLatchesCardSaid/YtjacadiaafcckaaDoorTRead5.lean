/-
  The contract of Read; conditions: the table of the dividers lies in its variable, the numbers fit their kinds.
-/
import Derived.Test.YtjacadiaafcckaaDoorTRead0
set_option linter.unusedSimpArgs false
set_option linter.unusedVariables false
namespace Go.Proofs.YtjacadiaafcckaaDoor
open Go.RowKit Classical
set_option maxHeartbeats 8000000 in
theorem read_15 (c : Ck) (w : World) (o : c.Ok) (T : DTab w) (hv : c.valid = true) :
    Calls Tryd.prog 9 #[.agg c.cells, .int .u16 16405] w fun e w' => e = .returned (.tuple #[.int .u8 (fl c.flag 128 + fl c.frame 64), .int .u8 192, .agg ({ c with frame := false }).cells]) ∧ Below w.heap.size w w' := by
  have V : ∀ W, DTab W → Calls Tryd.prog 15 #[.agg c.cells] W fun e w' => e = .returned (.bool true) ∧ ∃ n, w' = (W.alloc (.cells c.cells 24)).drewN n := fun W hW => by
    have := valid_ex c W o hW
    rwa [hv] at this
  clear hv
  obtain ⟨latch, count, pre, hold, ctl, flag, over, five, inh, frame, at_, wait, beats⟩ := c
  have VH : Hid _ := V
  clear V
  unfold Ck.cells
  simp only [Ck.ack]
  have e1 : bits .or .u8 128 64 = 192 := by decide
  have e2 : bits .or .u8 128 0 = 128 := by decide
  have e3 : bits .or .u8 0 64 = 64 := by decide
  have e4 : bits .or .u8 0 0 = 0 := by decide
  cases flag <;> cases frame
  all_goals
    simp only [fl, Bool.false_eq_true, if_false, if_true]
    go_enter Tryd.func9, Tryd.ntmps9
    go_wp2_with (go_at_call 15; refine (VH.out _ (T.on (below_a2 _ _ _))).mono ?_; rintro e w2 ⟨rfl, n, rfl⟩; rw [drewN_alloc, drewN_alloc, drewN_alloc]; have b1 : Below w.heap.size w (w.drewN n) := below_draws (Below.refl _ _) n; have z1 : w.heap.size ≤ (w.drewN n).heap.size := Nat.le_refl _; rw [drewN_size w n]; generalize w.drewN n = w1 at *)
    go_quiet ((go_at_call 20; exact Calls.quiet_of_same (when_any _ _ _)))
    rw [drewN_alloc, drewN_alloc, drewN_alloc]; have b2 : Below w.heap.size w (w1.drewN nq) := below_draws b1 nq; have z2 : w.heap.size ≤ (w1.drewN nq).heap.size := z1; rw [drewN_size w1 nq]; generalize w1.drewN nq = w3 at *
    go_wp2
    go_region
    go_wp2
    refine bodyPost_ret (by simp [results, Tryd.results9, go_sem]) rfl ⟨rfl, ?_⟩
    exact (below_c3 b2 z2 _ _ _).drew
end Go.Proofs.YtjacadiaafcckaaDoor
