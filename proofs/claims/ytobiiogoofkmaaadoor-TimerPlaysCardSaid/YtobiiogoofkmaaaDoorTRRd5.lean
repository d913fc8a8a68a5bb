/-
  The document's Read; conditions: the numbers fit their kinds.
-/
import Derived.Test.YtobiiogoofkmaaaDoorTRead0
import Derived.Test.YtobiiogoofkmaaaDoorTRValid
set_option linter.unusedSimpArgs false
set_option linter.unusedVariables false
namespace Go.Proofs.YtobiiogoofkmaaaDoor
open Go.RowKit Classical
set_option maxHeartbeats 8000000 in
theorem rread_15 (c : Ck) (w : World) (o : c.Ok) (hv : c.valid = true) :
    Calls Tryd.prog 12 #[.agg c.cells, .int .u16 16405] w fun e w' => e = .returned (.tuple #[.int .u8 (fl c.flag 128 + fl c.frame 64), .int .u8 192, .agg ({ c with frame := false }).cells]) ∧ Below w.heap.size w w' := by
  have V : ∀ W, Calls Tryd.prog 28 #[.agg c.cells] W fun e w' => e = .returned (.bool true) ∧ ∃ n, w' = (W.alloc (.cells c.cells 24)).drewN n := fun W => by
    have := rvalid_ex c W o
    rwa [hv] at this
  clear hv
  obtain ⟨latch, count, pre, hold, ctl, flag, over, five, inh, frame, at_, wait, beats⟩ := c
  have VH : Hid _ := V
  clear V
  unfold Ck.cells
  simp only [Ck.ack]
  cases flag <;> cases frame <;> cases over
  all_goals
    simp only [fl, Bool.false_eq_true, if_false, if_true]
    go_enter Tryd.func12, Tryd.ntmps12
    go_wp2_with (go_at_call 28; refine (VH.out _).mono ?_; rintro e w2 ⟨rfl, n, rfl⟩; rw [drewN_alloc, drewN_alloc, drewN_alloc]; have b1 : Below w.heap.size w (w.drewN n) := below_draws (Below.refl _ _) n; have z1 : w.heap.size ≤ (w.drewN n).heap.size := Nat.le_refl _; rw [drewN_size w n]; generalize w.drewN n = w1 at *)
    go_region
    go_wp2
    refine bodyPost_ret (by simp [results, Tryd.results12, go_sem]) rfl ⟨rfl, ?_⟩
    exact (below_c3 b1 z1 _ _ _).drew
end Go.Proofs.YtobiiogoofkmaaaDoor
