/-
  The document's beat; conditions: the numbers fit their kinds.
-/
import Derived.Test.YtobiiogoofkmaaaDoorTRead0
set_option linter.unusedSimpArgs false
set_option linter.unusedVariables false
namespace Go.Proofs.YtobiiogoofkmaaaDoor
open Go.RowKit Classical
set_option maxHeartbeats 1000000 in
theorem rbeat_ex (c : Ck) (w : World) (b0 : 0 ≤ c.beats) (b1 : c.beats ≤ 63) :
    Calls Tryd.prog 43 #[.agg c.cells] w fun e w' => e = .returned (.agg ({ c with beats := (c.beats + 1) % 64 } : Ck).cells) ∧ w' = (w.alloc (.cells ({ c with beats := (c.beats + 1) % 64 } : Ck).cells 24)).alloc (.cells ({ c with beats := (c.beats + 1) % 64 } : Ck).cells 24) := by
  obtain ⟨latch, count, pre, hold, ctl, flag, over, five, inh, frame, at_, wait, beats⟩ := c
  unfold Ck.cells
  simp only at b0 b1 ⊢
  go_enter Tryd.func43, Tryd.ntmps43
  go_wp2
  refine bodyPost_ret (by simp [results, Tryd.results43, go_sem]) rfl ⟨rfl, rfl⟩
theorem rbeat_any (c : Ck) (w : World) (b0 : 0 ≤ c.beats) (b1 : c.beats ≤ 63) :
    Calls Tryd.prog 43 #[.agg c.cells] w fun e w' => e = .returned (.agg ({ c with beats := (c.beats + 1) % 64 } : Ck).cells) ∧ Below w.heap.size w w' :=
  (rbeat_ex c w b0 b1).mono fun e w' ⟨he, hw⟩ => ⟨he, by subst hw; exact below_a2 _ _ _⟩
end Go.Proofs.YtobiiogoofkmaaaDoor
