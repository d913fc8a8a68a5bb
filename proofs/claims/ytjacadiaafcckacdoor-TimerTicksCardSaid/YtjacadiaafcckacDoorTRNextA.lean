/-
  The document's Next, all ways; conditions: the numbers fit their kinds.
-/
import Derived.Test.YtjacadiaafcckacDoorTRNext
import Derived.Test.YtjacadiaafcckacDoorTNext
set_option linter.unusedSimpArgs false
set_option linter.unusedVariables false
namespace Go.Proofs.YtjacadiaafcckacDoor
open Go.RowKit Classical
theorem rnext_any (c : Ck) (w : World) (o : c.Ok) :
    Calls Tryd.prog 12 #[.agg c.cells] w fun e w' => e = .returned (.int .i64 c.nxt) ∧ Below w.heap.size w w' := by
  have tb := toF_bd c o
  have rb := run_le c o
  have kb := o.ctl
  cases hv : c.valid
  · rw [show c.nxt = 4611686018427387904 by unfold Ck.nxt; rw [if_pos hv]]; exact rnext_no c w o hv
  have nv : ¬ c.valid = false := by rw [hv]; decide
  cases hi : c.irq
  rotate_left
  · rw [show c.nxt = 0 by unfold Ck.nxt; rw [if_neg nv, if_pos hi]]; exact rnext_now c w o hv hi
  have ni : ¬ c.irq = true := by rw [hi]; decide
  have hc : c.ctl % 4 = 3 ↔ c.ctl % 2 = 1 ∧ c.ctl / 2 % 2 = 1 := by omega
  rcases (show c.five = false ∨ c.five = true by cases c.five <;> simp) with h5 | h5
  · rcases (show c.inh = false ∨ c.inh = true by cases c.inh <;> simp) with hh | hh
    · have hk : c.asks = true := by unfold Ck.asks; rw [h5, hh]; rfl
      by_cases h3 : c.ctl % 4 = 3
      · have e : c.nxt = min c.run c.toF := by unfold Ck.nxt Ck.nT Ck.nS; rw [if_neg nv, if_neg ni, if_pos (hc.1 h3), if_pos hk]
        by_cases hs : c.toF < c.run
        · rw [show c.nxt = c.toF by rw [e]; omega]; exact rnext_tsa c w o hv hi h5 hh h3 hs
        · rw [show c.nxt = c.run by rw [e]; omega]; exact rnext_tsb c w o hv hi h5 hh h3 hs
      · rw [show c.nxt = c.toF by unfold Ck.nxt Ck.nT Ck.nS; rw [if_neg nv, if_neg ni, if_neg (fun q => h3 (hc.2 q)), if_pos hk]; omega]; exact rnext_ns c w o hv hi h5 hh h3
    · have hk : ¬ c.asks = true := by unfold Ck.asks; rw [h5, hh]; decide
      by_cases h3 : c.ctl % 4 = 3
      · rw [show c.nxt = c.run by unfold Ck.nxt Ck.nT Ck.nS; rw [if_neg nv, if_neg ni, if_pos (hc.1 h3), if_neg hk]; omega]; exact rnext_ti c w o hv hi h5 hh h3
      · rw [show c.nxt = 4611686018427387904 by unfold Ck.nxt Ck.nT Ck.nS; rw [if_neg nv, if_neg ni, if_neg (fun q => h3 (hc.2 q)), if_neg hk]; rfl]; exact rnext_ni c w o hv hi h5 hh h3
  · have hk : ¬ c.asks = true := by unfold Ck.asks; rw [h5]; simp
    by_cases h3 : c.ctl % 4 = 3
    · rw [show c.nxt = c.run by unfold Ck.nxt Ck.nT Ck.nS; rw [if_neg nv, if_neg ni, if_pos (hc.1 h3), if_neg hk]; omega]; exact rnext_t5 c w o hv hi h5 h3
    · rw [show c.nxt = 4611686018427387904 by unfold Ck.nxt Ck.nT Ck.nS; rw [if_neg nv, if_neg ni, if_neg (fun q => h3 (hc.2 q)), if_neg hk]; rfl]; exact rnext_n5 c w o hv hi h5 h3
end Go.Proofs.YtjacadiaafcckacDoor
