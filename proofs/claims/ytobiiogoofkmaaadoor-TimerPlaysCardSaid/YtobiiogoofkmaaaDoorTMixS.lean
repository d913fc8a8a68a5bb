/-
  What a cycle of the timer keeps of the sequencer.
-/
import Derived.Test.YtobiiogoofkmaaaDoorTBase
set_option linter.unusedSimpArgs false
set_option linter.unusedVariables false
namespace Go.Proofs.YtobiiogoofkmaaaDoor
open Go.RowKit Classical
theorem tickT_s (s : Ck) : s.tickT.five = s.five ∧ s.tickT.inh = s.inh ∧ s.tickT.frame = s.frame ∧ s.tickT.at_ = s.at_ ∧ s.tickT.wait = s.wait ∧ s.tickT.beats = s.beats := by
  unfold Ck.tickT
  split
  · exact ⟨rfl, rfl, rfl, rfl, rfl, rfl⟩
  split
  · exact ⟨rfl, rfl, rfl, rfl, rfl, rfl⟩
  split <;> exact ⟨rfl, rfl, rfl, rfl, rfl, rfl⟩
end Go.Proofs.YtobiiogoofkmaaaDoor
