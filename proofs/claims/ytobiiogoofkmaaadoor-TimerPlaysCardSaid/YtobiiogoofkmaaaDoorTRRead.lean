/-
  The document's Read; conditions: the numbers fit their kinds.
-/
import Derived.Test.YtobiiogoofkmaaaDoorTRRdN
import Derived.Test.YtobiiogoofkmaaaDoorTRRdO
import Derived.Test.YtobiiogoofkmaaaDoorTRRd5
import Derived.Test.YtobiiogoofkmaaaDoorTRRd8
import Derived.Test.YtobiiogoofkmaaaDoorTRRd9
import Derived.Test.YtobiiogoofkmaaaDoorTRRdA
import Derived.Test.YtobiiogoofkmaaaDoorTRRdB
set_option linter.unusedSimpArgs false
set_option linter.unusedVariables false
namespace Go.Proofs.YtobiiogoofkmaaaDoor
open Go.RowKit Classical
theorem rread_any (c : Ck) (w : World) (a : Int) (o : c.Ok) :
    Calls Tryd.prog 12 #[.agg c.cells, .int .u16 a] w fun e w' => e = .returned (.tuple #[.int .u8 (c.rV a), .int .u8 (c.rM a), .agg (c.rC a).cells]) ∧ Below w.heap.size w w' := by
  cases hv : c.valid
  · rw [show c.rV a = 0 by simp [Ck.rV, hv], show c.rM a = 0 by simp [Ck.rM, hv], show c.rC a = c by simp [Ck.rC, hv]]; exact rread_no c w o hv a
  by_cases h1 : a = 16405
  · subst h1; rw [show c.rV 16405 = fl c.flag 128 + fl c.frame 64 by simp [Ck.rV, hv], show c.rM 16405 = 192 by simp [Ck.rM, hv], show c.rC 16405 = { c with frame := false } by simp [Ck.rC, hv]]; exact rread_15 c w o hv
  by_cases h2 : a = 16408
  · subst h2; rw [show c.rV 16408 = c.count % 256 by simp [Ck.rV, hv], show c.rM 16408 = 255 by simp [Ck.rM, hv], show c.rC 16408 = { c with hold := c.count / 256 } by simp [Ck.rC, hv]]; exact rread_18 c w o hv
  by_cases h3 : a = 16409
  · subst h3; rw [show c.rV 16409 = c.hold by simp [Ck.rV, hv], show c.rM 16409 = 255 by simp [Ck.rM, hv], show c.rC 16409 = c by simp [Ck.rC, hv]]; exact rread_19 c w o hv
  by_cases h4 : a = 16410
  · subst h4; rw [show c.rV 16410 = c.ctl + fl c.flag 128 by simp [Ck.rV, hv], show c.rM 16410 = 159 by simp [Ck.rM, hv], show c.rC 16410 = c by simp [Ck.rC, hv]]; exact rread_1a c w o hv
  by_cases h5 : a = 16411
  · subst h5; rw [show c.rV 16411 = fl c.flag 128 + fl c.over 64 + c.beats by simp [Ck.rV, hv], show c.rM 16411 = 255 by simp [Ck.rM, hv], show c.rC 16411 = c.ack by simp [Ck.rC, hv]]; exact rread_1b c w o hv
  rw [show c.rV a = 0 by simp [Ck.rV, h1, h2, h3, h4, h5], show c.rM a = 0 by simp [Ck.rM, h1, h2, h3, h4, h5], show c.rC a = c by simp [Ck.rC, h1, h2, h5]]
  exact rread_other c w o hv a (by simpa using h1) (by simpa using h2) (by simpa using h3) (by simpa using h4) (by simpa using h5)
end Go.Proofs.YtobiiogoofkmaaaDoor
