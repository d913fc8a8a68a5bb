/-
  The elder texts that the texts of Parse stand on, where Print and Check are wanted too; nothing of its own.
-/
import Derived.Test.YtpdbndkckioamaaDoorPar9
import Derived.Test.YtpdbndkckioamaaDoorPrtCode
import Derived.Test.YtpdbndkckioamaaDoorThrFill
import Derived.Test.YtpdbndkckioamaaDoorCopied
import Derived.Test.YtpdbndkckioamaaDoorSpan
import Derived.WalkKit
import Derived.WalkSpells
import Derived.WalkLawsBesides
import Derived.Laws.BitsAllLaws
import Derived.BigQuiet
import Derived.Deep.QuietTactic
import Derived.Deep.RegionHeld3
import Derived.BigRegion
import Derived.Deep.MidRow
import Derived.Deep.DeepCutAuto
import Derived.Laws.Bits64b
import Derived.OrdersHeld
import Derived.OwnWalk
import Derived.Laws.AppendOwn
import Derived.Laws.CopyOwn
import Derived.Lib.LazyBuf
import Derived.StillTailTactics
import Derived.Deep.Heap
import Derived.StillTactics
import Derived.Defers
import Derived.Recover
set_option linter.unusedSimpArgs false
set_option linter.unusedVariables false
namespace Go.Proofs.YtpdbndkckioamaaDoor
end Go.Proofs.YtpdbndkckioamaaDoor
