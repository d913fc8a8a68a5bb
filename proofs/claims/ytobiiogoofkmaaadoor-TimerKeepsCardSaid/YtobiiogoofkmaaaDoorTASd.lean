/-
  What advanceSequencer comes to, way by way.
-/
import Derived.Test.YtobiiogoofkmaaaDoorTPass
set_option linter.unusedSimpArgs false
set_option linter.unusedVariables false
namespace Go.Proofs.YtobiiogoofkmaaaDoor
open Go.RowKit Classical
theorem plc_zero (five : Bool) : plc five 0 = 0 := by cases five <;> rfl
def Ck.sF (c : Ck) (n : Int) : Bool := c.frame || (c.asks && decide (c.toF ≤ n))
theorem advS_0 (c : Ck) (n : Int) (hw : c.wait = 0) (hn : 1 ≤ n) : c.advS n = { c with frame := c.sF n, beats := (c.beats + cnt c.five (plc c.five c.at_) n) % 64, at_ := (plc c.five c.at_ + n) % rdL c.five } := by
  unfold Ck.advS Ck.sF
  congr 1
  · rw [if_pos (.inl hw)]
  · rw [if_neg (by omega)]; exact hw.symm
  · rw [if_pos (.inl hw)]
theorem advS_l (c : Ck) (n : Int) (hw : n < c.wait) : c.advS n = { c with frame := c.sF n, beats := (c.beats + cnt c.five (plc c.five c.at_) n) % 64, at_ := (plc c.five c.at_ + n) % rdL c.five, wait := c.wait - n } := by
  unfold Ck.advS Ck.sF
  congr 1
  · rw [if_pos (.inr hw)]
  · rw [if_pos (by omega)]
  · rw [if_pos (.inr hw)]
theorem advS_e (c : Ck) (hw : 0 < c.wait) : c.advS c.wait = { c with frame := c.sF c.wait, beats := wb c.five ((c.beats + cnt c.five (plc c.five c.at_) c.wait) % 64), at_ := 0, wait := 0 } := by
  unfold Ck.advS Ck.sF
  congr 1
  · rw [if_neg (by omega), if_pos rfl]
  · rw [if_pos (by omega), Int.sub_self]
  · rw [if_neg (by omega), if_pos rfl]
theorem advS_g (c : Ck) (n : Int) (hw : 0 < c.wait) (hn : c.wait < n) : c.advS n = { c with frame := c.sF n, beats := (wb c.five ((c.beats + cnt c.five (plc c.five c.at_) c.wait) % 64) + cnt c.five 0 (n - c.wait)) % 64, at_ := (n - c.wait) % rdL c.five, wait := 0 } := by
  unfold Ck.advS Ck.sF
  congr 1
  · rw [if_neg (by omega), if_neg (by omega)]
  · rw [if_neg (by omega)]
  · rw [if_neg (by omega), if_neg (by omega)]
end Go.Proofs.YtobiiogoofkmaaaDoor
