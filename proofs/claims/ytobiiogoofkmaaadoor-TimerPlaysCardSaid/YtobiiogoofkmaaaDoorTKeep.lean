/-
  What reads and writes keep of a clock, as plain facts; no condition but that the numbers fit their kinds.
-/
import Derived.Test.YtobiiogoofkmaaaDoorTRead0
import Derived.Test.YtobiiogoofkmaaaDoorTWrite0
import Derived.Test.YtobiiogoofkmaaaDoorTIrq
set_option linter.unusedSimpArgs false
set_option linter.unusedVariables false
namespace Go.Proofs.YtobiiogoofkmaaaDoor
theorem fl_bd (b : Bool) (n : Int) (h : 0 ≤ n) : 0 ≤ fl b n ∧ fl b n ≤ n := by unfold fl; cases b <;> simp <;> omega
theorem Ck.V.of_valid {c : Ck} (h : c.valid = true) : c.V := (Ck.valid_iff c).1 h
theorem Ck.rC_ok {c : Ck} (o : c.Ok) (a : Int) : (c.rC a).Ok ∧ (c.rC a).valid = c.valid := by
  unfold Ck.rC
  split
  · exact ⟨o, rfl⟩
  · rename_i hv
    have hv' : c.valid = true := by simpa using hv
    have v := Ck.V.of_valid hv'
    split
    · exact ⟨⟨o.latch, o.count, o.pre, o.hold, o.ctl, o.at_, o.wait, o.beats⟩, by rw [hv']; exact (Ck.valid_iff _).2 ⟨v.ctl, v.pre, v.at_, v.wait, v.beats, v.over, fun _ => rfl⟩⟩
    split
    · have := o.count
      exact ⟨⟨o.latch, o.count, o.pre, by show 0 ≤ c.count / 256 ∧ c.count / 256 ≤ 255; omega, o.ctl, o.at_, o.wait, o.beats⟩, by rw [hv']; exact (Ck.valid_iff _).2 ⟨v.ctl, v.pre, v.at_, v.wait, v.beats, v.over, v.frame⟩⟩
    split
    · exact ⟨⟨o.latch, o.count, o.pre, o.hold, o.ctl, o.at_, o.wait, o.beats⟩, by rw [hv']; exact (Ck.valid_iff _).2 ⟨v.ctl, v.pre, v.at_, v.wait, v.beats, fun h => absurd (show false = true from h) (by decide), v.frame⟩⟩
    · exact ⟨o, rfl⟩
theorem Ck.wr_ok {c : Ck} (o : c.Ok) (a v cy : Int) (v0 : 0 ≤ v) (v1 : v ≤ 255) : (c.wr a v cy).Ok ∧ (c.wr a v cy).valid = c.valid := by
  unfold Ck.wr
  split
  · exact ⟨o, rfl⟩
  · rename_i hv
    have hv' : c.valid = true := by simpa using hv
    have w := Ck.V.of_valid hv'
    have ol := o.latch
    split
    · refine ⟨⟨o.latch, o.count, o.pre, o.hold, o.ctl, o.at_, ?_, o.beats⟩, ?_⟩
      · show 0 ≤ (if cy % 2 = 0 then (3 : Int) else 4) ∧ (if cy % 2 = 0 then (3 : Int) else 4) ≤ 255
        split <;> decide
      · rw [hv']
        refine (Ck.valid_iff _).2 ⟨w.ctl, w.pre, w.at_, ?_, w.beats, w.over, fun h => ?_⟩
        · show (if cy % 2 = 0 then (3 : Int) else 4) ≤ 4
          split <;> decide
        · show (c.frame && !decide (v / 64 % 2 = 1)) = false
          rw [show decide (v / 64 % 2 = 1) = true from h]
          simp
    split
    · exact ⟨⟨by show 0 ≤ c.latch / 256 * 256 + v ∧ c.latch / 256 * 256 + v ≤ 65535; omega, o.count, o.pre, o.hold, o.ctl, o.at_, o.wait, o.beats⟩, by rw [hv']; exact (Ck.valid_iff _).2 ⟨w.ctl, w.pre, w.at_, w.wait, w.beats, w.over, w.frame⟩⟩
    split
    · exact ⟨⟨by show 0 ≤ c.latch % 256 + v * 256 ∧ c.latch % 256 + v * 256 ≤ 65535; omega, o.count, o.pre, o.hold, o.ctl, o.at_, o.wait, o.beats⟩, by rw [hv']; exact (Ck.valid_iff _).2 ⟨w.ctl, w.pre, w.at_, w.wait, w.beats, w.over, w.frame⟩⟩
    split
    · have hp := dv_pos (v % 32)
      refine ⟨⟨o.latch, ?_, by show (0 : Int) ≤ 0 ∧ (0 : Int) ≤ 65535; decide, o.hold, by show 0 ≤ v % 32 ∧ v % 32 ≤ 255; omega, o.at_, o.wait, o.beats⟩, ?_⟩
      · show 0 ≤ (if 128 ≤ v then c.latch else c.count) ∧ (if 128 ≤ v then c.latch else c.count) ≤ 65535
        have := o.count
        split <;> omega
      · rw [hv']
        exact (Ck.valid_iff _).2 ⟨by show v % 32 ≤ 31; omega, by show (0 : Int) < dv (v % 32); omega, w.at_, w.wait, w.beats, w.over, w.frame⟩
    split
    · exact ⟨⟨o.latch, o.count, o.pre, o.hold, o.ctl, o.at_, o.wait, o.beats⟩, by rw [hv']; exact (Ck.valid_iff _).2 ⟨w.ctl, w.pre, w.at_, w.wait, w.beats, fun h => absurd (show false = true from h) (by decide), w.frame⟩⟩
    · exact ⟨o, rfl⟩
end Go.Proofs.YtobiiogoofkmaaaDoor
