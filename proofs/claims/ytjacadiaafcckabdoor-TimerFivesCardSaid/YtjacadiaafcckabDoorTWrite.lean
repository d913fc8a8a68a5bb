/-
  The contract of Write; conditions: the table of the dividers lies in its variable, the numbers fit their kinds.
-/
import Derived.Test.YtjacadiaafcckabDoorTWrA
import Derived.Test.YtjacadiaafcckabDoorTWrB
import Derived.Test.YtjacadiaafcckabDoorTWrC
import Derived.Test.YtjacadiaafcckabDoorTWrD
import Derived.Test.YtjacadiaafcckabDoorTWrE
import Derived.Test.YtjacadiaafcckabDoorTWrF
set_option linter.unusedSimpArgs false
set_option linter.unusedVariables false
namespace Go.Proofs.YtjacadiaafcckabDoor
open Go.RowKit Classical
theorem write_any (c : Ck) (w : World) (a v cycle : Int) (o : c.Ok) (T : DTab w) (v0 : 0 ≤ v) (v1 : v ≤ 255) :
    Calls Tryd.prog 14 #[.agg c.cells, .int .u16 a, .int .u8 v, .int .i64 cycle] w fun e w' => e = .returned (.agg (c.wr a v cycle).cells) ∧ Below w.heap.size w w' := by
  unfold Ck.wr
  cases hv : c.valid
  · rw [if_pos rfl]; exact write_no c w v cycle o T hv v0 v1 a
  rw [if_neg (by decide)]
  by_cases h1 : a = 16407
  · subst h1; rw [if_pos rfl]; exact write_17 c w v cycle o T hv v0 v1
  rw [if_neg h1]
  by_cases h2 : a = 16408
  · subst h2; rw [if_pos rfl]; exact write_18 c w v cycle o T hv v0 v1
  rw [if_neg h2]
  by_cases h3 : a = 16409
  · subst h3; rw [if_pos rfl]; exact write_19 c w v cycle o T hv v0 v1
  rw [if_neg h3]
  by_cases h4 : a = 16410
  · subst h4; rw [if_pos rfl]
    by_cases h : 128 ≤ v
    · rw [if_pos h]; exact write_1a1 c w v cycle o T hv v0 v1 h
    · rw [if_neg h]; exact write_1a0 c w v cycle o T hv v0 v1 h
  rw [if_neg h4]
  by_cases h5 : a = 16411
  · subst h5; rw [if_pos rfl]; exact write_1b c w v cycle o T hv v0 v1
  rw [if_neg h5]
  exact write_other c w v cycle o T hv v0 v1 a (by simpa using h1) (by simpa using h2) (by simpa using h3) (by simpa using h4) (by simpa using h5)
end Go.Proofs.YtjacadiaafcckabDoor
