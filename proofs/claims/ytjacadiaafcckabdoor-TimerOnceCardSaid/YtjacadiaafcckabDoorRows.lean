/-
  NARROWER THAN 'FOR EVERY INPUT', by the rows' own cells (each row's printed sentence says how): TimerOnce: laid · TimerNexts: laid · TimerFrames: laid · TimerFives: laid · TimerKeeps: laid · TimerAdvances: laid.
  DERIVED. THE GIVEN ROWS OF THIS SEAT. 6 by the template 'for every input the law returns true; each argument reads behind the call as it read before'; 0 by the template 'total and deterministic' (their statements: YtjacadiaafcckabDoorTotals.lean).
  GIVEN WITH THE SEED: the statements are not yours to turn. If you find one false, say at which input.
  Laid BY PROGRAM, IN A SANDBOX (cutbox-rows.mjs): the forced cells as the released guide's own fill.sh prints them over the translation c83e31aaae496a4e… (all of the seat's roots in one cut). By AI agents, Wed Nov 11 2026. No macro, syntax, notation, axiom, sorry.
-/
import Derived.Test.YtjacadiaafcckabDoorChecked
import GoSem.Claim
import GoSem.ClaimJoined
import GoSem.ClaimMapViews
import Derived.JoinedTies
import Derived.KernelRfl
namespace Go.Proofs.YtjacadiaafcckabDoor
/- THE CELL 'sum', in the pinned program and in every row, IS THE sha256 OF THE DUMP (.gsa) THAT YtjacadiaafcckabDoorProg.lean LOADS. Nothing in Lean hashes anything: it is a label: what it is worth is what the hold of that sum in a sandbox is worth. -/
noncomputable def Tryd.pinned : Pinned := { name := "ytjacadiaafcckabdoor", sum := "c83e31aaae496a4e25a263bad76d645f11356779701a773abbd85f000592039b", checked := Tryd.checked }
namespace Rows
def none {H : Type} : Left H := { results := [], args := [] }

/- WHAT THE LISTED PACKAGE-LEVEL VARIABLES READ AS WHEN THE CALL BEGINS. Each datum BY PROGRAM (the guide's laid-datum.mjs) off the statement by which the dump's own 'gosem.cut.vars' lays the variable. In a bare row this is a premise. The card (YtjacadiaafcckabDoorCards.lean) ties it to the program's text. -/
def laid_tandem_timer_dividers {H : Type} : DataW H := .agg [.lit (.int .u16 1), .lit (.int .u16 8), .lit (.int .u16 64), .lit (.int .u16 256)]
def laid_tandem_timer_fourBeats {H : Type} : DataW H := .agg [.lit (.int .u16 7457), .lit (.int .u16 14913), .lit (.int .u16 22371), .lit (.int .u16 29829)]
def laid_tandem_timer_fiveBeats {H : Type} : DataW H := .agg [.lit (.int .u16 7457), .lit (.int .u16 14913), .lit (.int .u16 22371), .lit (.int .u16 37281)]
def laid_tandem_timer_frames {H : Type} : DataW H := .agg [.lit (.int .u16 29828), .lit (.int .u16 29829), .lit (.int .u16 29830)]
def laid_tandem_timer_rounds {H : Type} : DataW H := .agg [.lit (.int .u16 29830), .lit (.int .u16 37282)]

/-- 'tandemlaw6.TimerOnce': WHATEVER THE INPUT: true; the input reads as it did. -/
def timerOnceSpec : ChangeSpec := { name := "timerOnce", fn := fun _ => fun
  | [d1, d2, d3] => { results := [.lit (.bool true)], args := [d1, d2, d3] }
  | _ => none }
def timerOnceRow : OpenClaim := { program := "ytjacadiaafcckabdoor", sum := "c83e31aaae496a4e25a263bad76d645f11356779701a773abbd85f000592039b", func := "tandem/tandemlaw6.TimerOnce", spec := "timerOnce", named := ["tandem/timer.dividers", "tandem/timer.frames", "tandem/timer.rounds", "tandem/timer.fiveBeats", "tandem/timer.fourBeats"], apart := false, laid := [("tandem/timer.dividers", laid_tandem_timer_dividers), ("tandem/timer.fourBeats", laid_tandem_timer_fourBeats), ("tandem/timer.fiveBeats", laid_tandem_timer_fiveBeats), ("tandem/timer.frames", laid_tandem_timer_frames), ("tandem/timer.rounds", laid_tandem_timer_rounds)] }
def TimerOnceSaid : Prop := timerOnceRow.holds Tryd.pinned (OpenSpec.ofChange timerOnceSpec)

/-- ITS FALSE NEIGHBOUR: 'it returns false'. Refute it at one input. -/
def timerOnceWrong : ChangeSpec := { name := "timerOnce", fn := fun _ => fun
  | [d1, d2, d3] => { results := [.lit (.bool false)], args := [d1, d2, d3] }
  | _ => none }
def TimerOnceWrongFalsely : Prop := timerOnceRow.holds Tryd.pinned (OpenSpec.ofChange timerOnceWrong)

/-- 'tandemlaw6.TimerNexts': WHATEVER THE INPUT: true; the input reads as it did. -/
def timerNextsSpec : ChangeSpec := { name := "timerNexts", fn := fun _ => fun
  | [d1, d2] => { results := [.lit (.bool true)], args := [d1, d2] }
  | _ => none }
def timerNextsRow : OpenClaim := { program := "ytjacadiaafcckabdoor", sum := "c83e31aaae496a4e25a263bad76d645f11356779701a773abbd85f000592039b", func := "tandem/tandemlaw6.TimerNexts", spec := "timerNexts", named := ["tandem/timer.dividers", "tandem/timer.frames", "tandem/timer.rounds", "tandem/timer.fiveBeats", "tandem/timer.fourBeats"], apart := false, laid := [("tandem/timer.dividers", laid_tandem_timer_dividers), ("tandem/timer.fourBeats", laid_tandem_timer_fourBeats), ("tandem/timer.fiveBeats", laid_tandem_timer_fiveBeats), ("tandem/timer.frames", laid_tandem_timer_frames), ("tandem/timer.rounds", laid_tandem_timer_rounds)] }
def TimerNextsSaid : Prop := timerNextsRow.holds Tryd.pinned (OpenSpec.ofChange timerNextsSpec)

/-- ITS FALSE NEIGHBOUR: 'it returns false'. Refute it at one input. -/
def timerNextsWrong : ChangeSpec := { name := "timerNexts", fn := fun _ => fun
  | [d1, d2] => { results := [.lit (.bool false)], args := [d1, d2] }
  | _ => none }
def TimerNextsWrongFalsely : Prop := timerNextsRow.holds Tryd.pinned (OpenSpec.ofChange timerNextsWrong)

/-- 'tandemlaw6.TimerFrames': WHATEVER THE INPUT: true; the input reads as it did. -/
def timerFramesSpec : ChangeSpec := { name := "timerFrames", fn := fun _ => fun
  | [d1, d2, d3] => { results := [.lit (.bool true)], args := [d1, d2, d3] }
  | _ => none }
def timerFramesRow : OpenClaim := { program := "ytjacadiaafcckabdoor", sum := "c83e31aaae496a4e25a263bad76d645f11356779701a773abbd85f000592039b", func := "tandem/tandemlaw6.TimerFrames", spec := "timerFrames", named := ["tandem/timer.dividers", "tandem/timer.frames", "tandem/timer.rounds", "tandem/timer.fiveBeats", "tandem/timer.fourBeats"], apart := false, laid := [("tandem/timer.dividers", laid_tandem_timer_dividers), ("tandem/timer.fourBeats", laid_tandem_timer_fourBeats), ("tandem/timer.fiveBeats", laid_tandem_timer_fiveBeats), ("tandem/timer.frames", laid_tandem_timer_frames), ("tandem/timer.rounds", laid_tandem_timer_rounds)] }
def TimerFramesSaid : Prop := timerFramesRow.holds Tryd.pinned (OpenSpec.ofChange timerFramesSpec)

/-- ITS FALSE NEIGHBOUR: 'it returns false'. Refute it at one input. -/
def timerFramesWrong : ChangeSpec := { name := "timerFrames", fn := fun _ => fun
  | [d1, d2, d3] => { results := [.lit (.bool false)], args := [d1, d2, d3] }
  | _ => none }
def TimerFramesWrongFalsely : Prop := timerFramesRow.holds Tryd.pinned (OpenSpec.ofChange timerFramesWrong)

/-- 'tandemlaw6.TimerFives': WHATEVER THE INPUT: true; the input reads as it did. -/
def timerFivesSpec : ChangeSpec := { name := "timerFives", fn := fun _ => fun
  | [d1, d2, d3] => { results := [.lit (.bool true)], args := [d1, d2, d3] }
  | _ => none }
def timerFivesRow : OpenClaim := { program := "ytjacadiaafcckabdoor", sum := "c83e31aaae496a4e25a263bad76d645f11356779701a773abbd85f000592039b", func := "tandem/tandemlaw6.TimerFives", spec := "timerFives", named := ["tandem/timer.dividers", "tandem/timer.frames", "tandem/timer.rounds", "tandem/timer.fiveBeats", "tandem/timer.fourBeats"], apart := false, laid := [("tandem/timer.dividers", laid_tandem_timer_dividers), ("tandem/timer.fourBeats", laid_tandem_timer_fourBeats), ("tandem/timer.fiveBeats", laid_tandem_timer_fiveBeats), ("tandem/timer.frames", laid_tandem_timer_frames), ("tandem/timer.rounds", laid_tandem_timer_rounds)] }
def TimerFivesSaid : Prop := timerFivesRow.holds Tryd.pinned (OpenSpec.ofChange timerFivesSpec)

/-- ITS FALSE NEIGHBOUR: 'it returns false'. Refute it at one input. -/
def timerFivesWrong : ChangeSpec := { name := "timerFives", fn := fun _ => fun
  | [d1, d2, d3] => { results := [.lit (.bool false)], args := [d1, d2, d3] }
  | _ => none }
def TimerFivesWrongFalsely : Prop := timerFivesRow.holds Tryd.pinned (OpenSpec.ofChange timerFivesWrong)

/-- 'tandemlaw6.TimerKeeps': WHATEVER THE INPUT: true; the input reads as it did. -/
def timerKeepsSpec : ChangeSpec := { name := "timerKeeps", fn := fun _ => fun
  | [d1, d2, d3, d4, d5] => { results := [.lit (.bool true)], args := [d1, d2, d3, d4, d5] }
  | _ => none }
def timerKeepsRow : OpenClaim := { program := "ytjacadiaafcckabdoor", sum := "c83e31aaae496a4e25a263bad76d645f11356779701a773abbd85f000592039b", func := "tandem/tandemlaw6.TimerKeeps", spec := "timerKeeps", named := ["tandem/timer.dividers", "tandem/timer.frames", "tandem/timer.fiveBeats", "tandem/timer.fourBeats", "tandem/timer.rounds"], apart := false, laid := [("tandem/timer.dividers", laid_tandem_timer_dividers), ("tandem/timer.fourBeats", laid_tandem_timer_fourBeats), ("tandem/timer.fiveBeats", laid_tandem_timer_fiveBeats), ("tandem/timer.frames", laid_tandem_timer_frames), ("tandem/timer.rounds", laid_tandem_timer_rounds)] }
def TimerKeepsSaid : Prop := timerKeepsRow.holds Tryd.pinned (OpenSpec.ofChange timerKeepsSpec)

/-- ITS FALSE NEIGHBOUR: 'it returns false'. Refute it at one input. -/
def timerKeepsWrong : ChangeSpec := { name := "timerKeeps", fn := fun _ => fun
  | [d1, d2, d3, d4, d5] => { results := [.lit (.bool false)], args := [d1, d2, d3, d4, d5] }
  | _ => none }
def TimerKeepsWrongFalsely : Prop := timerKeepsRow.holds Tryd.pinned (OpenSpec.ofChange timerKeepsWrong)

/-- 'tandemlaw6.TimerAdvances': WHATEVER THE INPUT: true; the input reads as it did. -/
def timerAdvancesSpec : ChangeSpec := { name := "timerAdvances", fn := fun _ => fun
  | [d1, d2] => { results := [.lit (.bool true)], args := [d1, d2] }
  | _ => none }
def timerAdvancesRow : OpenClaim := { program := "ytjacadiaafcckabdoor", sum := "c83e31aaae496a4e25a263bad76d645f11356779701a773abbd85f000592039b", func := "tandem/tandemlaw6.TimerAdvances", spec := "timerAdvances", named := ["tandem/timer.dividers", "tandem/timer.frames", "tandem/timer.rounds", "tandem/timer.fiveBeats", "tandem/timer.fourBeats"], apart := false, laid := [("tandem/timer.dividers", laid_tandem_timer_dividers), ("tandem/timer.fourBeats", laid_tandem_timer_fourBeats), ("tandem/timer.fiveBeats", laid_tandem_timer_fiveBeats), ("tandem/timer.frames", laid_tandem_timer_frames), ("tandem/timer.rounds", laid_tandem_timer_rounds)] }
def TimerAdvancesSaid : Prop := timerAdvancesRow.holds Tryd.pinned (OpenSpec.ofChange timerAdvancesSpec)

/-- ITS FALSE NEIGHBOUR: 'it returns false'. Refute it at one input. -/
def timerAdvancesWrong : ChangeSpec := { name := "timerAdvances", fn := fun _ => fun
  | [d1, d2] => { results := [.lit (.bool false)], args := [d1, d2] }
  | _ => none }
def TimerAdvancesWrongFalsely : Prop := timerAdvancesRow.holds Tryd.pinned (OpenSpec.ofChange timerAdvancesWrong)

/- THE SECOND FORM. 'bulk': how many values and letters a reading holds, each counted each time it is reached (what is shared counts as often as it is met; a slice's spare places count too). A statement '..UptoSaid' is the law's where the arguments, and the package variables that the reading takes, are together of bulk at most 1048576: NARROWER than '..Said'. Prove '..Said' where nothing that the law and all that it calls make is longer than what came in: it says more and counts as full. Else prove '..UptoSaid'. A law counts once. -/
mutual
def uptoBulk {H : Type} : DataW H → Nat
  | .lit (.string bytes) => bytes.length + 1
  | .lit _ => 1
  | .nil => 1
  | .ptr d => uptoBulk d + 1
  | .slice elems spare => uptoBulkAll elems + uptoBulkAll spare + 1
  | .agg parts => uptoBulkAll parts + 1
  | .iface _ d => uptoBulk d + 1
  | .map entries => uptoBulkEntries entries + 1
  | .held _ => 1
def uptoBulkAll {H : Type} : List (DataW H) → Nat
  | [] => 0
  | d :: r => uptoBulk d + uptoBulkAll r
def uptoBulkEntries {H : Type} : List (Lit × DataW H) → Nat
  | [] => 0
  | x :: r => uptoBulkEntry x + uptoBulkEntries r
def uptoBulkEntry {H : Type} : Lit × DataW H → Nat
  | (.string bytes, d) => bytes.length + uptoBulk d + 1
  | (_, d) => uptoBulk d + 1
 end
def uptoSmall : (H : Type) → List (DataW H) → Bool := fun _ ds => decide (uptoBulkAll ds ≤ 1048576)
def OpenSpec.upto (s : _root_.Go.ChangeSpec) : _root_.Go.OpenSpec := { _root_.Go.OpenSpec.ofChange s with cond := some uptoSmall }

/-- 'tandemlaw6.TimerOnce', WHERE WHAT IT READS IS OF BULK AT MOST 1048576: true; the input reads as it did. -/
def timerOnceUptoRow : OpenClaim := { program := "ytjacadiaafcckabdoor", sum := "c83e31aaae496a4e25a263bad76d645f11356779701a773abbd85f000592039b", func := "tandem/tandemlaw6.TimerOnce", spec := "timerOnce", named := ["tandem/timer.dividers", "tandem/timer.frames", "tandem/timer.rounds", "tandem/timer.fiveBeats", "tandem/timer.fourBeats"], apart := false, laid := [("tandem/timer.dividers", laid_tandem_timer_dividers), ("tandem/timer.fourBeats", laid_tandem_timer_fourBeats), ("tandem/timer.fiveBeats", laid_tandem_timer_fiveBeats), ("tandem/timer.frames", laid_tandem_timer_frames), ("tandem/timer.rounds", laid_tandem_timer_rounds)], narrowed := true }
def TimerOnceUptoSaid : Prop := timerOnceUptoRow.holds Tryd.pinned (OpenSpec.upto timerOnceSpec)

/-- 'tandemlaw6.TimerNexts', WHERE WHAT IT READS IS OF BULK AT MOST 1048576: true; the input reads as it did. -/
def timerNextsUptoRow : OpenClaim := { program := "ytjacadiaafcckabdoor", sum := "c83e31aaae496a4e25a263bad76d645f11356779701a773abbd85f000592039b", func := "tandem/tandemlaw6.TimerNexts", spec := "timerNexts", named := ["tandem/timer.dividers", "tandem/timer.frames", "tandem/timer.rounds", "tandem/timer.fiveBeats", "tandem/timer.fourBeats"], apart := false, laid := [("tandem/timer.dividers", laid_tandem_timer_dividers), ("tandem/timer.fourBeats", laid_tandem_timer_fourBeats), ("tandem/timer.fiveBeats", laid_tandem_timer_fiveBeats), ("tandem/timer.frames", laid_tandem_timer_frames), ("tandem/timer.rounds", laid_tandem_timer_rounds)], narrowed := true }
def TimerNextsUptoSaid : Prop := timerNextsUptoRow.holds Tryd.pinned (OpenSpec.upto timerNextsSpec)

/-- 'tandemlaw6.TimerFrames', WHERE WHAT IT READS IS OF BULK AT MOST 1048576: true; the input reads as it did. -/
def timerFramesUptoRow : OpenClaim := { program := "ytjacadiaafcckabdoor", sum := "c83e31aaae496a4e25a263bad76d645f11356779701a773abbd85f000592039b", func := "tandem/tandemlaw6.TimerFrames", spec := "timerFrames", named := ["tandem/timer.dividers", "tandem/timer.frames", "tandem/timer.rounds", "tandem/timer.fiveBeats", "tandem/timer.fourBeats"], apart := false, laid := [("tandem/timer.dividers", laid_tandem_timer_dividers), ("tandem/timer.fourBeats", laid_tandem_timer_fourBeats), ("tandem/timer.fiveBeats", laid_tandem_timer_fiveBeats), ("tandem/timer.frames", laid_tandem_timer_frames), ("tandem/timer.rounds", laid_tandem_timer_rounds)], narrowed := true }
def TimerFramesUptoSaid : Prop := timerFramesUptoRow.holds Tryd.pinned (OpenSpec.upto timerFramesSpec)

/-- 'tandemlaw6.TimerFives', WHERE WHAT IT READS IS OF BULK AT MOST 1048576: true; the input reads as it did. -/
def timerFivesUptoRow : OpenClaim := { program := "ytjacadiaafcckabdoor", sum := "c83e31aaae496a4e25a263bad76d645f11356779701a773abbd85f000592039b", func := "tandem/tandemlaw6.TimerFives", spec := "timerFives", named := ["tandem/timer.dividers", "tandem/timer.frames", "tandem/timer.rounds", "tandem/timer.fiveBeats", "tandem/timer.fourBeats"], apart := false, laid := [("tandem/timer.dividers", laid_tandem_timer_dividers), ("tandem/timer.fourBeats", laid_tandem_timer_fourBeats), ("tandem/timer.fiveBeats", laid_tandem_timer_fiveBeats), ("tandem/timer.frames", laid_tandem_timer_frames), ("tandem/timer.rounds", laid_tandem_timer_rounds)], narrowed := true }
def TimerFivesUptoSaid : Prop := timerFivesUptoRow.holds Tryd.pinned (OpenSpec.upto timerFivesSpec)

/-- 'tandemlaw6.TimerKeeps', WHERE WHAT IT READS IS OF BULK AT MOST 1048576: true; the input reads as it did. -/
def timerKeepsUptoRow : OpenClaim := { program := "ytjacadiaafcckabdoor", sum := "c83e31aaae496a4e25a263bad76d645f11356779701a773abbd85f000592039b", func := "tandem/tandemlaw6.TimerKeeps", spec := "timerKeeps", named := ["tandem/timer.dividers", "tandem/timer.frames", "tandem/timer.fiveBeats", "tandem/timer.fourBeats", "tandem/timer.rounds"], apart := false, laid := [("tandem/timer.dividers", laid_tandem_timer_dividers), ("tandem/timer.fourBeats", laid_tandem_timer_fourBeats), ("tandem/timer.fiveBeats", laid_tandem_timer_fiveBeats), ("tandem/timer.frames", laid_tandem_timer_frames), ("tandem/timer.rounds", laid_tandem_timer_rounds)], narrowed := true }
def TimerKeepsUptoSaid : Prop := timerKeepsUptoRow.holds Tryd.pinned (OpenSpec.upto timerKeepsSpec)

/-- 'tandemlaw6.TimerAdvances', WHERE WHAT IT READS IS OF BULK AT MOST 1048576: true; the input reads as it did. -/
def timerAdvancesUptoRow : OpenClaim := { program := "ytjacadiaafcckabdoor", sum := "c83e31aaae496a4e25a263bad76d645f11356779701a773abbd85f000592039b", func := "tandem/tandemlaw6.TimerAdvances", spec := "timerAdvances", named := ["tandem/timer.dividers", "tandem/timer.frames", "tandem/timer.rounds", "tandem/timer.fiveBeats", "tandem/timer.fourBeats"], apart := false, laid := [("tandem/timer.dividers", laid_tandem_timer_dividers), ("tandem/timer.fourBeats", laid_tandem_timer_fourBeats), ("tandem/timer.fiveBeats", laid_tandem_timer_fiveBeats), ("tandem/timer.frames", laid_tandem_timer_frames), ("tandem/timer.rounds", laid_tandem_timer_rounds)], narrowed := true }
def TimerAdvancesUptoSaid : Prop := timerAdvancesUptoRow.holds Tryd.pinned (OpenSpec.upto timerAdvancesSpec)

end Rows
end Go.Proofs.YtjacadiaafcckabDoor
