/-
  NARROWER THAN 'FOR EVERY INPUT', by the rows' own cells (each row's printed sentence says how): TimerKeeps: laid · TimerPlays: laid.
  DERIVED. THE GIVEN ROWS OF THIS SEAT. 2 by the template 'for every input the law returns true; each argument reads behind the call as it read before'; 0 by the template 'total and deterministic' (their statements: YtobiiogoofkmaaaDoorTotals.lean).
  GIVEN WITH THE SEED: the statements are not yours to turn. If you find one false, say at which input.
  Laid BY PROGRAM, IN A SANDBOX (cutbox-rows.mjs): the forced cells as the released guide's own fill.sh prints them over the translation 795b91e12b6f0e4f… (all of the seat's roots in one cut). By AI agents, Wed Nov 11 2026. No macro, syntax, notation, axiom, sorry.
-/
import Derived.Test.YtobiiogoofkmaaaDoorChecked
import GoSem.Claim
import GoSem.ClaimJoined
import GoSem.ClaimMapViews
import Derived.JoinedTies
import Derived.KernelRfl
namespace Go.Proofs.YtobiiogoofkmaaaDoor
/- THE CELL 'sum', in the pinned program and in every row, IS THE sha256 OF THE DUMP (.gsa) THAT YtobiiogoofkmaaaDoorProg.lean LOADS. Nothing in Lean hashes anything: it is a label: what it is worth is what the hold of that sum in a sandbox is worth. -/
noncomputable def Tryd.pinned : Pinned := { name := "ytobiiogoofkmaaadoor", sum := "795b91e12b6f0e4fcd6e46a75227e35ab8baf00d563462c2c0964ea0fcb585ef", checked := Tryd.checked }
namespace Rows
def none {H : Type} : Left H := { results := [], args := [] }

/- WHAT THE LISTED PACKAGE-LEVEL VARIABLES READ AS WHEN THE CALL BEGINS. Each datum BY PROGRAM (the guide's laid-datum.mjs) off the statement by which the dump's own 'gosem.cut.vars' lays the variable. In a bare row this is a premise. The card (YtobiiogoofkmaaaDoorCards.lean) ties it to the program's text. -/
def laid_tandem_timer_dividers {H : Type} : DataW H := .agg [.lit (.int .u16 1), .lit (.int .u16 8), .lit (.int .u16 64), .lit (.int .u16 256)]
def laid_tandem_timer_fourBeats {H : Type} : DataW H := .agg [.lit (.int .u16 7457), .lit (.int .u16 14913), .lit (.int .u16 22371), .lit (.int .u16 29829)]
def laid_tandem_timer_fiveBeats {H : Type} : DataW H := .agg [.lit (.int .u16 7457), .lit (.int .u16 14913), .lit (.int .u16 22371), .lit (.int .u16 37281)]
def laid_tandem_timer_frames {H : Type} : DataW H := .agg [.lit (.int .u16 29828), .lit (.int .u16 29829), .lit (.int .u16 29830)]
def laid_tandem_timer_rounds {H : Type} : DataW H := .agg [.lit (.int .u16 29830), .lit (.int .u16 37282)]

/-- 'tandemlaw6.TimerKeeps': WHATEVER THE INPUT: true; the input reads as it did. -/
def timerKeepsSpec : ChangeSpec := { name := "timerKeeps", fn := fun _ => fun
  | [d1, d2, d3, d4, d5] => { results := [.lit (.bool true)], args := [d1, d2, d3, d4, d5] }
  | _ => none }
def timerKeepsRow : OpenClaim := { program := "ytobiiogoofkmaaadoor", sum := "795b91e12b6f0e4fcd6e46a75227e35ab8baf00d563462c2c0964ea0fcb585ef", func := "tandem/tandemlaw6.TimerKeeps", spec := "timerKeeps", named := ["tandem/timer.dividers", "tandem/timer.frames", "tandem/timer.fiveBeats", "tandem/timer.fourBeats", "tandem/timer.rounds"], apart := false, laid := [("tandem/timer.dividers", laid_tandem_timer_dividers), ("tandem/timer.fourBeats", laid_tandem_timer_fourBeats), ("tandem/timer.fiveBeats", laid_tandem_timer_fiveBeats), ("tandem/timer.frames", laid_tandem_timer_frames), ("tandem/timer.rounds", laid_tandem_timer_rounds)] }
def TimerKeepsSaid : Prop := timerKeepsRow.holds Tryd.pinned (OpenSpec.ofChange timerKeepsSpec)

/-- ITS FALSE NEIGHBOUR: 'it returns false'. Refute it at one input. -/
def timerKeepsWrong : ChangeSpec := { name := "timerKeeps", fn := fun _ => fun
  | [d1, d2, d3, d4, d5] => { results := [.lit (.bool false)], args := [d1, d2, d3, d4, d5] }
  | _ => none }
def TimerKeepsWrongFalsely : Prop := timerKeepsRow.holds Tryd.pinned (OpenSpec.ofChange timerKeepsWrong)

/-- 'tandemlaw6.TimerPlays': WHATEVER THE INPUT: true; the input reads as it did. -/
def timerPlaysSpec : ChangeSpec := { name := "timerPlays", fn := fun _ => fun
  | [d] => { results := [.lit (.bool true)], args := [d] }
  | _ => none }
def timerPlaysRow : OpenClaim := { program := "ytobiiogoofkmaaadoor", sum := "795b91e12b6f0e4fcd6e46a75227e35ab8baf00d563462c2c0964ea0fcb585ef", func := "tandem/tandemlaw6.TimerPlays", spec := "timerPlays", named := ["tandem/timer.dividers", "tandem/timer.frames", "tandem/timer.rounds", "tandem/timer.fiveBeats", "tandem/timer.fourBeats"], apart := false, laid := [("tandem/timer.dividers", laid_tandem_timer_dividers), ("tandem/timer.fourBeats", laid_tandem_timer_fourBeats), ("tandem/timer.fiveBeats", laid_tandem_timer_fiveBeats), ("tandem/timer.frames", laid_tandem_timer_frames), ("tandem/timer.rounds", laid_tandem_timer_rounds)] }
def TimerPlaysSaid : Prop := timerPlaysRow.holds Tryd.pinned (OpenSpec.ofChange timerPlaysSpec)

/-- ITS FALSE NEIGHBOUR: 'it returns false'. Refute it at one input. -/
def timerPlaysWrong : ChangeSpec := { name := "timerPlays", fn := fun _ => fun
  | [d] => { results := [.lit (.bool false)], args := [d] }
  | _ => none }
def TimerPlaysWrongFalsely : Prop := timerPlaysRow.holds Tryd.pinned (OpenSpec.ofChange timerPlaysWrong)

/- THE SECOND FORM. 'bulk': how many values and letters a reading holds, each counted each time it is reached (what is shared counts as often as it is met; a slice's spare places count too). A statement '..UptoSaid' is the law's where the arguments, and the package variables that the reading takes, are together of bulk at most 1048576: NARROWER than '..Said'. Prove '..Said' where nothing that the law and all that it calls make is longer than what came in: it says more and counts as full. Else prove '..UptoSaid'. A law counts once. -/
mutual
def uptoBulk {H : Type} : DataW H → Nat
  | .lit (.string bytes) => bytes.length + 1
  | .lit _ => 1
  | .nil => 1
  | .ptr d => uptoBulk d + 1
  | .slice elems spare => uptoBulkAll elems + uptoBulkAll spare + 1
  | .agg parts => uptoBulkAll parts + 1
  | .iface _ d => uptoBulk d + 1
  | .map entries => uptoBulkEntries entries + 1
  | .held _ => 1
def uptoBulkAll {H : Type} : List (DataW H) → Nat
  | [] => 0
  | d :: r => uptoBulk d + uptoBulkAll r
def uptoBulkEntries {H : Type} : List (Lit × DataW H) → Nat
  | [] => 0
  | x :: r => uptoBulkEntry x + uptoBulkEntries r
def uptoBulkEntry {H : Type} : Lit × DataW H → Nat
  | (.string bytes, d) => bytes.length + uptoBulk d + 1
  | (_, d) => uptoBulk d + 1
 end
def uptoSmall : (H : Type) → List (DataW H) → Bool := fun _ ds => decide (uptoBulkAll ds ≤ 1048576)
def OpenSpec.upto (s : _root_.Go.ChangeSpec) : _root_.Go.OpenSpec := { _root_.Go.OpenSpec.ofChange s with cond := some uptoSmall }

/-- 'tandemlaw6.TimerKeeps', WHERE WHAT IT READS IS OF BULK AT MOST 1048576: true; the input reads as it did. -/
def timerKeepsUptoRow : OpenClaim := { program := "ytobiiogoofkmaaadoor", sum := "795b91e12b6f0e4fcd6e46a75227e35ab8baf00d563462c2c0964ea0fcb585ef", func := "tandem/tandemlaw6.TimerKeeps", spec := "timerKeeps", named := ["tandem/timer.dividers", "tandem/timer.frames", "tandem/timer.fiveBeats", "tandem/timer.fourBeats", "tandem/timer.rounds"], apart := false, laid := [("tandem/timer.dividers", laid_tandem_timer_dividers), ("tandem/timer.fourBeats", laid_tandem_timer_fourBeats), ("tandem/timer.fiveBeats", laid_tandem_timer_fiveBeats), ("tandem/timer.frames", laid_tandem_timer_frames), ("tandem/timer.rounds", laid_tandem_timer_rounds)], narrowed := true }
def TimerKeepsUptoSaid : Prop := timerKeepsUptoRow.holds Tryd.pinned (OpenSpec.upto timerKeepsSpec)

/-- 'tandemlaw6.TimerPlays', WHERE WHAT IT READS IS OF BULK AT MOST 1048576: true; the input reads as it did. -/
def timerPlaysUptoRow : OpenClaim := { program := "ytobiiogoofkmaaadoor", sum := "795b91e12b6f0e4fcd6e46a75227e35ab8baf00d563462c2c0964ea0fcb585ef", func := "tandem/tandemlaw6.TimerPlays", spec := "timerPlays", named := ["tandem/timer.dividers", "tandem/timer.frames", "tandem/timer.rounds", "tandem/timer.fiveBeats", "tandem/timer.fourBeats"], apart := false, laid := [("tandem/timer.dividers", laid_tandem_timer_dividers), ("tandem/timer.fourBeats", laid_tandem_timer_fourBeats), ("tandem/timer.fiveBeats", laid_tandem_timer_fiveBeats), ("tandem/timer.frames", laid_tandem_timer_frames), ("tandem/timer.rounds", laid_tandem_timer_rounds)], narrowed := true }
def TimerPlaysUptoSaid : Prop := timerPlaysUptoRow.holds Tryd.pinned (OpenSpec.upto timerPlaysSpec)

end Rows
end Go.Proofs.YtobiiogoofkmaaaDoor
