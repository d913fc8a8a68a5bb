/-
  NARROWER THAN 'FOR EVERY INPUT', by the rows' own cells (each row's printed sentence says how): TimerReads: laid · TimerWrites: laid · TimerSums: laid · TimerApart: laid · TimerLatches: laid · TimerPeriods: laid.
  DERIVED. THE GIVEN ROWS OF THIS SEAT. 6 by the template 'for every input the law returns true; each argument reads behind the call as it read before'; 0 by the template 'total and deterministic' (their statements: YtjacadiaafcckaaDoorTotals.lean).
  GIVEN WITH THE SEED: the statements are not yours to turn. If you find one false, say at which input.
  Laid BY PROGRAM, IN A SANDBOX (cutbox-rows.mjs): the forced cells as the released guide's own fill.sh prints them over the translation a167258a001a8d1c… (all of the seat's roots in one cut). By AI agents, Wed Nov 11 2026. No macro, syntax, notation, axiom, sorry.
-/
import Derived.Test.YtjacadiaafcckaaDoorChecked
import GoSem.Claim
import GoSem.ClaimJoined
import GoSem.ClaimMapViews
import Derived.JoinedTies
import Derived.KernelRfl
namespace Go.Proofs.YtjacadiaafcckaaDoor
/- THE CELL 'sum', in the pinned program and in every row, IS THE sha256 OF THE DUMP (.gsa) THAT YtjacadiaafcckaaDoorProg.lean LOADS. Nothing in Lean hashes anything: it is a label: what it is worth is what the hold of that sum in a sandbox is worth. -/
noncomputable def Tryd.pinned : Pinned := { name := "ytjacadiaafcckaadoor", sum := "a167258a001a8d1c0426a80c8eaee531b434aa657b334cec1ca24c9d5cfe0c90", checked := Tryd.checked }
namespace Rows
def none {H : Type} : Left H := { results := [], args := [] }

/- WHAT THE LISTED PACKAGE-LEVEL VARIABLES READ AS WHEN THE CALL BEGINS. Each datum BY PROGRAM (the guide's laid-datum.mjs) off the statement by which the dump's own 'gosem.cut.vars' lays the variable. In a bare row this is a premise. The card (YtjacadiaafcckaaDoorCards.lean) ties it to the program's text. -/
def laid_tandem_timer_dividers {H : Type} : DataW H := .agg [.lit (.int .u16 1), .lit (.int .u16 8), .lit (.int .u16 64), .lit (.int .u16 256)]
def laid_tandem_timer_fourBeats {H : Type} : DataW H := .agg [.lit (.int .u16 7457), .lit (.int .u16 14913), .lit (.int .u16 22371), .lit (.int .u16 29829)]
def laid_tandem_timer_fiveBeats {H : Type} : DataW H := .agg [.lit (.int .u16 7457), .lit (.int .u16 14913), .lit (.int .u16 22371), .lit (.int .u16 37281)]
def laid_tandem_timer_frames {H : Type} : DataW H := .agg [.lit (.int .u16 29828), .lit (.int .u16 29829), .lit (.int .u16 29830)]
def laid_tandem_timer_rounds {H : Type} : DataW H := .agg [.lit (.int .u16 29830), .lit (.int .u16 37282)]

/-- 'tandemlaw6.TimerReads': WHATEVER THE INPUT: true; the input reads as it did. -/
def timerReadsSpec : ChangeSpec := { name := "timerReads", fn := fun _ => fun
  | [d1, d2] => { results := [.lit (.bool true)], args := [d1, d2] }
  | _ => none }
def timerReadsRow : OpenClaim := { program := "ytjacadiaafcckaadoor", sum := "a167258a001a8d1c0426a80c8eaee531b434aa657b334cec1ca24c9d5cfe0c90", func := "tandem/tandemlaw6.TimerReads", spec := "timerReads", named := ["tandem/timer.dividers"], apart := false, laid := [("tandem/timer.dividers", laid_tandem_timer_dividers)] }
def TimerReadsSaid : Prop := timerReadsRow.holds Tryd.pinned (OpenSpec.ofChange timerReadsSpec)

/-- ITS FALSE NEIGHBOUR: 'it returns false'. Refute it at one input. -/
def timerReadsWrong : ChangeSpec := { name := "timerReads", fn := fun _ => fun
  | [d1, d2] => { results := [.lit (.bool false)], args := [d1, d2] }
  | _ => none }
def TimerReadsWrongFalsely : Prop := timerReadsRow.holds Tryd.pinned (OpenSpec.ofChange timerReadsWrong)

/-- 'tandemlaw6.TimerWrites': WHATEVER THE INPUT: true; the input reads as it did. -/
def timerWritesSpec : ChangeSpec := { name := "timerWrites", fn := fun _ => fun
  | [d1, d2, d3, d4] => { results := [.lit (.bool true)], args := [d1, d2, d3, d4] }
  | _ => none }
def timerWritesRow : OpenClaim := { program := "ytjacadiaafcckaadoor", sum := "a167258a001a8d1c0426a80c8eaee531b434aa657b334cec1ca24c9d5cfe0c90", func := "tandem/tandemlaw6.TimerWrites", spec := "timerWrites", named := ["tandem/timer.dividers"], apart := false, laid := [("tandem/timer.dividers", laid_tandem_timer_dividers)] }
def TimerWritesSaid : Prop := timerWritesRow.holds Tryd.pinned (OpenSpec.ofChange timerWritesSpec)

/-- ITS FALSE NEIGHBOUR: 'it returns false'. Refute it at one input. -/
def timerWritesWrong : ChangeSpec := { name := "timerWrites", fn := fun _ => fun
  | [d1, d2, d3, d4] => { results := [.lit (.bool false)], args := [d1, d2, d3, d4] }
  | _ => none }
def TimerWritesWrongFalsely : Prop := timerWritesRow.holds Tryd.pinned (OpenSpec.ofChange timerWritesWrong)

/-- 'tandemlaw6.TimerSums': WHATEVER THE INPUT: true; the input reads as it did. -/
def timerSumsSpec : ChangeSpec := { name := "timerSums", fn := fun _ => fun
  | [d1, d2, d3] => { results := [.lit (.bool true)], args := [d1, d2, d3] }
  | _ => none }
def timerSumsRow : OpenClaim := { program := "ytjacadiaafcckaadoor", sum := "a167258a001a8d1c0426a80c8eaee531b434aa657b334cec1ca24c9d5cfe0c90", func := "tandem/tandemlaw6.TimerSums", spec := "timerSums", named := ["tandem/timer.dividers", "tandem/timer.frames", "tandem/timer.rounds", "tandem/timer.fiveBeats", "tandem/timer.fourBeats"], apart := false, laid := [("tandem/timer.dividers", laid_tandem_timer_dividers), ("tandem/timer.fourBeats", laid_tandem_timer_fourBeats), ("tandem/timer.fiveBeats", laid_tandem_timer_fiveBeats), ("tandem/timer.frames", laid_tandem_timer_frames), ("tandem/timer.rounds", laid_tandem_timer_rounds)] }
def TimerSumsSaid : Prop := timerSumsRow.holds Tryd.pinned (OpenSpec.ofChange timerSumsSpec)

/-- ITS FALSE NEIGHBOUR: 'it returns false'. Refute it at one input. -/
def timerSumsWrong : ChangeSpec := { name := "timerSums", fn := fun _ => fun
  | [d1, d2, d3] => { results := [.lit (.bool false)], args := [d1, d2, d3] }
  | _ => none }
def TimerSumsWrongFalsely : Prop := timerSumsRow.holds Tryd.pinned (OpenSpec.ofChange timerSumsWrong)

/-- 'tandemlaw6.TimerApart': WHATEVER THE INPUT: true; the input reads as it did. -/
def timerApartSpec : ChangeSpec := { name := "timerApart", fn := fun _ => fun
  | [d1, d2, d3] => { results := [.lit (.bool true)], args := [d1, d2, d3] }
  | _ => none }
def timerApartRow : OpenClaim := { program := "ytjacadiaafcckaadoor", sum := "a167258a001a8d1c0426a80c8eaee531b434aa657b334cec1ca24c9d5cfe0c90", func := "tandem/tandemlaw6.TimerApart", spec := "timerApart", named := ["tandem/timer.dividers", "tandem/timer.frames", "tandem/timer.rounds", "tandem/timer.fiveBeats", "tandem/timer.fourBeats"], apart := false, laid := [("tandem/timer.dividers", laid_tandem_timer_dividers), ("tandem/timer.fourBeats", laid_tandem_timer_fourBeats), ("tandem/timer.fiveBeats", laid_tandem_timer_fiveBeats), ("tandem/timer.frames", laid_tandem_timer_frames), ("tandem/timer.rounds", laid_tandem_timer_rounds)] }
def TimerApartSaid : Prop := timerApartRow.holds Tryd.pinned (OpenSpec.ofChange timerApartSpec)

/-- ITS FALSE NEIGHBOUR: 'it returns false'. Refute it at one input. -/
def timerApartWrong : ChangeSpec := { name := "timerApart", fn := fun _ => fun
  | [d1, d2, d3] => { results := [.lit (.bool false)], args := [d1, d2, d3] }
  | _ => none }
def TimerApartWrongFalsely : Prop := timerApartRow.holds Tryd.pinned (OpenSpec.ofChange timerApartWrong)

/-- 'tandemlaw6.TimerLatches': WHATEVER THE INPUT: true; the input reads as it did. -/
def timerLatchesSpec : ChangeSpec := { name := "timerLatches", fn := fun _ => fun
  | [d1, d2] => { results := [.lit (.bool true)], args := [d1, d2] }
  | _ => none }
def timerLatchesRow : OpenClaim := { program := "ytjacadiaafcckaadoor", sum := "a167258a001a8d1c0426a80c8eaee531b434aa657b334cec1ca24c9d5cfe0c90", func := "tandem/tandemlaw6.TimerLatches", spec := "timerLatches", named := ["tandem/timer.dividers", "tandem/timer.frames", "tandem/timer.rounds", "tandem/timer.fiveBeats", "tandem/timer.fourBeats"], apart := false, laid := [("tandem/timer.dividers", laid_tandem_timer_dividers), ("tandem/timer.fourBeats", laid_tandem_timer_fourBeats), ("tandem/timer.fiveBeats", laid_tandem_timer_fiveBeats), ("tandem/timer.frames", laid_tandem_timer_frames), ("tandem/timer.rounds", laid_tandem_timer_rounds)] }
def TimerLatchesSaid : Prop := timerLatchesRow.holds Tryd.pinned (OpenSpec.ofChange timerLatchesSpec)

/-- ITS FALSE NEIGHBOUR: 'it returns false'. Refute it at one input. -/
def timerLatchesWrong : ChangeSpec := { name := "timerLatches", fn := fun _ => fun
  | [d1, d2] => { results := [.lit (.bool false)], args := [d1, d2] }
  | _ => none }
def TimerLatchesWrongFalsely : Prop := timerLatchesRow.holds Tryd.pinned (OpenSpec.ofChange timerLatchesWrong)

/-- 'tandemlaw6.TimerPeriods': WHATEVER THE INPUT: true; the input reads as it did. -/
def timerPeriodsSpec : ChangeSpec := { name := "timerPeriods", fn := fun _ => fun
  | [d1, d2, d3, d4] => { results := [.lit (.bool true)], args := [d1, d2, d3, d4] }
  | _ => none }
def timerPeriodsRow : OpenClaim := { program := "ytjacadiaafcckaadoor", sum := "a167258a001a8d1c0426a80c8eaee531b434aa657b334cec1ca24c9d5cfe0c90", func := "tandem/tandemlaw6.TimerPeriods", spec := "timerPeriods", named := ["tandem/timer.dividers", "tandem/timer.frames", "tandem/timer.rounds", "tandem/timer.fiveBeats", "tandem/timer.fourBeats"], apart := false, laid := [("tandem/timer.dividers", laid_tandem_timer_dividers), ("tandem/timer.fourBeats", laid_tandem_timer_fourBeats), ("tandem/timer.fiveBeats", laid_tandem_timer_fiveBeats), ("tandem/timer.frames", laid_tandem_timer_frames), ("tandem/timer.rounds", laid_tandem_timer_rounds)] }
def TimerPeriodsSaid : Prop := timerPeriodsRow.holds Tryd.pinned (OpenSpec.ofChange timerPeriodsSpec)

/-- ITS FALSE NEIGHBOUR: 'it returns false'. Refute it at one input. -/
def timerPeriodsWrong : ChangeSpec := { name := "timerPeriods", fn := fun _ => fun
  | [d1, d2, d3, d4] => { results := [.lit (.bool false)], args := [d1, d2, d3, d4] }
  | _ => none }
def TimerPeriodsWrongFalsely : Prop := timerPeriodsRow.holds Tryd.pinned (OpenSpec.ofChange timerPeriodsWrong)

/- THE SECOND FORM. 'bulk': how many values and letters a reading holds, each counted each time it is reached (what is shared counts as often as it is met; a slice's spare places count too). A statement '..UptoSaid' is the law's where the arguments, and the package variables that the reading takes, are together of bulk at most 1048576: NARROWER than '..Said'. Prove '..Said' where nothing that the law and all that it calls make is longer than what came in: it says more and counts as full. Else prove '..UptoSaid'. A law counts once. -/
mutual
def uptoBulk {H : Type} : DataW H → Nat
  | .lit (.string bytes) => bytes.length + 1
  | .lit _ => 1
  | .nil => 1
  | .ptr d => uptoBulk d + 1
  | .slice elems spare => uptoBulkAll elems + uptoBulkAll spare + 1
  | .agg parts => uptoBulkAll parts + 1
  | .iface _ d => uptoBulk d + 1
  | .map entries => uptoBulkEntries entries + 1
  | .held _ => 1
def uptoBulkAll {H : Type} : List (DataW H) → Nat
  | [] => 0
  | d :: r => uptoBulk d + uptoBulkAll r
def uptoBulkEntries {H : Type} : List (Lit × DataW H) → Nat
  | [] => 0
  | x :: r => uptoBulkEntry x + uptoBulkEntries r
def uptoBulkEntry {H : Type} : Lit × DataW H → Nat
  | (.string bytes, d) => bytes.length + uptoBulk d + 1
  | (_, d) => uptoBulk d + 1
 end
def uptoSmall : (H : Type) → List (DataW H) → Bool := fun _ ds => decide (uptoBulkAll ds ≤ 1048576)
def OpenSpec.upto (s : _root_.Go.ChangeSpec) : _root_.Go.OpenSpec := { _root_.Go.OpenSpec.ofChange s with cond := some uptoSmall }

/-- 'tandemlaw6.TimerReads', WHERE WHAT IT READS IS OF BULK AT MOST 1048576: true; the input reads as it did. -/
def timerReadsUptoRow : OpenClaim := { program := "ytjacadiaafcckaadoor", sum := "a167258a001a8d1c0426a80c8eaee531b434aa657b334cec1ca24c9d5cfe0c90", func := "tandem/tandemlaw6.TimerReads", spec := "timerReads", named := ["tandem/timer.dividers"], apart := false, laid := [("tandem/timer.dividers", laid_tandem_timer_dividers)], narrowed := true }
def TimerReadsUptoSaid : Prop := timerReadsUptoRow.holds Tryd.pinned (OpenSpec.upto timerReadsSpec)

/-- 'tandemlaw6.TimerWrites', WHERE WHAT IT READS IS OF BULK AT MOST 1048576: true; the input reads as it did. -/
def timerWritesUptoRow : OpenClaim := { program := "ytjacadiaafcckaadoor", sum := "a167258a001a8d1c0426a80c8eaee531b434aa657b334cec1ca24c9d5cfe0c90", func := "tandem/tandemlaw6.TimerWrites", spec := "timerWrites", named := ["tandem/timer.dividers"], apart := false, laid := [("tandem/timer.dividers", laid_tandem_timer_dividers)], narrowed := true }
def TimerWritesUptoSaid : Prop := timerWritesUptoRow.holds Tryd.pinned (OpenSpec.upto timerWritesSpec)

/-- 'tandemlaw6.TimerSums', WHERE WHAT IT READS IS OF BULK AT MOST 1048576: true; the input reads as it did. -/
def timerSumsUptoRow : OpenClaim := { program := "ytjacadiaafcckaadoor", sum := "a167258a001a8d1c0426a80c8eaee531b434aa657b334cec1ca24c9d5cfe0c90", func := "tandem/tandemlaw6.TimerSums", spec := "timerSums", named := ["tandem/timer.dividers", "tandem/timer.frames", "tandem/timer.rounds", "tandem/timer.fiveBeats", "tandem/timer.fourBeats"], apart := false, laid := [("tandem/timer.dividers", laid_tandem_timer_dividers), ("tandem/timer.fourBeats", laid_tandem_timer_fourBeats), ("tandem/timer.fiveBeats", laid_tandem_timer_fiveBeats), ("tandem/timer.frames", laid_tandem_timer_frames), ("tandem/timer.rounds", laid_tandem_timer_rounds)], narrowed := true }
def TimerSumsUptoSaid : Prop := timerSumsUptoRow.holds Tryd.pinned (OpenSpec.upto timerSumsSpec)

/-- 'tandemlaw6.TimerApart', WHERE WHAT IT READS IS OF BULK AT MOST 1048576: true; the input reads as it did. -/
def timerApartUptoRow : OpenClaim := { program := "ytjacadiaafcckaadoor", sum := "a167258a001a8d1c0426a80c8eaee531b434aa657b334cec1ca24c9d5cfe0c90", func := "tandem/tandemlaw6.TimerApart", spec := "timerApart", named := ["tandem/timer.dividers", "tandem/timer.frames", "tandem/timer.rounds", "tandem/timer.fiveBeats", "tandem/timer.fourBeats"], apart := false, laid := [("tandem/timer.dividers", laid_tandem_timer_dividers), ("tandem/timer.fourBeats", laid_tandem_timer_fourBeats), ("tandem/timer.fiveBeats", laid_tandem_timer_fiveBeats), ("tandem/timer.frames", laid_tandem_timer_frames), ("tandem/timer.rounds", laid_tandem_timer_rounds)], narrowed := true }
def TimerApartUptoSaid : Prop := timerApartUptoRow.holds Tryd.pinned (OpenSpec.upto timerApartSpec)

/-- 'tandemlaw6.TimerLatches', WHERE WHAT IT READS IS OF BULK AT MOST 1048576: true; the input reads as it did. -/
def timerLatchesUptoRow : OpenClaim := { program := "ytjacadiaafcckaadoor", sum := "a167258a001a8d1c0426a80c8eaee531b434aa657b334cec1ca24c9d5cfe0c90", func := "tandem/tandemlaw6.TimerLatches", spec := "timerLatches", named := ["tandem/timer.dividers", "tandem/timer.frames", "tandem/timer.rounds", "tandem/timer.fiveBeats", "tandem/timer.fourBeats"], apart := false, laid := [("tandem/timer.dividers", laid_tandem_timer_dividers), ("tandem/timer.fourBeats", laid_tandem_timer_fourBeats), ("tandem/timer.fiveBeats", laid_tandem_timer_fiveBeats), ("tandem/timer.frames", laid_tandem_timer_frames), ("tandem/timer.rounds", laid_tandem_timer_rounds)], narrowed := true }
def TimerLatchesUptoSaid : Prop := timerLatchesUptoRow.holds Tryd.pinned (OpenSpec.upto timerLatchesSpec)

/-- 'tandemlaw6.TimerPeriods', WHERE WHAT IT READS IS OF BULK AT MOST 1048576: true; the input reads as it did. -/
def timerPeriodsUptoRow : OpenClaim := { program := "ytjacadiaafcckaadoor", sum := "a167258a001a8d1c0426a80c8eaee531b434aa657b334cec1ca24c9d5cfe0c90", func := "tandem/tandemlaw6.TimerPeriods", spec := "timerPeriods", named := ["tandem/timer.dividers", "tandem/timer.frames", "tandem/timer.rounds", "tandem/timer.fiveBeats", "tandem/timer.fourBeats"], apart := false, laid := [("tandem/timer.dividers", laid_tandem_timer_dividers), ("tandem/timer.fourBeats", laid_tandem_timer_fourBeats), ("tandem/timer.fiveBeats", laid_tandem_timer_fiveBeats), ("tandem/timer.frames", laid_tandem_timer_frames), ("tandem/timer.rounds", laid_tandem_timer_rounds)], narrowed := true }
def TimerPeriodsUptoSaid : Prop := timerPeriodsUptoRow.holds Tryd.pinned (OpenSpec.upto timerPeriodsSpec)

end Rows
end Go.Proofs.YtjacadiaafcckaaDoor
