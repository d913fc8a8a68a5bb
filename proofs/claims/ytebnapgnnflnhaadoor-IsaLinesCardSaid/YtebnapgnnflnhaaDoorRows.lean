/-
  NARROWER THAN 'FOR EVERY INPUT', by the rows' own cells (each row's printed sentence says how): IsaLines: laid.
  DERIVED. THE GIVEN ROWS OF THIS SEAT. 1 by the template 'for every input the law returns true; each argument reads behind the call as it read before'; 0 by the template 'total and deterministic' (their statements: YtebnapgnnflnhaaDoorTotals.lean).
  GIVEN WITH THE SEED: the statements are not yours to turn. If you find one false, say at which input.
  Laid BY PROGRAM, IN A SANDBOX (cutbox-rows.mjs): the forced cells as the released guide's own fill.sh prints them over the translation 6cfef2378ff35f99… (all of the seat's roots in one cut). By AI agents, Wed Nov 11 2026. No macro, syntax, notation, axiom, sorry.
-/
import Derived.Test.YtebnapgnnflnhaaDoorChecked
import GoSem.Claim
import GoSem.ClaimJoined
import GoSem.ClaimMapViews
import Derived.JoinedTies
import Derived.KernelRfl
namespace Go.Proofs.YtebnapgnnflnhaaDoor
/- THE CELL 'sum', in the pinned program and in every row, IS THE sha256 OF THE DUMP (.gsa) THAT YtebnapgnnflnhaaDoorProg.lean LOADS. Nothing in Lean hashes anything: it is a label: what it is worth is what the hold of that sum in a sandbox is worth. -/
noncomputable def Tryd.pinned : Pinned := { name := "ytebnapgnnflnhaadoor", sum := "6cfef2378ff35f99c0d7136e190f0e85a2646019b749706ff25b8ea0991c4df7", checked := Tryd.checked }
namespace Rows
def none {H : Type} : Left H := { results := [], args := [] }

/- WHAT THE LISTED PACKAGE-LEVEL VARIABLES READ AS WHEN THE CALL BEGINS. Each datum BY PROGRAM (the guide's laid-datum.mjs) off the statement by which the dump's own 'gosem.cut.vars' lays the variable. In a bare row this is a premise. The card (YtebnapgnnflnhaaDoorCards.lean) ties it to the program's text. -/
def laid_tandem_tandemref4_letters {H : Type} : DataW H := .agg [.lit (.string []), .lit (.string [97]), .lit (.string [105]), .lit (.string [122]), .lit (.string [122, 120]), .lit (.string [122, 121]), .lit (.string [105, 120]), .lit (.string [105, 121]), .lit (.string [119]), .lit (.string [119, 120]), .lit (.string [119, 121]), .lit (.string [110]), .lit (.string [114])]
def laid_tandem_tandemref4_forms {H : Type} : DataW H := .agg [.lit (.string []), .lit (.string [65]), .lit (.string [35, 36, 104, 104]), .lit (.string [36, 104, 104]), .lit (.string [36, 104, 104, 44, 88]), .lit (.string [36, 104, 104, 44, 89]), .lit (.string [40, 36, 104, 104, 44, 88, 41]), .lit (.string [40, 36, 104, 104, 41, 44, 89]), .lit (.string [36, 72, 72, 72, 72]), .lit (.string [36, 72, 72, 72, 72, 44, 88]), .lit (.string [36, 72, 72, 72, 72, 44, 89]), .lit (.string [40, 36, 72, 72, 72, 72, 41]), .lit (.string [36, 72, 72, 72, 72])]
def laid_tandem_isa_names {H : Type} : DataW H := .agg [.lit (.string [65, 68, 67]), .lit (.string [65, 78, 68]), .lit (.string [65, 83, 76]), .lit (.string [66, 67, 67]), .lit (.string [66, 67, 83]), .lit (.string [66, 69, 81]), .lit (.string [66, 73, 84]), .lit (.string [66, 77, 73]), .lit (.string [66, 78, 69]), .lit (.string [66, 80, 76]), .lit (.string [66, 82, 75]), .lit (.string [66, 86, 67]), .lit (.string [66, 86, 83]), .lit (.string [67, 76, 67]), .lit (.string [67, 76, 68]), .lit (.string [67, 76, 73]), .lit (.string [67, 76, 86]), .lit (.string [67, 77, 80]), .lit (.string [67, 80, 88]), .lit (.string [67, 80, 89]), .lit (.string [68, 69, 67]), .lit (.string [68, 69, 88]), .lit (.string [68, 69, 89]), .lit (.string [69, 79, 82]), .lit (.string [73, 78, 67]), .lit (.string [73, 78, 88]), .lit (.string [73, 78, 89]), .lit (.string [74, 77, 80]), .lit (.string [74, 83, 82]), .lit (.string [76, 68, 65]), .lit (.string [76, 68, 88]), .lit (.string [76, 68, 89]), .lit (.string [76, 83, 82]), .lit (.string [78, 79, 80]), .lit (.string [79, 82, 65]), .lit (.string [80, 72, 65]), .lit (.string [80, 72, 80]), .lit (.string [80, 76, 65]), .lit (.string [80, 76, 80]), .lit (.string [82, 79, 76]), .lit (.string [82, 79, 82]), .lit (.string [82, 84, 73]), .lit (.string [82, 84, 83]), .lit (.string [83, 66, 67]), .lit (.string [83, 69, 67]), .lit (.string [83, 69, 68]), .lit (.string [83, 69, 73]), .lit (.string [83, 84, 65]), .lit (.string [83, 84, 88]), .lit (.string [83, 84, 89]), .lit (.string [84, 65, 88]), .lit (.string [84, 65, 89]), .lit (.string [84, 83, 88]), .lit (.string [84, 88, 65]), .lit (.string [84, 88, 83]), .lit (.string [84, 89, 65]), .lit (.string [65, 76, 82]), .lit (.string [65, 78, 67]), .lit (.string [65, 82, 82]), .lit (.string [68, 67, 80]), .lit (.string [73, 83, 67]), .lit (.string [76, 65, 83]), .lit (.string [76, 65, 88]), .lit (.string [82, 76, 65]), .lit (.string [82, 82, 65]), .lit (.string [83, 65, 88]), .lit (.string [83, 66, 88]), .lit (.string [83, 76, 79]), .lit (.string [83, 82, 69]), .lit (.string [74, 65, 77])]
def laid_tandem_isa_forms {H : Type} : DataW H := .agg [.agg [.lit (.int .i64 0), .lit (.string [])], .agg [.lit (.int .i64 1), .lit (.string [32, 65])], .agg [.lit (.int .i64 2), .lit (.string [32, 35, 36, 104, 104])], .agg [.lit (.int .i64 3), .lit (.string [32, 36, 104, 104])], .agg [.lit (.int .i64 4), .lit (.string [32, 36, 104, 104, 44, 88])], .agg [.lit (.int .i64 5), .lit (.string [32, 36, 104, 104, 44, 89])], .agg [.lit (.int .i64 6), .lit (.string [32, 40, 36, 104, 104, 44, 88, 41])], .agg [.lit (.int .i64 7), .lit (.string [32, 40, 36, 104, 104, 41, 44, 89])], .agg [.lit (.int .i64 8), .lit (.string [32, 36, 104, 104, 104, 104])], .agg [.lit (.int .i64 9), .lit (.string [32, 36, 104, 104, 104, 104, 44, 88])], .agg [.lit (.int .i64 10), .lit (.string [32, 36, 104, 104, 104, 104, 44, 89])], .agg [.lit (.int .i64 11), .lit (.string [32, 40, 36, 104, 104, 104, 104, 41])]]

/-- 'tandemlaw4.IsaLines': WHATEVER THE INPUT: true; the input reads as it did. -/
def isaLinesSpec : ChangeSpec := { name := "isaLines", fn := fun _ => fun
  | [d1, d2] => { results := [.lit (.bool true)], args := [d1, d2] }
  | _ => none }
def isaLinesRow : OpenClaim := { program := "ytebnapgnnflnhaadoor", sum := "6cfef2378ff35f99c0d7136e190f0e85a2646019b749706ff25b8ea0991c4df7", func := "tandem/tandemlaw4.IsaLines", spec := "isaLines", named := ["tandem/isa.names", "tandem/isa.forms", "tandem/tandemref4.forms", "tandem/tandemref4.letters"], apart := false, laid := [("tandem/tandemref4.letters", laid_tandem_tandemref4_letters), ("tandem/tandemref4.forms", laid_tandem_tandemref4_forms), ("tandem/isa.names", laid_tandem_isa_names), ("tandem/isa.forms", laid_tandem_isa_forms)] }
def IsaLinesSaid : Prop := isaLinesRow.holds Tryd.pinned (OpenSpec.ofChange isaLinesSpec)

/-- ITS FALSE NEIGHBOUR: 'it returns false'. Refute it at one input. -/
def isaLinesWrong : ChangeSpec := { name := "isaLines", fn := fun _ => fun
  | [d1, d2] => { results := [.lit (.bool false)], args := [d1, d2] }
  | _ => none }
def IsaLinesWrongFalsely : Prop := isaLinesRow.holds Tryd.pinned (OpenSpec.ofChange isaLinesWrong)

/- THE SECOND FORM. 'bulk': how many values and letters a reading holds, each counted each time it is reached (what is shared counts as often as it is met; a slice's spare places count too). A statement '..UptoSaid' is the law's where the arguments, and the package variables that the reading takes, are together of bulk at most 1048576: NARROWER than '..Said'. Prove '..Said' where nothing that the law and all that it calls make is longer than what came in: it says more and counts as full. Else prove '..UptoSaid'. A law counts once. -/
mutual
def uptoBulk {H : Type} : DataW H → Nat
  | .lit (.string bytes) => bytes.length + 1
  | .lit _ => 1
  | .nil => 1
  | .ptr d => uptoBulk d + 1
  | .slice elems spare => uptoBulkAll elems + uptoBulkAll spare + 1
  | .agg parts => uptoBulkAll parts + 1
  | .iface _ d => uptoBulk d + 1
  | .map entries => uptoBulkEntries entries + 1
  | .held _ => 1
def uptoBulkAll {H : Type} : List (DataW H) → Nat
  | [] => 0
  | d :: r => uptoBulk d + uptoBulkAll r
def uptoBulkEntries {H : Type} : List (Lit × DataW H) → Nat
  | [] => 0
  | x :: r => uptoBulkEntry x + uptoBulkEntries r
def uptoBulkEntry {H : Type} : Lit × DataW H → Nat
  | (.string bytes, d) => bytes.length + uptoBulk d + 1
  | (_, d) => uptoBulk d + 1
 end
def uptoSmall : (H : Type) → List (DataW H) → Bool := fun _ ds => decide (uptoBulkAll ds ≤ 1048576)
def OpenSpec.upto (s : _root_.Go.ChangeSpec) : _root_.Go.OpenSpec := { _root_.Go.OpenSpec.ofChange s with cond := some uptoSmall }

/-- 'tandemlaw4.IsaLines', WHERE WHAT IT READS IS OF BULK AT MOST 1048576: true; the input reads as it did. -/
def isaLinesUptoRow : OpenClaim := { program := "ytebnapgnnflnhaadoor", sum := "6cfef2378ff35f99c0d7136e190f0e85a2646019b749706ff25b8ea0991c4df7", func := "tandem/tandemlaw4.IsaLines", spec := "isaLines", named := ["tandem/isa.names", "tandem/isa.forms", "tandem/tandemref4.forms", "tandem/tandemref4.letters"], apart := false, laid := [("tandem/tandemref4.letters", laid_tandem_tandemref4_letters), ("tandem/tandemref4.forms", laid_tandem_tandemref4_forms), ("tandem/isa.names", laid_tandem_isa_names), ("tandem/isa.forms", laid_tandem_isa_forms)], narrowed := true }
def IsaLinesUptoSaid : Prop := isaLinesUptoRow.holds Tryd.pinned (OpenSpec.upto isaLinesSpec)

end Rows
end Go.Proofs.YtebnapgnnflnhaaDoor
