/-
  NARROWER THAN 'FOR EVERY INPUT', by the rows' own cells (each row's printed sentence says how): XlateOwn: laid · XlatePrefix: laid · XlateFlags: laid · XlateTranslates: laid.
  DERIVED. THE GIVEN ROWS OF THIS SEAT. 4 by the template 'for every input the law returns true; each argument reads behind the call as it read before'; 0 by the template 'total and deterministic' (their statements: YtfdiplgjiidnbaaDoorTotals.lean).
  GIVEN WITH THE SEED: the statements are not yours to turn. If you find one false, say at which input.
  Laid BY PROGRAM, IN A SANDBOX (cutbox-rows.mjs): the forced cells as the released guide's own fill.sh prints them over the translation f271043a5260e914… (all of the seat's roots in one cut). By AI agents, Wed Nov 11 2026. No macro, syntax, notation, axiom, sorry.
-/
import Derived.Test.YtfdiplgjiidnbaaDoorChecked
import GoSem.Claim
import GoSem.ClaimJoined
import GoSem.ClaimMapViews
import Derived.JoinedTies
import Derived.KernelRfl
namespace Go.Proofs.YtfdiplgjiidnbaaDoor
/- THE CELL 'sum', in the pinned program and in every row, IS THE sha256 OF THE DUMP (.gsa) THAT YtfdiplgjiidnbaaDoorProg.lean LOADS. Nothing in Lean hashes anything: it is a label: what it is worth is what the hold of that sum in a sandbox is worth. -/
noncomputable def Tryd.pinned : Pinned := { name := "ytfdiplgjiidnbaadoor", sum := "f271043a5260e91468cc9ad8c65abfaae3ffb1813b9ad41151363d29d854ded3", checked := Tryd.checked }
namespace Rows
def none {H : Type} : Left H := { results := [], args := [] }

/- WHAT THE LISTED PACKAGE-LEVEL VARIABLES READ AS WHEN THE CALL BEGINS. Each datum BY PROGRAM (the guide's laid-datum.mjs) off the statement by which the dump's own 'gosem.cut.vars' lays the variable. In a bare row this is a premise. The card (YtfdiplgjiidnbaaDoorCards.lean) ties it to the program's text. -/
def laid_tandem_alu_needs {H : Type} : DataW H := .agg [.lit (.int .u8 9), .lit (.int .u8 0), .lit (.int .u8 0), .lit (.int .u8 1), .lit (.int .u8 1), .lit (.int .u8 2), .lit (.int .u8 0), .lit (.int .u8 128), .lit (.int .u8 2), .lit (.int .u8 128), .lit (.int .u8 207), .lit (.int .u8 64), .lit (.int .u8 64), .lit (.int .u8 0), .lit (.int .u8 0), .lit (.int .u8 0), .lit (.int .u8 0), .lit (.int .u8 0), .lit (.int .u8 0), .lit (.int .u8 0), .lit (.int .u8 0), .lit (.int .u8 0), .lit (.int .u8 0), .lit (.int .u8 0), .lit (.int .u8 0), .lit (.int .u8 0), .lit (.int .u8 0), .lit (.int .u8 0), .lit (.int .u8 0), .lit (.int .u8 0), .lit (.int .u8 0), .lit (.int .u8 0), .lit (.int .u8 0), .lit (.int .u8 0), .lit (.int .u8 0), .lit (.int .u8 0), .lit (.int .u8 207), .lit (.int .u8 0), .lit (.int .u8 0), .lit (.int .u8 1), .lit (.int .u8 1), .lit (.int .u8 0), .lit (.int .u8 0), .lit (.int .u8 9), .lit (.int .u8 0), .lit (.int .u8 0), .lit (.int .u8 0), .lit (.int .u8 0), .lit (.int .u8 0), .lit (.int .u8 0), .lit (.int .u8 0), .lit (.int .u8 0), .lit (.int .u8 0), .lit (.int .u8 0), .lit (.int .u8 0), .lit (.int .u8 0), .lit (.int .u8 0), .lit (.int .u8 0), .lit (.int .u8 9), .lit (.int .u8 0), .lit (.int .u8 9), .lit (.int .u8 0), .lit (.int .u8 0), .lit (.int .u8 1), .lit (.int .u8 9), .lit (.int .u8 0), .lit (.int .u8 0), .lit (.int .u8 0), .lit (.int .u8 0), .lit (.int .u8 0)]
def laid_tandem_alu_sets {H : Type} : DataW H := .agg [.lit (.int .u8 195), .lit (.int .u8 130), .lit (.int .u8 131), .lit (.int .u8 0), .lit (.int .u8 0), .lit (.int .u8 0), .lit (.int .u8 194), .lit (.int .u8 0), .lit (.int .u8 0), .lit (.int .u8 0), .lit (.int .u8 4), .lit (.int .u8 0), .lit (.int .u8 0), .lit (.int .u8 1), .lit (.int .u8 8), .lit (.int .u8 4), .lit (.int .u8 64), .lit (.int .u8 131), .lit (.int .u8 131), .lit (.int .u8 131), .lit (.int .u8 130), .lit (.int .u8 130), .lit (.int .u8 130), .lit (.int .u8 130), .lit (.int .u8 130), .lit (.int .u8 130), .lit (.int .u8 130), .lit (.int .u8 0), .lit (.int .u8 0), .lit (.int .u8 130), .lit (.int .u8 130), .lit (.int .u8 130), .lit (.int .u8 131), .lit (.int .u8 0), .lit (.int .u8 130), .lit (.int .u8 0), .lit (.int .u8 0), .lit (.int .u8 130), .lit (.int .u8 255), .lit (.int .u8 131), .lit (.int .u8 131), .lit (.int .u8 255), .lit (.int .u8 0), .lit (.int .u8 195), .lit (.int .u8 1), .lit (.int .u8 8), .lit (.int .u8 4), .lit (.int .u8 0), .lit (.int .u8 0), .lit (.int .u8 0), .lit (.int .u8 130), .lit (.int .u8 130), .lit (.int .u8 130), .lit (.int .u8 130), .lit (.int .u8 0), .lit (.int .u8 130), .lit (.int .u8 131), .lit (.int .u8 131), .lit (.int .u8 195), .lit (.int .u8 131), .lit (.int .u8 195), .lit (.int .u8 130), .lit (.int .u8 130), .lit (.int .u8 131), .lit (.int .u8 195), .lit (.int .u8 0), .lit (.int .u8 131), .lit (.int .u8 131), .lit (.int .u8 131), .lit (.int .u8 0)]
def laid_tandem_xlate_recipes {H : Type} : DataW H := .agg [.agg [.lit (.int .u8 4), .lit (.int .u8 0), .lit (.int .u8 0), .lit (.int .u8 0)], .agg [.lit (.int .u8 1), .lit (.int .u8 2), .lit (.int .u8 4), .lit (.int .u8 0)], .agg [.lit (.int .u8 1), .lit (.int .u8 4), .lit (.int .u8 5), .lit (.int .u8 0)], .agg [.lit (.int .u8 1), .lit (.int .u8 2), .lit (.int .u8 4), .lit (.int .u8 5)], .agg [.lit (.int .u8 1), .lit (.int .u8 2), .lit (.int .u8 0), .lit (.int .u8 0)], .agg [.lit (.int .u8 8), .lit (.int .u8 0), .lit (.int .u8 0), .lit (.int .u8 0)], .agg [.lit (.int .u8 9), .lit (.int .u8 0), .lit (.int .u8 0), .lit (.int .u8 0)], .agg [.lit (.int .u8 11), .lit (.int .u8 0), .lit (.int .u8 0), .lit (.int .u8 0)], .agg [.lit (.int .u8 12), .lit (.int .u8 0), .lit (.int .u8 0), .lit (.int .u8 0)], .agg [.lit (.int .u8 4), .lit (.int .u8 6), .lit (.int .u8 0), .lit (.int .u8 0)], .agg [.lit (.int .u8 7), .lit (.int .u8 4), .lit (.int .u8 0), .lit (.int .u8 0)], .agg [.lit (.int .u8 0), .lit (.int .u8 0), .lit (.int .u8 0), .lit (.int .u8 0)], .agg [.lit (.int .u8 0), .lit (.int .u8 0), .lit (.int .u8 0), .lit (.int .u8 0)]]
def laid_tandem_tandemref4_letters {H : Type} : DataW H := .agg [.lit (.string []), .lit (.string [97]), .lit (.string [105]), .lit (.string [122]), .lit (.string [122, 120]), .lit (.string [122, 121]), .lit (.string [105, 120]), .lit (.string [105, 121]), .lit (.string [119]), .lit (.string [119, 120]), .lit (.string [119, 121]), .lit (.string [110]), .lit (.string [114])]

/-- 'tandemlaw13.XlateOwn': WHATEVER THE INPUT: true; the input reads as it did. -/
def xlateOwnSpec : ChangeSpec := { name := "xlateOwn", fn := fun _ => fun
  | [d1, d2, d3, d4] => { results := [.lit (.bool true)], args := [d1, d2, d3, d4] }
  | _ => none }
def xlateOwnRow : OpenClaim := { program := "ytfdiplgjiidnbaadoor", sum := "f271043a5260e91468cc9ad8c65abfaae3ffb1813b9ad41151363d29d854ded3", func := "tandem/tandemlaw13.XlateOwn", spec := "xlateOwn", unfollowed := true, recurses := true, named := ["tandem/alu.sets", "tandem/alu.needs", "tandem/xlate.recipes"], apart := false, laid := [("tandem/alu.needs", laid_tandem_alu_needs), ("tandem/alu.sets", laid_tandem_alu_sets), ("tandem/xlate.recipes", laid_tandem_xlate_recipes)] }
def XlateOwnSaid : Prop := xlateOwnRow.holds Tryd.pinned (OpenSpec.ofChange xlateOwnSpec)

/-- ITS FALSE NEIGHBOUR: 'it returns false'. Refute it at one input. -/
def xlateOwnWrong : ChangeSpec := { name := "xlateOwn", fn := fun _ => fun
  | [d1, d2, d3, d4] => { results := [.lit (.bool false)], args := [d1, d2, d3, d4] }
  | _ => none }
def XlateOwnWrongFalsely : Prop := xlateOwnRow.holds Tryd.pinned (OpenSpec.ofChange xlateOwnWrong)

/-- 'tandemlaw13.XlatePrefix': WHATEVER THE INPUT: true; the input reads as it did. -/
def xlatePrefixSpec : ChangeSpec := { name := "xlatePrefix", fn := fun _ => fun
  | [d1, d2, d3, d4] => { results := [.lit (.bool true)], args := [d1, d2, d3, d4] }
  | _ => none }
def xlatePrefixRow : OpenClaim := { program := "ytfdiplgjiidnbaadoor", sum := "f271043a5260e91468cc9ad8c65abfaae3ffb1813b9ad41151363d29d854ded3", func := "tandem/tandemlaw13.XlatePrefix", spec := "xlatePrefix", unfollowed := true, recurses := true, named := ["tandem/alu.sets", "tandem/alu.needs", "tandem/xlate.recipes"], apart := false, laid := [("tandem/alu.needs", laid_tandem_alu_needs), ("tandem/alu.sets", laid_tandem_alu_sets), ("tandem/xlate.recipes", laid_tandem_xlate_recipes)] }
def XlatePrefixSaid : Prop := xlatePrefixRow.holds Tryd.pinned (OpenSpec.ofChange xlatePrefixSpec)

/-- ITS FALSE NEIGHBOUR: 'it returns false'. Refute it at one input. -/
def xlatePrefixWrong : ChangeSpec := { name := "xlatePrefix", fn := fun _ => fun
  | [d1, d2, d3, d4] => { results := [.lit (.bool false)], args := [d1, d2, d3, d4] }
  | _ => none }
def XlatePrefixWrongFalsely : Prop := xlatePrefixRow.holds Tryd.pinned (OpenSpec.ofChange xlatePrefixWrong)

/-- 'tandemlaw13.XlateFlags': WHATEVER THE INPUT: true; the input reads as it did. -/
def xlateFlagsSpec : ChangeSpec := { name := "xlateFlags", fn := fun _ => fun
  | [d1, d2, d3] => { results := [.lit (.bool true)], args := [d1, d2, d3] }
  | _ => none }
def xlateFlagsRow : OpenClaim := { program := "ytfdiplgjiidnbaadoor", sum := "f271043a5260e91468cc9ad8c65abfaae3ffb1813b9ad41151363d29d854ded3", func := "tandem/tandemlaw13.XlateFlags", spec := "xlateFlags", unfollowed := true, recurses := true, named := ["tandem/alu.sets", "tandem/alu.needs", "tandem/xlate.recipes"], apart := false, laid := [("tandem/alu.needs", laid_tandem_alu_needs), ("tandem/alu.sets", laid_tandem_alu_sets), ("tandem/xlate.recipes", laid_tandem_xlate_recipes)] }
def XlateFlagsSaid : Prop := xlateFlagsRow.holds Tryd.pinned (OpenSpec.ofChange xlateFlagsSpec)

/-- ITS FALSE NEIGHBOUR: 'it returns false'. Refute it at one input. -/
def xlateFlagsWrong : ChangeSpec := { name := "xlateFlags", fn := fun _ => fun
  | [d1, d2, d3] => { results := [.lit (.bool false)], args := [d1, d2, d3] }
  | _ => none }
def XlateFlagsWrongFalsely : Prop := xlateFlagsRow.holds Tryd.pinned (OpenSpec.ofChange xlateFlagsWrong)

/-- 'tandemlaw13.XlateTranslates': WHATEVER THE INPUT: true; the input reads as it did. -/
def xlateTranslatesSpec : ChangeSpec := { name := "xlateTranslates", fn := fun _ => fun
  | [d1, d2, d3, d4] => { results := [.lit (.bool true)], args := [d1, d2, d3, d4] }
  | _ => none }
def xlateTranslatesRow : OpenClaim := { program := "ytfdiplgjiidnbaadoor", sum := "f271043a5260e91468cc9ad8c65abfaae3ffb1813b9ad41151363d29d854ded3", func := "tandem/tandemlaw13.XlateTranslates", spec := "xlateTranslates", unfollowed := true, recurses := true, named := ["tandem/alu.sets", "tandem/alu.needs", "tandem/xlate.recipes", "tandem/tandemref4.letters"], apart := false, laid := [("tandem/alu.needs", laid_tandem_alu_needs), ("tandem/alu.sets", laid_tandem_alu_sets), ("tandem/tandemref4.letters", laid_tandem_tandemref4_letters), ("tandem/xlate.recipes", laid_tandem_xlate_recipes)] }
def XlateTranslatesSaid : Prop := xlateTranslatesRow.holds Tryd.pinned (OpenSpec.ofChange xlateTranslatesSpec)

/-- ITS FALSE NEIGHBOUR: 'it returns false'. Refute it at one input. -/
def xlateTranslatesWrong : ChangeSpec := { name := "xlateTranslates", fn := fun _ => fun
  | [d1, d2, d3, d4] => { results := [.lit (.bool false)], args := [d1, d2, d3, d4] }
  | _ => none }
def XlateTranslatesWrongFalsely : Prop := xlateTranslatesRow.holds Tryd.pinned (OpenSpec.ofChange xlateTranslatesWrong)

/- THE SECOND FORM. 'bulk': how many values and letters a reading holds, each counted each time it is reached (what is shared counts as often as it is met; a slice's spare places count too). A statement '..UptoSaid' is the law's where the arguments, and the package variables that the reading takes, are together of bulk at most 1048576: NARROWER than '..Said'. Prove '..Said' where nothing that the law and all that it calls make is longer than what came in: it says more and counts as full. Else prove '..UptoSaid'. A law counts once. -/
mutual
def uptoBulk {H : Type} : DataW H → Nat
  | .lit (.string bytes) => bytes.length + 1
  | .lit _ => 1
  | .nil => 1
  | .ptr d => uptoBulk d + 1
  | .slice elems spare => uptoBulkAll elems + uptoBulkAll spare + 1
  | .agg parts => uptoBulkAll parts + 1
  | .iface _ d => uptoBulk d + 1
  | .map entries => uptoBulkEntries entries + 1
  | .held _ => 1
def uptoBulkAll {H : Type} : List (DataW H) → Nat
  | [] => 0
  | d :: r => uptoBulk d + uptoBulkAll r
def uptoBulkEntries {H : Type} : List (Lit × DataW H) → Nat
  | [] => 0
  | x :: r => uptoBulkEntry x + uptoBulkEntries r
def uptoBulkEntry {H : Type} : Lit × DataW H → Nat
  | (.string bytes, d) => bytes.length + uptoBulk d + 1
  | (_, d) => uptoBulk d + 1
 end
def uptoSmall : (H : Type) → List (DataW H) → Bool := fun _ ds => decide (uptoBulkAll ds ≤ 1048576)
def OpenSpec.upto (s : _root_.Go.ChangeSpec) : _root_.Go.OpenSpec := { _root_.Go.OpenSpec.ofChange s with cond := some uptoSmall }

/-- 'tandemlaw13.XlateOwn', WHERE WHAT IT READS IS OF BULK AT MOST 1048576: true; the input reads as it did. -/
def xlateOwnUptoRow : OpenClaim := { program := "ytfdiplgjiidnbaadoor", sum := "f271043a5260e91468cc9ad8c65abfaae3ffb1813b9ad41151363d29d854ded3", func := "tandem/tandemlaw13.XlateOwn", spec := "xlateOwn", unfollowed := true, recurses := true, named := ["tandem/alu.sets", "tandem/alu.needs", "tandem/xlate.recipes"], apart := false, laid := [("tandem/alu.needs", laid_tandem_alu_needs), ("tandem/alu.sets", laid_tandem_alu_sets), ("tandem/xlate.recipes", laid_tandem_xlate_recipes)], narrowed := true }
def XlateOwnUptoSaid : Prop := xlateOwnUptoRow.holds Tryd.pinned (OpenSpec.upto xlateOwnSpec)

/-- 'tandemlaw13.XlatePrefix', WHERE WHAT IT READS IS OF BULK AT MOST 1048576: true; the input reads as it did. -/
def xlatePrefixUptoRow : OpenClaim := { program := "ytfdiplgjiidnbaadoor", sum := "f271043a5260e91468cc9ad8c65abfaae3ffb1813b9ad41151363d29d854ded3", func := "tandem/tandemlaw13.XlatePrefix", spec := "xlatePrefix", unfollowed := true, recurses := true, named := ["tandem/alu.sets", "tandem/alu.needs", "tandem/xlate.recipes"], apart := false, laid := [("tandem/alu.needs", laid_tandem_alu_needs), ("tandem/alu.sets", laid_tandem_alu_sets), ("tandem/xlate.recipes", laid_tandem_xlate_recipes)], narrowed := true }
def XlatePrefixUptoSaid : Prop := xlatePrefixUptoRow.holds Tryd.pinned (OpenSpec.upto xlatePrefixSpec)

/-- 'tandemlaw13.XlateFlags', WHERE WHAT IT READS IS OF BULK AT MOST 1048576: true; the input reads as it did. -/
def xlateFlagsUptoRow : OpenClaim := { program := "ytfdiplgjiidnbaadoor", sum := "f271043a5260e91468cc9ad8c65abfaae3ffb1813b9ad41151363d29d854ded3", func := "tandem/tandemlaw13.XlateFlags", spec := "xlateFlags", unfollowed := true, recurses := true, named := ["tandem/alu.sets", "tandem/alu.needs", "tandem/xlate.recipes"], apart := false, laid := [("tandem/alu.needs", laid_tandem_alu_needs), ("tandem/alu.sets", laid_tandem_alu_sets), ("tandem/xlate.recipes", laid_tandem_xlate_recipes)], narrowed := true }
def XlateFlagsUptoSaid : Prop := xlateFlagsUptoRow.holds Tryd.pinned (OpenSpec.upto xlateFlagsSpec)

/-- 'tandemlaw13.XlateTranslates', WHERE WHAT IT READS IS OF BULK AT MOST 1048576: true; the input reads as it did. -/
def xlateTranslatesUptoRow : OpenClaim := { program := "ytfdiplgjiidnbaadoor", sum := "f271043a5260e91468cc9ad8c65abfaae3ffb1813b9ad41151363d29d854ded3", func := "tandem/tandemlaw13.XlateTranslates", spec := "xlateTranslates", unfollowed := true, recurses := true, named := ["tandem/alu.sets", "tandem/alu.needs", "tandem/xlate.recipes", "tandem/tandemref4.letters"], apart := false, laid := [("tandem/alu.needs", laid_tandem_alu_needs), ("tandem/alu.sets", laid_tandem_alu_sets), ("tandem/tandemref4.letters", laid_tandem_tandemref4_letters), ("tandem/xlate.recipes", laid_tandem_xlate_recipes)], narrowed := true }
def XlateTranslatesUptoSaid : Prop := xlateTranslatesUptoRow.holds Tryd.pinned (OpenSpec.upto xlateTranslatesSpec)

end Rows
end Go.Proofs.YtfdiplgjiidnbaaDoor
