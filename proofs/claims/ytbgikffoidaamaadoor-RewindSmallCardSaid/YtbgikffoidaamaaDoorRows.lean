/-
  NARROWER THAN 'FOR EVERY INPUT', by the rows' own cells (each row's printed sentence says how): RewindSmall: laid · RewindCut: laid · RewindDiffs: laid · RewindThere: laid · RewindOnly: laid · RewindPatches: laid.
  DERIVED. THE GIVEN ROWS OF THIS SEAT. 6 by the template 'for every input the law returns true; each argument reads behind the call as it read before'; 0 by the template 'total and deterministic' (their statements: YtbgikffoidaamaaDoorTotals.lean).
  GIVEN WITH THE SEED: the statements are not yours to turn. If you find one false, say at which input.
  Laid BY PROGRAM, IN A SANDBOX (cutbox-rows.mjs): the forced cells as the released guide's own fill.sh prints them over the translation 5c93f67141a11b4e… (all of the seat's roots in one cut). By AI agents, Wed Nov 11 2026. No macro, syntax, notation, axiom, sorry.
-/
import Derived.Test.YtbgikffoidaamaaDoorChecked
import GoSem.Claim
import GoSem.ClaimJoined
import GoSem.ClaimMapViews
import Derived.JoinedTies
import Derived.KernelRfl
namespace Go.Proofs.YtbgikffoidaamaaDoor
/- THE CELL 'sum', in the pinned program and in every row, IS THE sha256 OF THE DUMP (.gsa) THAT YtbgikffoidaamaaDoorProg.lean LOADS. Nothing in Lean hashes anything: it is a label: what it is worth is what the hold of that sum in a sandbox is worth. -/
noncomputable def Tryd.pinned : Pinned := { name := "ytbgikffoidaamaadoor", sum := "5c93f67141a11b4eb3afe9234e3e9f55d006a8ebeb7d7cd77e7be40eb50eb8cb", checked := Tryd.checked }
namespace Rows
def none {H : Type} : Left H := { results := [], args := [] }

/- WHAT THE LISTED PACKAGE-LEVEL VARIABLES READ AS WHEN THE CALL BEGINS. Each datum BY PROGRAM (the guide's laid-datum.mjs) off the statement by which the dump's own 'gosem.cut.vars' lays the variable. In a bare row this is a premise. The card (YtbgikffoidaamaaDoorCards.lean) ties it to the program's text. -/
def laid_tandem_cart_turns {H : Type} : DataW H := .agg [.lit (.int .u32 0), .lit (.int .u32 498536548), .lit (.int .u32 997073096), .lit (.int .u32 651767980), .lit (.int .u32 1994146192), .lit (.int .u32 1802195444), .lit (.int .u32 1303535960), .lit (.int .u32 1342533948), .lit (.int .u32 3988292384), .lit (.int .u32 4027552580), .lit (.int .u32 3604390888), .lit (.int .u32 3412177804), .lit (.int .u32 2607071920), .lit (.int .u32 2262029012), .lit (.int .u32 2685067896), .lit (.int .u32 3183342108)]

/-- 'tandemlaw17.RewindSmall': WHATEVER THE INPUT: true; the input reads as it did. -/
def rewindSmallSpec : ChangeSpec := { name := "rewindSmall", fn := fun _ => fun
  | [d1, d2, d3] => { results := [.lit (.bool true)], args := [d1, d2, d3] }
  | _ => none }
def rewindSmallRow : OpenClaim := { program := "ytbgikffoidaamaadoor", sum := "5c93f67141a11b4eb3afe9234e3e9f55d006a8ebeb7d7cd77e7be40eb50eb8cb", func := "tandem/tandemlaw17.RewindSmall", spec := "rewindSmall", named := ["tandem/cart.turns"], apart := false, laid := [("tandem/cart.turns", laid_tandem_cart_turns)] }
def RewindSmallSaid : Prop := rewindSmallRow.holds Tryd.pinned (OpenSpec.ofChange rewindSmallSpec)

/-- ITS FALSE NEIGHBOUR: 'it returns false'. Refute it at one input. -/
def rewindSmallWrong : ChangeSpec := { name := "rewindSmall", fn := fun _ => fun
  | [d1, d2, d3] => { results := [.lit (.bool false)], args := [d1, d2, d3] }
  | _ => none }
def RewindSmallWrongFalsely : Prop := rewindSmallRow.holds Tryd.pinned (OpenSpec.ofChange rewindSmallWrong)

/-- 'tandemlaw17.RewindCut': WHATEVER THE INPUT: true; the input reads as it did. -/
def rewindCutSpec : ChangeSpec := { name := "rewindCut", fn := fun _ => fun
  | [d1, d2, d3, d4] => { results := [.lit (.bool true)], args := [d1, d2, d3, d4] }
  | _ => none }
def rewindCutRow : OpenClaim := { program := "ytbgikffoidaamaadoor", sum := "5c93f67141a11b4eb3afe9234e3e9f55d006a8ebeb7d7cd77e7be40eb50eb8cb", func := "tandem/tandemlaw17.RewindCut", spec := "rewindCut", named := ["tandem/cart.turns"], apart := false, laid := [("tandem/cart.turns", laid_tandem_cart_turns)] }
def RewindCutSaid : Prop := rewindCutRow.holds Tryd.pinned (OpenSpec.ofChange rewindCutSpec)

/-- ITS FALSE NEIGHBOUR: 'it returns false'. Refute it at one input. -/
def rewindCutWrong : ChangeSpec := { name := "rewindCut", fn := fun _ => fun
  | [d1, d2, d3, d4] => { results := [.lit (.bool false)], args := [d1, d2, d3, d4] }
  | _ => none }
def RewindCutWrongFalsely : Prop := rewindCutRow.holds Tryd.pinned (OpenSpec.ofChange rewindCutWrong)

/-- 'tandemlaw17.RewindDiffs': WHATEVER THE INPUT: true; the input reads as it did. -/
def rewindDiffsSpec : ChangeSpec := { name := "rewindDiffs", fn := fun _ => fun
  | [d1, d2] => { results := [.lit (.bool true)], args := [d1, d2] }
  | _ => none }
def rewindDiffsRow : OpenClaim := { program := "ytbgikffoidaamaadoor", sum := "5c93f67141a11b4eb3afe9234e3e9f55d006a8ebeb7d7cd77e7be40eb50eb8cb", func := "tandem/tandemlaw17.RewindDiffs", spec := "rewindDiffs", named := ["tandem/cart.turns"], apart := false, laid := [("tandem/cart.turns", laid_tandem_cart_turns)] }
def RewindDiffsSaid : Prop := rewindDiffsRow.holds Tryd.pinned (OpenSpec.ofChange rewindDiffsSpec)

/-- ITS FALSE NEIGHBOUR: 'it returns false'. Refute it at one input. -/
def rewindDiffsWrong : ChangeSpec := { name := "rewindDiffs", fn := fun _ => fun
  | [d1, d2] => { results := [.lit (.bool false)], args := [d1, d2] }
  | _ => none }
def RewindDiffsWrongFalsely : Prop := rewindDiffsRow.holds Tryd.pinned (OpenSpec.ofChange rewindDiffsWrong)

/-- 'tandemlaw17.RewindThere': WHATEVER THE INPUT: true; the input reads as it did. -/
def rewindThereSpec : ChangeSpec := { name := "rewindThere", fn := fun _ => fun
  | [d1, d2] => { results := [.lit (.bool true)], args := [d1, d2] }
  | _ => none }
def rewindThereRow : OpenClaim := { program := "ytbgikffoidaamaadoor", sum := "5c93f67141a11b4eb3afe9234e3e9f55d006a8ebeb7d7cd77e7be40eb50eb8cb", func := "tandem/tandemlaw17.RewindThere", spec := "rewindThere", named := ["tandem/cart.turns"], apart := false, laid := [("tandem/cart.turns", laid_tandem_cart_turns)] }
def RewindThereSaid : Prop := rewindThereRow.holds Tryd.pinned (OpenSpec.ofChange rewindThereSpec)

/-- ITS FALSE NEIGHBOUR: 'it returns false'. Refute it at one input. -/
def rewindThereWrong : ChangeSpec := { name := "rewindThere", fn := fun _ => fun
  | [d1, d2] => { results := [.lit (.bool false)], args := [d1, d2] }
  | _ => none }
def RewindThereWrongFalsely : Prop := rewindThereRow.holds Tryd.pinned (OpenSpec.ofChange rewindThereWrong)

/-- 'tandemlaw17.RewindOnly': WHATEVER THE INPUT: true; the input reads as it did. -/
def rewindOnlySpec : ChangeSpec := { name := "rewindOnly", fn := fun _ => fun
  | [d1, d2, d3, d4] => { results := [.lit (.bool true)], args := [d1, d2, d3, d4] }
  | _ => none }
def rewindOnlyRow : OpenClaim := { program := "ytbgikffoidaamaadoor", sum := "5c93f67141a11b4eb3afe9234e3e9f55d006a8ebeb7d7cd77e7be40eb50eb8cb", func := "tandem/tandemlaw17.RewindOnly", spec := "rewindOnly", named := ["tandem/cart.turns"], apart := false, laid := [("tandem/cart.turns", laid_tandem_cart_turns)] }
def RewindOnlySaid : Prop := rewindOnlyRow.holds Tryd.pinned (OpenSpec.ofChange rewindOnlySpec)

/-- ITS FALSE NEIGHBOUR: 'it returns false'. Refute it at one input. -/
def rewindOnlyWrong : ChangeSpec := { name := "rewindOnly", fn := fun _ => fun
  | [d1, d2, d3, d4] => { results := [.lit (.bool false)], args := [d1, d2, d3, d4] }
  | _ => none }
def RewindOnlyWrongFalsely : Prop := rewindOnlyRow.holds Tryd.pinned (OpenSpec.ofChange rewindOnlyWrong)

/-- 'tandemlaw17.RewindPatches': WHATEVER THE INPUT: true; the input reads as it did. -/
def rewindPatchesSpec : ChangeSpec := { name := "rewindPatches", fn := fun _ => fun
  | [d1, d2] => { results := [.lit (.bool true)], args := [d1, d2] }
  | _ => none }
def rewindPatchesRow : OpenClaim := { program := "ytbgikffoidaamaadoor", sum := "5c93f67141a11b4eb3afe9234e3e9f55d006a8ebeb7d7cd77e7be40eb50eb8cb", func := "tandem/tandemlaw17.RewindPatches", spec := "rewindPatches", named := ["tandem/cart.turns"], apart := false, laid := [("tandem/cart.turns", laid_tandem_cart_turns)] }
def RewindPatchesSaid : Prop := rewindPatchesRow.holds Tryd.pinned (OpenSpec.ofChange rewindPatchesSpec)

/-- ITS FALSE NEIGHBOUR: 'it returns false'. Refute it at one input. -/
def rewindPatchesWrong : ChangeSpec := { name := "rewindPatches", fn := fun _ => fun
  | [d1, d2] => { results := [.lit (.bool false)], args := [d1, d2] }
  | _ => none }
def RewindPatchesWrongFalsely : Prop := rewindPatchesRow.holds Tryd.pinned (OpenSpec.ofChange rewindPatchesWrong)

/- THE SECOND FORM. 'bulk': how many values and letters a reading holds, each counted each time it is reached (what is shared counts as often as it is met; a slice's spare places count too). A statement '..UptoSaid' is the law's where the arguments, and the package variables that the reading takes, are together of bulk at most 1048576: NARROWER than '..Said'. Prove '..Said' where nothing that the law and all that it calls make is longer than what came in: it says more and counts as full. Else prove '..UptoSaid'. A law counts once. -/
mutual
def uptoBulk {H : Type} : DataW H → Nat
  | .lit (.string bytes) => bytes.length + 1
  | .lit _ => 1
  | .nil => 1
  | .ptr d => uptoBulk d + 1
  | .slice elems spare => uptoBulkAll elems + uptoBulkAll spare + 1
  | .agg parts => uptoBulkAll parts + 1
  | .iface _ d => uptoBulk d + 1
  | .map entries => uptoBulkEntries entries + 1
  | .held _ => 1
def uptoBulkAll {H : Type} : List (DataW H) → Nat
  | [] => 0
  | d :: r => uptoBulk d + uptoBulkAll r
def uptoBulkEntries {H : Type} : List (Lit × DataW H) → Nat
  | [] => 0
  | x :: r => uptoBulkEntry x + uptoBulkEntries r
def uptoBulkEntry {H : Type} : Lit × DataW H → Nat
  | (.string bytes, d) => bytes.length + uptoBulk d + 1
  | (_, d) => uptoBulk d + 1
 end
def uptoSmall : (H : Type) → List (DataW H) → Bool := fun _ ds => decide (uptoBulkAll ds ≤ 1048576)
def OpenSpec.upto (s : _root_.Go.ChangeSpec) : _root_.Go.OpenSpec := { _root_.Go.OpenSpec.ofChange s with cond := some uptoSmall }

/-- 'tandemlaw17.RewindSmall', WHERE WHAT IT READS IS OF BULK AT MOST 1048576: true; the input reads as it did. -/
def rewindSmallUptoRow : OpenClaim := { program := "ytbgikffoidaamaadoor", sum := "5c93f67141a11b4eb3afe9234e3e9f55d006a8ebeb7d7cd77e7be40eb50eb8cb", func := "tandem/tandemlaw17.RewindSmall", spec := "rewindSmall", named := ["tandem/cart.turns"], apart := false, laid := [("tandem/cart.turns", laid_tandem_cart_turns)], narrowed := true }
def RewindSmallUptoSaid : Prop := rewindSmallUptoRow.holds Tryd.pinned (OpenSpec.upto rewindSmallSpec)

/-- 'tandemlaw17.RewindCut', WHERE WHAT IT READS IS OF BULK AT MOST 1048576: true; the input reads as it did. -/
def rewindCutUptoRow : OpenClaim := { program := "ytbgikffoidaamaadoor", sum := "5c93f67141a11b4eb3afe9234e3e9f55d006a8ebeb7d7cd77e7be40eb50eb8cb", func := "tandem/tandemlaw17.RewindCut", spec := "rewindCut", named := ["tandem/cart.turns"], apart := false, laid := [("tandem/cart.turns", laid_tandem_cart_turns)], narrowed := true }
def RewindCutUptoSaid : Prop := rewindCutUptoRow.holds Tryd.pinned (OpenSpec.upto rewindCutSpec)

/-- 'tandemlaw17.RewindDiffs', WHERE WHAT IT READS IS OF BULK AT MOST 1048576: true; the input reads as it did. -/
def rewindDiffsUptoRow : OpenClaim := { program := "ytbgikffoidaamaadoor", sum := "5c93f67141a11b4eb3afe9234e3e9f55d006a8ebeb7d7cd77e7be40eb50eb8cb", func := "tandem/tandemlaw17.RewindDiffs", spec := "rewindDiffs", named := ["tandem/cart.turns"], apart := false, laid := [("tandem/cart.turns", laid_tandem_cart_turns)], narrowed := true }
def RewindDiffsUptoSaid : Prop := rewindDiffsUptoRow.holds Tryd.pinned (OpenSpec.upto rewindDiffsSpec)

/-- 'tandemlaw17.RewindThere', WHERE WHAT IT READS IS OF BULK AT MOST 1048576: true; the input reads as it did. -/
def rewindThereUptoRow : OpenClaim := { program := "ytbgikffoidaamaadoor", sum := "5c93f67141a11b4eb3afe9234e3e9f55d006a8ebeb7d7cd77e7be40eb50eb8cb", func := "tandem/tandemlaw17.RewindThere", spec := "rewindThere", named := ["tandem/cart.turns"], apart := false, laid := [("tandem/cart.turns", laid_tandem_cart_turns)], narrowed := true }
def RewindThereUptoSaid : Prop := rewindThereUptoRow.holds Tryd.pinned (OpenSpec.upto rewindThereSpec)

/-- 'tandemlaw17.RewindOnly', WHERE WHAT IT READS IS OF BULK AT MOST 1048576: true; the input reads as it did. -/
def rewindOnlyUptoRow : OpenClaim := { program := "ytbgikffoidaamaadoor", sum := "5c93f67141a11b4eb3afe9234e3e9f55d006a8ebeb7d7cd77e7be40eb50eb8cb", func := "tandem/tandemlaw17.RewindOnly", spec := "rewindOnly", named := ["tandem/cart.turns"], apart := false, laid := [("tandem/cart.turns", laid_tandem_cart_turns)], narrowed := true }
def RewindOnlyUptoSaid : Prop := rewindOnlyUptoRow.holds Tryd.pinned (OpenSpec.upto rewindOnlySpec)

/-- 'tandemlaw17.RewindPatches', WHERE WHAT IT READS IS OF BULK AT MOST 1048576: true; the input reads as it did. -/
def rewindPatchesUptoRow : OpenClaim := { program := "ytbgikffoidaamaadoor", sum := "5c93f67141a11b4eb3afe9234e3e9f55d006a8ebeb7d7cd77e7be40eb50eb8cb", func := "tandem/tandemlaw17.RewindPatches", spec := "rewindPatches", named := ["tandem/cart.turns"], apart := false, laid := [("tandem/cart.turns", laid_tandem_cart_turns)], narrowed := true }
def RewindPatchesUptoSaid : Prop := rewindPatchesUptoRow.holds Tryd.pinned (OpenSpec.upto rewindPatchesSpec)

end Rows
end Go.Proofs.YtbgikffoidaamaaDoor
