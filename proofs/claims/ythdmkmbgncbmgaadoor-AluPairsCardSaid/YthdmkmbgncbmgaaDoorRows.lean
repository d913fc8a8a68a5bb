/-
  NARROWER THAN 'FOR EVERY INPUT', by the rows' own cells (each row's printed sentence says how): AluDabbles: laid · AluPairs: laid · AluDoes: laid · AluMultiplies: laid · AluDivides: laid · AluFreed: laid.
  DERIVED. THE GIVEN ROWS OF THIS SEAT. 6 by the template 'for every input the law returns true; each argument reads behind the call as it read before'; 0 by the template 'total and deterministic' (their statements: YthdmkmbgncbmgaaDoorTotals.lean).
  GIVEN WITH THE SEED: the statements are not yours to turn. If you find one false, say at which input.
  Laid BY PROGRAM, IN A SANDBOX (cutbox-rows.mjs): the forced cells as the released guide's own fill.sh prints them over the translation a136d61b5bc02ff4… (all of the seat's roots in one cut). By AI agents, Wed Nov 11 2026. No macro, syntax, notation, axiom, sorry.
-/
import Derived.Test.YthdmkmbgncbmgaaDoorChecked
import GoSem.Claim
import GoSem.ClaimJoined
import GoSem.ClaimMapViews
import Derived.JoinedTies
import Derived.KernelRfl
namespace Go.Proofs.YthdmkmbgncbmgaaDoor
/- THE CELL 'sum', in the pinned program and in every row, IS THE sha256 OF THE DUMP (.gsa) THAT YthdmkmbgncbmgaaDoorProg.lean LOADS. Nothing in Lean hashes anything: it is a label: what it is worth is what the hold of that sum in a sandbox is worth. -/
noncomputable def Tryd.pinned : Pinned := { name := "ythdmkmbgncbmgaadoor", sum := "a136d61b5bc02ff49ff64b59e4fc5125f89f44d39c12632efeb025e698cf2613", checked := Tryd.checked }
namespace Rows
def none {H : Type} : Left H := { results := [], args := [] }

/- WHAT THE LISTED PACKAGE-LEVEL VARIABLES READ AS WHEN THE CALL BEGINS. Each datum BY PROGRAM (the guide's laid-datum.mjs) off the statement by which the dump's own 'gosem.cut.vars' lays the variable. In a bare row this is a premise. The card (YthdmkmbgncbmgaaDoorCards.lean) ties it to the program's text. -/
def laid_tandem_alu_sets {H : Type} : DataW H := .agg [.lit (.int .u8 195), .lit (.int .u8 130), .lit (.int .u8 131), .lit (.int .u8 0), .lit (.int .u8 0), .lit (.int .u8 0), .lit (.int .u8 194), .lit (.int .u8 0), .lit (.int .u8 0), .lit (.int .u8 0), .lit (.int .u8 4), .lit (.int .u8 0), .lit (.int .u8 0), .lit (.int .u8 1), .lit (.int .u8 8), .lit (.int .u8 4), .lit (.int .u8 64), .lit (.int .u8 131), .lit (.int .u8 131), .lit (.int .u8 131), .lit (.int .u8 130), .lit (.int .u8 130), .lit (.int .u8 130), .lit (.int .u8 130), .lit (.int .u8 130), .lit (.int .u8 130), .lit (.int .u8 130), .lit (.int .u8 0), .lit (.int .u8 0), .lit (.int .u8 130), .lit (.int .u8 130), .lit (.int .u8 130), .lit (.int .u8 131), .lit (.int .u8 0), .lit (.int .u8 130), .lit (.int .u8 0), .lit (.int .u8 0), .lit (.int .u8 130), .lit (.int .u8 255), .lit (.int .u8 131), .lit (.int .u8 131), .lit (.int .u8 255), .lit (.int .u8 0), .lit (.int .u8 195), .lit (.int .u8 1), .lit (.int .u8 8), .lit (.int .u8 4), .lit (.int .u8 0), .lit (.int .u8 0), .lit (.int .u8 0), .lit (.int .u8 130), .lit (.int .u8 130), .lit (.int .u8 130), .lit (.int .u8 130), .lit (.int .u8 0), .lit (.int .u8 130), .lit (.int .u8 131), .lit (.int .u8 131), .lit (.int .u8 195), .lit (.int .u8 131), .lit (.int .u8 195), .lit (.int .u8 130), .lit (.int .u8 130), .lit (.int .u8 131), .lit (.int .u8 195), .lit (.int .u8 0), .lit (.int .u8 131), .lit (.int .u8 131), .lit (.int .u8 131), .lit (.int .u8 0)]
def laid_tandem_alu_needs {H : Type} : DataW H := .agg [.lit (.int .u8 9), .lit (.int .u8 0), .lit (.int .u8 0), .lit (.int .u8 1), .lit (.int .u8 1), .lit (.int .u8 2), .lit (.int .u8 0), .lit (.int .u8 128), .lit (.int .u8 2), .lit (.int .u8 128), .lit (.int .u8 207), .lit (.int .u8 64), .lit (.int .u8 64), .lit (.int .u8 0), .lit (.int .u8 0), .lit (.int .u8 0), .lit (.int .u8 0), .lit (.int .u8 0), .lit (.int .u8 0), .lit (.int .u8 0), .lit (.int .u8 0), .lit (.int .u8 0), .lit (.int .u8 0), .lit (.int .u8 0), .lit (.int .u8 0), .lit (.int .u8 0), .lit (.int .u8 0), .lit (.int .u8 0), .lit (.int .u8 0), .lit (.int .u8 0), .lit (.int .u8 0), .lit (.int .u8 0), .lit (.int .u8 0), .lit (.int .u8 0), .lit (.int .u8 0), .lit (.int .u8 0), .lit (.int .u8 207), .lit (.int .u8 0), .lit (.int .u8 0), .lit (.int .u8 1), .lit (.int .u8 1), .lit (.int .u8 0), .lit (.int .u8 0), .lit (.int .u8 9), .lit (.int .u8 0), .lit (.int .u8 0), .lit (.int .u8 0), .lit (.int .u8 0), .lit (.int .u8 0), .lit (.int .u8 0), .lit (.int .u8 0), .lit (.int .u8 0), .lit (.int .u8 0), .lit (.int .u8 0), .lit (.int .u8 0), .lit (.int .u8 0), .lit (.int .u8 0), .lit (.int .u8 0), .lit (.int .u8 9), .lit (.int .u8 0), .lit (.int .u8 9), .lit (.int .u8 0), .lit (.int .u8 0), .lit (.int .u8 1), .lit (.int .u8 9), .lit (.int .u8 0), .lit (.int .u8 0), .lit (.int .u8 0), .lit (.int .u8 0), .lit (.int .u8 0)]

/-- 'tandemlaw3.AluDabbles': WHATEVER THE INPUT: true; the input reads as it did. -/
def aluDabblesSpec : ChangeSpec := { name := "aluDabbles", fn := fun _ => fun
  | [d1, d2] => { results := [.lit (.bool true)], args := [d1, d2] }
  | _ => none }
def aluDabblesRow : OpenClaim := { program := "ythdmkmbgncbmgaadoor", sum := "a136d61b5bc02ff49ff64b59e4fc5125f89f44d39c12632efeb025e698cf2613", func := "tandem/tandemlaw3.AluDabbles", spec := "aluDabbles", unfollowed := true, recurses := true, named := ["tandem/alu.sets"], apart := false, laid := [("tandem/alu.sets", laid_tandem_alu_sets)] }
def AluDabblesSaid : Prop := aluDabblesRow.holds Tryd.pinned (OpenSpec.ofChange aluDabblesSpec)

/-- ITS FALSE NEIGHBOUR: 'it returns false'. Refute it at one input. -/
def aluDabblesWrong : ChangeSpec := { name := "aluDabbles", fn := fun _ => fun
  | [d1, d2] => { results := [.lit (.bool false)], args := [d1, d2] }
  | _ => none }
def AluDabblesWrongFalsely : Prop := aluDabblesRow.holds Tryd.pinned (OpenSpec.ofChange aluDabblesWrong)

/-- 'tandemlaw3.AluPairs': WHATEVER THE INPUT: true; the input reads as it did. -/
def aluPairsSpec : ChangeSpec := { name := "aluPairs", fn := fun _ => fun
  | [d] => { results := [.lit (.bool true)], args := [d] }
  | _ => none }
def aluPairsRow : OpenClaim := { program := "ythdmkmbgncbmgaadoor", sum := "a136d61b5bc02ff49ff64b59e4fc5125f89f44d39c12632efeb025e698cf2613", func := "tandem/tandemlaw3.AluPairs", spec := "aluPairs", unfollowed := true, recurses := true, named := ["tandem/alu.sets"], apart := false, laid := [("tandem/alu.sets", laid_tandem_alu_sets)] }
def AluPairsSaid : Prop := aluPairsRow.holds Tryd.pinned (OpenSpec.ofChange aluPairsSpec)

/-- ITS FALSE NEIGHBOUR: 'it returns false'. Refute it at one input. -/
def aluPairsWrong : ChangeSpec := { name := "aluPairs", fn := fun _ => fun
  | [d] => { results := [.lit (.bool false)], args := [d] }
  | _ => none }
def AluPairsWrongFalsely : Prop := aluPairsRow.holds Tryd.pinned (OpenSpec.ofChange aluPairsWrong)

/-- 'tandemlaw3.AluDoes': WHATEVER THE INPUT: true; the input reads as it did. -/
def aluDoesSpec : ChangeSpec := { name := "aluDoes", fn := fun _ => fun
  | [d1, d2] => { results := [.lit (.bool true)], args := [d1, d2] }
  | _ => none }
def aluDoesRow : OpenClaim := { program := "ythdmkmbgncbmgaadoor", sum := "a136d61b5bc02ff49ff64b59e4fc5125f89f44d39c12632efeb025e698cf2613", func := "tandem/tandemlaw3.AluDoes", spec := "aluDoes", unfollowed := true, recurses := true, named := ["tandem/alu.sets"], apart := false, laid := [("tandem/alu.sets", laid_tandem_alu_sets)] }
def AluDoesSaid : Prop := aluDoesRow.holds Tryd.pinned (OpenSpec.ofChange aluDoesSpec)

/-- ITS FALSE NEIGHBOUR: 'it returns false'. Refute it at one input. -/
def aluDoesWrong : ChangeSpec := { name := "aluDoes", fn := fun _ => fun
  | [d1, d2] => { results := [.lit (.bool false)], args := [d1, d2] }
  | _ => none }
def AluDoesWrongFalsely : Prop := aluDoesRow.holds Tryd.pinned (OpenSpec.ofChange aluDoesWrong)

/-- 'tandemlaw3.AluMultiplies': WHATEVER THE INPUT: true; the input reads as it did. -/
def aluMultipliesSpec : ChangeSpec := { name := "aluMultiplies", fn := fun _ => fun
  | [d1, d2, d3] => { results := [.lit (.bool true)], args := [d1, d2, d3] }
  | _ => none }
def aluMultipliesRow : OpenClaim := { program := "ythdmkmbgncbmgaadoor", sum := "a136d61b5bc02ff49ff64b59e4fc5125f89f44d39c12632efeb025e698cf2613", func := "tandem/tandemlaw3.AluMultiplies", spec := "aluMultiplies", unfollowed := true, recurses := true, named := ["tandem/alu.sets", "tandem/alu.needs"], apart := false, laid := [("tandem/alu.needs", laid_tandem_alu_needs), ("tandem/alu.sets", laid_tandem_alu_sets)] }
def AluMultipliesSaid : Prop := aluMultipliesRow.holds Tryd.pinned (OpenSpec.ofChange aluMultipliesSpec)

/-- ITS FALSE NEIGHBOUR: 'it returns false'. Refute it at one input. -/
def aluMultipliesWrong : ChangeSpec := { name := "aluMultiplies", fn := fun _ => fun
  | [d1, d2, d3] => { results := [.lit (.bool false)], args := [d1, d2, d3] }
  | _ => none }
def AluMultipliesWrongFalsely : Prop := aluMultipliesRow.holds Tryd.pinned (OpenSpec.ofChange aluMultipliesWrong)

/-- 'tandemlaw3.AluDivides': WHATEVER THE INPUT: true; the input reads as it did. -/
def aluDividesSpec : ChangeSpec := { name := "aluDivides", fn := fun _ => fun
  | [d1, d2, d3, d4] => { results := [.lit (.bool true)], args := [d1, d2, d3, d4] }
  | _ => none }
def aluDividesRow : OpenClaim := { program := "ythdmkmbgncbmgaadoor", sum := "a136d61b5bc02ff49ff64b59e4fc5125f89f44d39c12632efeb025e698cf2613", func := "tandem/tandemlaw3.AluDivides", spec := "aluDivides", unfollowed := true, recurses := true, named := ["tandem/alu.sets", "tandem/alu.needs"], apart := false, laid := [("tandem/alu.needs", laid_tandem_alu_needs), ("tandem/alu.sets", laid_tandem_alu_sets)] }
def AluDividesSaid : Prop := aluDividesRow.holds Tryd.pinned (OpenSpec.ofChange aluDividesSpec)

/-- ITS FALSE NEIGHBOUR: 'it returns false'. Refute it at one input. -/
def aluDividesWrong : ChangeSpec := { name := "aluDivides", fn := fun _ => fun
  | [d1, d2, d3, d4] => { results := [.lit (.bool false)], args := [d1, d2, d3, d4] }
  | _ => none }
def AluDividesWrongFalsely : Prop := aluDividesRow.holds Tryd.pinned (OpenSpec.ofChange aluDividesWrong)

/-- 'tandemlaw3.AluFreed': WHATEVER THE INPUT: true; the input reads as it did. -/
def aluFreedSpec : ChangeSpec := { name := "aluFreed", fn := fun _ => fun
  | [d1, d2, d3] => { results := [.lit (.bool true)], args := [d1, d2, d3] }
  | _ => none }
def aluFreedRow : OpenClaim := { program := "ythdmkmbgncbmgaadoor", sum := "a136d61b5bc02ff49ff64b59e4fc5125f89f44d39c12632efeb025e698cf2613", func := "tandem/tandemlaw3.AluFreed", spec := "aluFreed", unfollowed := true, recurses := true, named := ["tandem/alu.needs", "tandem/alu.sets"], apart := false, laid := [("tandem/alu.needs", laid_tandem_alu_needs), ("tandem/alu.sets", laid_tandem_alu_sets)] }
def AluFreedSaid : Prop := aluFreedRow.holds Tryd.pinned (OpenSpec.ofChange aluFreedSpec)

/-- ITS FALSE NEIGHBOUR: 'it returns false'. Refute it at one input. -/
def aluFreedWrong : ChangeSpec := { name := "aluFreed", fn := fun _ => fun
  | [d1, d2, d3] => { results := [.lit (.bool false)], args := [d1, d2, d3] }
  | _ => none }
def AluFreedWrongFalsely : Prop := aluFreedRow.holds Tryd.pinned (OpenSpec.ofChange aluFreedWrong)

/- THE SECOND FORM. 'bulk': how many values and letters a reading holds, each counted each time it is reached (what is shared counts as often as it is met; a slice's spare places count too). A statement '..UptoSaid' is the law's where the arguments, and the package variables that the reading takes, are together of bulk at most 1048576: NARROWER than '..Said'. Prove '..Said' where nothing that the law and all that it calls make is longer than what came in: it says more and counts as full. Else prove '..UptoSaid'. A law counts once. -/
mutual
def uptoBulk {H : Type} : DataW H → Nat
  | .lit (.string bytes) => bytes.length + 1
  | .lit _ => 1
  | .nil => 1
  | .ptr d => uptoBulk d + 1
  | .slice elems spare => uptoBulkAll elems + uptoBulkAll spare + 1
  | .agg parts => uptoBulkAll parts + 1
  | .iface _ d => uptoBulk d + 1
  | .map entries => uptoBulkEntries entries + 1
  | .held _ => 1
def uptoBulkAll {H : Type} : List (DataW H) → Nat
  | [] => 0
  | d :: r => uptoBulk d + uptoBulkAll r
def uptoBulkEntries {H : Type} : List (Lit × DataW H) → Nat
  | [] => 0
  | x :: r => uptoBulkEntry x + uptoBulkEntries r
def uptoBulkEntry {H : Type} : Lit × DataW H → Nat
  | (.string bytes, d) => bytes.length + uptoBulk d + 1
  | (_, d) => uptoBulk d + 1
 end
def uptoSmall : (H : Type) → List (DataW H) → Bool := fun _ ds => decide (uptoBulkAll ds ≤ 1048576)
def OpenSpec.upto (s : _root_.Go.ChangeSpec) : _root_.Go.OpenSpec := { _root_.Go.OpenSpec.ofChange s with cond := some uptoSmall }

/-- 'tandemlaw3.AluDabbles', WHERE WHAT IT READS IS OF BULK AT MOST 1048576: true; the input reads as it did. -/
def aluDabblesUptoRow : OpenClaim := { program := "ythdmkmbgncbmgaadoor", sum := "a136d61b5bc02ff49ff64b59e4fc5125f89f44d39c12632efeb025e698cf2613", func := "tandem/tandemlaw3.AluDabbles", spec := "aluDabbles", unfollowed := true, recurses := true, named := ["tandem/alu.sets"], apart := false, laid := [("tandem/alu.sets", laid_tandem_alu_sets)], narrowed := true }
def AluDabblesUptoSaid : Prop := aluDabblesUptoRow.holds Tryd.pinned (OpenSpec.upto aluDabblesSpec)

/-- 'tandemlaw3.AluPairs', WHERE WHAT IT READS IS OF BULK AT MOST 1048576: true; the input reads as it did. -/
def aluPairsUptoRow : OpenClaim := { program := "ythdmkmbgncbmgaadoor", sum := "a136d61b5bc02ff49ff64b59e4fc5125f89f44d39c12632efeb025e698cf2613", func := "tandem/tandemlaw3.AluPairs", spec := "aluPairs", unfollowed := true, recurses := true, named := ["tandem/alu.sets"], apart := false, laid := [("tandem/alu.sets", laid_tandem_alu_sets)], narrowed := true }
def AluPairsUptoSaid : Prop := aluPairsUptoRow.holds Tryd.pinned (OpenSpec.upto aluPairsSpec)

/-- 'tandemlaw3.AluDoes', WHERE WHAT IT READS IS OF BULK AT MOST 1048576: true; the input reads as it did. -/
def aluDoesUptoRow : OpenClaim := { program := "ythdmkmbgncbmgaadoor", sum := "a136d61b5bc02ff49ff64b59e4fc5125f89f44d39c12632efeb025e698cf2613", func := "tandem/tandemlaw3.AluDoes", spec := "aluDoes", unfollowed := true, recurses := true, named := ["tandem/alu.sets"], apart := false, laid := [("tandem/alu.sets", laid_tandem_alu_sets)], narrowed := true }
def AluDoesUptoSaid : Prop := aluDoesUptoRow.holds Tryd.pinned (OpenSpec.upto aluDoesSpec)

/-- 'tandemlaw3.AluMultiplies', WHERE WHAT IT READS IS OF BULK AT MOST 1048576: true; the input reads as it did. -/
def aluMultipliesUptoRow : OpenClaim := { program := "ythdmkmbgncbmgaadoor", sum := "a136d61b5bc02ff49ff64b59e4fc5125f89f44d39c12632efeb025e698cf2613", func := "tandem/tandemlaw3.AluMultiplies", spec := "aluMultiplies", unfollowed := true, recurses := true, named := ["tandem/alu.sets", "tandem/alu.needs"], apart := false, laid := [("tandem/alu.needs", laid_tandem_alu_needs), ("tandem/alu.sets", laid_tandem_alu_sets)], narrowed := true }
def AluMultipliesUptoSaid : Prop := aluMultipliesUptoRow.holds Tryd.pinned (OpenSpec.upto aluMultipliesSpec)

/-- 'tandemlaw3.AluDivides', WHERE WHAT IT READS IS OF BULK AT MOST 1048576: true; the input reads as it did. -/
def aluDividesUptoRow : OpenClaim := { program := "ythdmkmbgncbmgaadoor", sum := "a136d61b5bc02ff49ff64b59e4fc5125f89f44d39c12632efeb025e698cf2613", func := "tandem/tandemlaw3.AluDivides", spec := "aluDivides", unfollowed := true, recurses := true, named := ["tandem/alu.sets", "tandem/alu.needs"], apart := false, laid := [("tandem/alu.needs", laid_tandem_alu_needs), ("tandem/alu.sets", laid_tandem_alu_sets)], narrowed := true }
def AluDividesUptoSaid : Prop := aluDividesUptoRow.holds Tryd.pinned (OpenSpec.upto aluDividesSpec)

/-- 'tandemlaw3.AluFreed', WHERE WHAT IT READS IS OF BULK AT MOST 1048576: true; the input reads as it did. -/
def aluFreedUptoRow : OpenClaim := { program := "ythdmkmbgncbmgaadoor", sum := "a136d61b5bc02ff49ff64b59e4fc5125f89f44d39c12632efeb025e698cf2613", func := "tandem/tandemlaw3.AluFreed", spec := "aluFreed", unfollowed := true, recurses := true, named := ["tandem/alu.needs", "tandem/alu.sets"], apart := false, laid := [("tandem/alu.needs", laid_tandem_alu_needs), ("tandem/alu.sets", laid_tandem_alu_sets)], narrowed := true }
def AluFreedUptoSaid : Prop := aluFreedUptoRow.holds Tryd.pinned (OpenSpec.upto aluFreedSpec)

end Rows
end Go.Proofs.YthdmkmbgncbmgaaDoor
