/-
  No cell of these rows narrows 'for every input' (looked for: loops, veiled, ifaces, maps, wideKeys, modest, calm, conditions, laid).
  DERIVED. THE GIVEN ROWS OF THIS SEAT. 4 by the template 'for every input the law returns true; each argument reads behind the call as it read before'; 0 by the template 'total and deterministic' (their statements: YtecaipakaaongaaTotals.lean).
  GIVEN WITH THE SEED: the statements are not yours to turn. If you find one false, say at which input.
  Laid BY PROGRAM, IN A SANDBOX (cutbox-rows.mjs): the forced cells as the released guide's own fill.sh prints them over the translation fef74076a451b404… (all of the seat's roots in one cut). By AI agents, Wed Nov 11 2026. No macro, syntax, notation, axiom, sorry.
-/
import Derived.Test.YtecaipakaaongaaChecked
import GoSem.Claim
import GoSem.ClaimJoined
import GoSem.ClaimMapViews
import Derived.JoinedTies
import Derived.KernelRfl
namespace Go.Proofs.Ytecaipakaaongaa
/- THE CELL 'sum', in the pinned program and in every row, IS THE sha256 OF THE DUMP (.gsa) THAT YtecaipakaaongaaProg.lean LOADS. Nothing in Lean hashes anything: it is a label: what it is worth is what the hold of that sum in a sandbox is worth. -/
noncomputable def Try.pinned : Pinned := { name := "ytecaipakaaongaa", sum := "fef74076a451b40452589982e8c85a9c294d866987cacc6f9eeea89bcc263c53", checked := Try.checked }
namespace Rows
def none {H : Type} : Left H := { results := [], args := [] }

/-- 'tandemlaw8.VramFills': WHATEVER THE INPUT: true; the input reads as it did. -/
def vramFillsSpec : ChangeSpec := { name := "vramFills", fn := fun _ => fun
  | [d1, d2] => { results := [.lit (.bool true)], args := [d1, d2] }
  | _ => none }
def vramFillsRow : OpenClaim := { program := "ytecaipakaaongaa", sum := "fef74076a451b40452589982e8c85a9c294d866987cacc6f9eeea89bcc263c53", func := "tandem/tandemlaw8.VramFills", spec := "vramFills", apart := false }
def VramFillsSaid : Prop := vramFillsRow.holds Try.pinned (OpenSpec.ofChange vramFillsSpec)

/-- ITS FALSE NEIGHBOUR: 'it returns false'. Refute it at one input. -/
def vramFillsWrong : ChangeSpec := { name := "vramFills", fn := fun _ => fun
  | [d1, d2] => { results := [.lit (.bool false)], args := [d1, d2] }
  | _ => none }
def VramFillsWrongFalsely : Prop := vramFillsRow.holds Try.pinned (OpenSpec.ofChange vramFillsWrong)

/-- 'tandemlaw8.VramValids': WHATEVER THE INPUT: true; the input reads as it did. -/
def vramValidsSpec : ChangeSpec := { name := "vramValids", fn := fun _ => fun
  | [d1, d2] => { results := [.lit (.bool true)], args := [d1, d2] }
  | _ => none }
def vramValidsRow : OpenClaim := { program := "ytecaipakaaongaa", sum := "fef74076a451b40452589982e8c85a9c294d866987cacc6f9eeea89bcc263c53", func := "tandem/tandemlaw8.VramValids", spec := "vramValids", unfollowed := true, recurses := true, apart := false }
def VramValidsSaid : Prop := vramValidsRow.holds Try.pinned (OpenSpec.ofChange vramValidsSpec)

/-- ITS FALSE NEIGHBOUR: 'it returns false'. Refute it at one input. -/
def vramValidsWrong : ChangeSpec := { name := "vramValids", fn := fun _ => fun
  | [d1, d2] => { results := [.lit (.bool false)], args := [d1, d2] }
  | _ => none }
def VramValidsWrongFalsely : Prop := vramValidsRow.holds Try.pinned (OpenSpec.ofChange vramValidsWrong)

/-- 'tandemlaw8.VramWrites': WHATEVER THE INPUT: true; the input reads as it did. -/
def vramWritesSpec : ChangeSpec := { name := "vramWrites", fn := fun _ => fun
  | [d1, d2, d3, d4] => { results := [.lit (.bool true)], args := [d1, d2, d3, d4] }
  | _ => none }
def vramWritesRow : OpenClaim := { program := "ytecaipakaaongaa", sum := "fef74076a451b40452589982e8c85a9c294d866987cacc6f9eeea89bcc263c53", func := "tandem/tandemlaw8.VramWrites", spec := "vramWrites", unfollowed := true, recurses := true, apart := false }
def VramWritesSaid : Prop := vramWritesRow.holds Try.pinned (OpenSpec.ofChange vramWritesSpec)

/-- ITS FALSE NEIGHBOUR: 'it returns false'. Refute it at one input. -/
def vramWritesWrong : ChangeSpec := { name := "vramWrites", fn := fun _ => fun
  | [d1, d2, d3, d4] => { results := [.lit (.bool false)], args := [d1, d2, d3, d4] }
  | _ => none }
def VramWritesWrongFalsely : Prop := vramWritesRow.holds Try.pinned (OpenSpec.ofChange vramWritesWrong)

/-- 'tandemlaw8.VramPeeks': WHATEVER THE INPUT: true; the input reads as it did. -/
def vramPeeksSpec : ChangeSpec := { name := "vramPeeks", fn := fun _ => fun
  | [d1, d2, d3, d4, d5] => { results := [.lit (.bool true)], args := [d1, d2, d3, d4, d5] }
  | _ => none }
def vramPeeksRow : OpenClaim := { program := "ytecaipakaaongaa", sum := "fef74076a451b40452589982e8c85a9c294d866987cacc6f9eeea89bcc263c53", func := "tandem/tandemlaw8.VramPeeks", spec := "vramPeeks", unfollowed := true, recurses := true, apart := false }
def VramPeeksSaid : Prop := vramPeeksRow.holds Try.pinned (OpenSpec.ofChange vramPeeksSpec)

/-- ITS FALSE NEIGHBOUR: 'it returns false'. Refute it at one input. -/
def vramPeeksWrong : ChangeSpec := { name := "vramPeeks", fn := fun _ => fun
  | [d1, d2, d3, d4, d5] => { results := [.lit (.bool false)], args := [d1, d2, d3, d4, d5] }
  | _ => none }
def VramPeeksWrongFalsely : Prop := vramPeeksRow.holds Try.pinned (OpenSpec.ofChange vramPeeksWrong)

/- THE SECOND FORM. 'bulk': how many values and letters a reading holds, each counted each time it is reached (what is shared counts as often as it is met; a slice's spare places count too). A statement '..UptoSaid' is the law's where the arguments, and the package variables that the reading takes, are together of bulk at most 1048576: NARROWER than '..Said'. Prove '..Said' where nothing that the law and all that it calls make is longer than what came in: it says more and counts as full. Else prove '..UptoSaid'. A law counts once. -/
mutual
def uptoBulk {H : Type} : DataW H → Nat
  | .lit (.string bytes) => bytes.length + 1
  | .lit _ => 1
  | .nil => 1
  | .ptr d => uptoBulk d + 1
  | .slice elems spare => uptoBulkAll elems + uptoBulkAll spare + 1
  | .agg parts => uptoBulkAll parts + 1
  | .iface _ d => uptoBulk d + 1
  | .map entries => uptoBulkEntries entries + 1
  | .held _ => 1
def uptoBulkAll {H : Type} : List (DataW H) → Nat
  | [] => 0
  | d :: r => uptoBulk d + uptoBulkAll r
def uptoBulkEntries {H : Type} : List (Lit × DataW H) → Nat
  | [] => 0
  | x :: r => uptoBulkEntry x + uptoBulkEntries r
def uptoBulkEntry {H : Type} : Lit × DataW H → Nat
  | (.string bytes, d) => bytes.length + uptoBulk d + 1
  | (_, d) => uptoBulk d + 1
 end
def uptoSmall : (H : Type) → List (DataW H) → Bool := fun _ ds => decide (uptoBulkAll ds ≤ 1048576)
def OpenSpec.upto (s : _root_.Go.ChangeSpec) : _root_.Go.OpenSpec := { _root_.Go.OpenSpec.ofChange s with cond := some uptoSmall }

/-- 'tandemlaw8.VramFills', WHERE WHAT IT READS IS OF BULK AT MOST 1048576: true; the input reads as it did. -/
def vramFillsUptoRow : OpenClaim := { program := "ytecaipakaaongaa", sum := "fef74076a451b40452589982e8c85a9c294d866987cacc6f9eeea89bcc263c53", func := "tandem/tandemlaw8.VramFills", spec := "vramFills", apart := false, narrowed := true }
def VramFillsUptoSaid : Prop := vramFillsUptoRow.holds Try.pinned (OpenSpec.upto vramFillsSpec)

/-- 'tandemlaw8.VramValids', WHERE WHAT IT READS IS OF BULK AT MOST 1048576: true; the input reads as it did. -/
def vramValidsUptoRow : OpenClaim := { program := "ytecaipakaaongaa", sum := "fef74076a451b40452589982e8c85a9c294d866987cacc6f9eeea89bcc263c53", func := "tandem/tandemlaw8.VramValids", spec := "vramValids", unfollowed := true, recurses := true, apart := false, narrowed := true }
def VramValidsUptoSaid : Prop := vramValidsUptoRow.holds Try.pinned (OpenSpec.upto vramValidsSpec)

/-- 'tandemlaw8.VramWrites', WHERE WHAT IT READS IS OF BULK AT MOST 1048576: true; the input reads as it did. -/
def vramWritesUptoRow : OpenClaim := { program := "ytecaipakaaongaa", sum := "fef74076a451b40452589982e8c85a9c294d866987cacc6f9eeea89bcc263c53", func := "tandem/tandemlaw8.VramWrites", spec := "vramWrites", unfollowed := true, recurses := true, apart := false, narrowed := true }
def VramWritesUptoSaid : Prop := vramWritesUptoRow.holds Try.pinned (OpenSpec.upto vramWritesSpec)

/-- 'tandemlaw8.VramPeeks', WHERE WHAT IT READS IS OF BULK AT MOST 1048576: true; the input reads as it did. -/
def vramPeeksUptoRow : OpenClaim := { program := "ytecaipakaaongaa", sum := "fef74076a451b40452589982e8c85a9c294d866987cacc6f9eeea89bcc263c53", func := "tandem/tandemlaw8.VramPeeks", spec := "vramPeeks", unfollowed := true, recurses := true, apart := false, narrowed := true }
def VramPeeksUptoSaid : Prop := vramPeeksUptoRow.holds Try.pinned (OpenSpec.upto vramPeeksSpec)

end Rows
end Go.Proofs.Ytecaipakaaongaa
