/-
  No cell of these rows narrows 'for every input' (looked for: loops, veiled, ifaces, maps, wideKeys, modest, calm, conditions, laid).
  DERIVED. THE GIVEN ROWS OF THIS SEAT. 5 by the template 'for every input the law returns true; each argument reads behind the call as it read before'; 0 by the template 'total and deterministic' (their statements: YtlnpcbofebppcabTotals.lean).
  GIVEN WITH THE SEED: the statements are not yours to turn. If you find one false, say at which input.
  Laid BY PROGRAM, IN A SANDBOX (cutbox-rows.mjs): the forced cells as the released guide's own fill.sh prints them over the translation 1464d0f686ed7832… (all of the seat's roots in one cut). By AI agents, Wed Nov 11 2026. No macro, syntax, notation, axiom, sorry.
-/
import Derived.Test.YtlnpcbofebppcabChecked
import GoSem.Claim
import GoSem.ClaimJoined
import GoSem.ClaimMapViews
import Derived.JoinedTies
import Derived.KernelRfl
namespace Go.Proofs.Ytlnpcbofebppcab
/- THE CELL 'sum', in the pinned program and in every row, IS THE sha256 OF THE DUMP (.gsa) THAT YtlnpcbofebppcabProg.lean LOADS. Nothing in Lean hashes anything: it is a label: what it is worth is what the hold of that sum in a sandbox is worth. -/
noncomputable def Try.pinned : Pinned := { name := "ytlnpcbofebppcab", sum := "1464d0f686ed7832a0dd79d895df21f25395f893246b74abf45dd5e8db4cbd53", checked := Try.checked }
namespace Rows
def none {H : Type} : Left H := { results := [], args := [] }

/-- 'tandemlaw7.RasterLines': WHATEVER THE INPUT: true; the input reads as it did. -/
def rasterLinesSpec : ChangeSpec := { name := "rasterLines", fn := fun _ => fun
  | [d] => { results := [.lit (.bool true)], args := [d] }
  | _ => none }
def rasterLinesRow : OpenClaim := { program := "ytlnpcbofebppcab", sum := "1464d0f686ed7832a0dd79d895df21f25395f893246b74abf45dd5e8db4cbd53", func := "tandem/tandemlaw7.RasterLines", spec := "rasterLines", apart := false }
def RasterLinesSaid : Prop := rasterLinesRow.holds Try.pinned (OpenSpec.ofChange rasterLinesSpec)

/-- ITS FALSE NEIGHBOUR: 'it returns false'. Refute it at one input. -/
def rasterLinesWrong : ChangeSpec := { name := "rasterLines", fn := fun _ => fun
  | [d] => { results := [.lit (.bool false)], args := [d] }
  | _ => none }
def RasterLinesWrongFalsely : Prop := rasterLinesRow.holds Try.pinned (OpenSpec.ofChange rasterLinesWrong)

/-- 'tandemlaw7.RasterRace': WHATEVER THE INPUT: true; the input reads as it did. -/
def rasterRaceSpec : ChangeSpec := { name := "rasterRace", fn := fun _ => fun
  | [d1, d2] => { results := [.lit (.bool true)], args := [d1, d2] }
  | _ => none }
def rasterRaceRow : OpenClaim := { program := "ytlnpcbofebppcab", sum := "1464d0f686ed7832a0dd79d895df21f25395f893246b74abf45dd5e8db4cbd53", func := "tandem/tandemlaw7.RasterRace", spec := "rasterRace", apart := false }
def RasterRaceSaid : Prop := rasterRaceRow.holds Try.pinned (OpenSpec.ofChange rasterRaceSpec)

/-- ITS FALSE NEIGHBOUR: 'it returns false'. Refute it at one input. -/
def rasterRaceWrong : ChangeSpec := { name := "rasterRace", fn := fun _ => fun
  | [d1, d2] => { results := [.lit (.bool false)], args := [d1, d2] }
  | _ => none }
def RasterRaceWrongFalsely : Prop := rasterRaceRow.holds Try.pinned (OpenSpec.ofChange rasterRaceWrong)

/-- 'tandemlaw7.RasterNexts': WHATEVER THE INPUT: true; the input reads as it did. -/
def rasterNextsSpec : ChangeSpec := { name := "rasterNexts", fn := fun _ => fun
  | [d1, d2] => { results := [.lit (.bool true)], args := [d1, d2] }
  | _ => none }
def rasterNextsRow : OpenClaim := { program := "ytlnpcbofebppcab", sum := "1464d0f686ed7832a0dd79d895df21f25395f893246b74abf45dd5e8db4cbd53", func := "tandem/tandemlaw7.RasterNexts", spec := "rasterNexts", apart := false }
def RasterNextsSaid : Prop := rasterNextsRow.holds Try.pinned (OpenSpec.ofChange rasterNextsSpec)

/-- ITS FALSE NEIGHBOUR: 'it returns false'. Refute it at one input. -/
def rasterNextsWrong : ChangeSpec := { name := "rasterNexts", fn := fun _ => fun
  | [d1, d2] => { results := [.lit (.bool false)], args := [d1, d2] }
  | _ => none }
def RasterNextsWrongFalsely : Prop := rasterNextsRow.holds Try.pinned (OpenSpec.ofChange rasterNextsWrong)

/-- 'tandemlaw7.RasterExact': WHATEVER THE INPUT: true; the input reads as it did. -/
def rasterExactSpec : ChangeSpec := { name := "rasterExact", fn := fun _ => fun
  | [d1, d2] => { results := [.lit (.bool true)], args := [d1, d2] }
  | _ => none }
def rasterExactRow : OpenClaim := { program := "ytlnpcbofebppcab", sum := "1464d0f686ed7832a0dd79d895df21f25395f893246b74abf45dd5e8db4cbd53", func := "tandem/tandemlaw7.RasterExact", spec := "rasterExact", unfollowed := true, recurses := true, apart := false }
def RasterExactSaid : Prop := rasterExactRow.holds Try.pinned (OpenSpec.ofChange rasterExactSpec)

/-- ITS FALSE NEIGHBOUR: 'it returns false'. Refute it at one input. -/
def rasterExactWrong : ChangeSpec := { name := "rasterExact", fn := fun _ => fun
  | [d1, d2] => { results := [.lit (.bool false)], args := [d1, d2] }
  | _ => none }
def RasterExactWrongFalsely : Prop := rasterExactRow.holds Try.pinned (OpenSpec.ofChange rasterExactWrong)

/-- 'tandemlaw7.RasterPlays': WHATEVER THE INPUT: true; the input reads as it did. -/
def rasterPlaysSpec : ChangeSpec := { name := "rasterPlays", fn := fun _ => fun
  | [d] => { results := [.lit (.bool true)], args := [d] }
  | _ => none }
def rasterPlaysRow : OpenClaim := { program := "ytlnpcbofebppcab", sum := "1464d0f686ed7832a0dd79d895df21f25395f893246b74abf45dd5e8db4cbd53", func := "tandem/tandemlaw7.RasterPlays", spec := "rasterPlays", unfollowed := true, recurses := true, apart := false }
def RasterPlaysSaid : Prop := rasterPlaysRow.holds Try.pinned (OpenSpec.ofChange rasterPlaysSpec)

/-- ITS FALSE NEIGHBOUR: 'it returns false'. Refute it at one input. -/
def rasterPlaysWrong : ChangeSpec := { name := "rasterPlays", fn := fun _ => fun
  | [d] => { results := [.lit (.bool false)], args := [d] }
  | _ => none }
def RasterPlaysWrongFalsely : Prop := rasterPlaysRow.holds Try.pinned (OpenSpec.ofChange rasterPlaysWrong)

/- THE SECOND FORM. 'bulk': how many values and letters a reading holds, each counted each time it is reached (what is shared counts as often as it is met; a slice's spare places count too). A statement '..UptoSaid' is the law's where the arguments, and the package variables that the reading takes, are together of bulk at most 1048576: NARROWER than '..Said'. Prove '..Said' where nothing that the law and all that it calls make is longer than what came in: it says more and counts as full. Else prove '..UptoSaid'. A law counts once. -/
mutual
def uptoBulk {H : Type} : DataW H → Nat
  | .lit (.string bytes) => bytes.length + 1
  | .lit _ => 1
  | .nil => 1
  | .ptr d => uptoBulk d + 1
  | .slice elems spare => uptoBulkAll elems + uptoBulkAll spare + 1
  | .agg parts => uptoBulkAll parts + 1
  | .iface _ d => uptoBulk d + 1
  | .map entries => uptoBulkEntries entries + 1
  | .held _ => 1
def uptoBulkAll {H : Type} : List (DataW H) → Nat
  | [] => 0
  | d :: r => uptoBulk d + uptoBulkAll r
def uptoBulkEntries {H : Type} : List (Lit × DataW H) → Nat
  | [] => 0
  | x :: r => uptoBulkEntry x + uptoBulkEntries r
def uptoBulkEntry {H : Type} : Lit × DataW H → Nat
  | (.string bytes, d) => bytes.length + uptoBulk d + 1
  | (_, d) => uptoBulk d + 1
 end
def uptoSmall : (H : Type) → List (DataW H) → Bool := fun _ ds => decide (uptoBulkAll ds ≤ 1048576)
def OpenSpec.upto (s : _root_.Go.ChangeSpec) : _root_.Go.OpenSpec := { _root_.Go.OpenSpec.ofChange s with cond := some uptoSmall }

/-- 'tandemlaw7.RasterLines', WHERE WHAT IT READS IS OF BULK AT MOST 1048576: true; the input reads as it did. -/
def rasterLinesUptoRow : OpenClaim := { program := "ytlnpcbofebppcab", sum := "1464d0f686ed7832a0dd79d895df21f25395f893246b74abf45dd5e8db4cbd53", func := "tandem/tandemlaw7.RasterLines", spec := "rasterLines", apart := false, narrowed := true }
def RasterLinesUptoSaid : Prop := rasterLinesUptoRow.holds Try.pinned (OpenSpec.upto rasterLinesSpec)

/-- 'tandemlaw7.RasterRace', WHERE WHAT IT READS IS OF BULK AT MOST 1048576: true; the input reads as it did. -/
def rasterRaceUptoRow : OpenClaim := { program := "ytlnpcbofebppcab", sum := "1464d0f686ed7832a0dd79d895df21f25395f893246b74abf45dd5e8db4cbd53", func := "tandem/tandemlaw7.RasterRace", spec := "rasterRace", apart := false, narrowed := true }
def RasterRaceUptoSaid : Prop := rasterRaceUptoRow.holds Try.pinned (OpenSpec.upto rasterRaceSpec)

/-- 'tandemlaw7.RasterNexts', WHERE WHAT IT READS IS OF BULK AT MOST 1048576: true; the input reads as it did. -/
def rasterNextsUptoRow : OpenClaim := { program := "ytlnpcbofebppcab", sum := "1464d0f686ed7832a0dd79d895df21f25395f893246b74abf45dd5e8db4cbd53", func := "tandem/tandemlaw7.RasterNexts", spec := "rasterNexts", apart := false, narrowed := true }
def RasterNextsUptoSaid : Prop := rasterNextsUptoRow.holds Try.pinned (OpenSpec.upto rasterNextsSpec)

/-- 'tandemlaw7.RasterExact', WHERE WHAT IT READS IS OF BULK AT MOST 1048576: true; the input reads as it did. -/
def rasterExactUptoRow : OpenClaim := { program := "ytlnpcbofebppcab", sum := "1464d0f686ed7832a0dd79d895df21f25395f893246b74abf45dd5e8db4cbd53", func := "tandem/tandemlaw7.RasterExact", spec := "rasterExact", unfollowed := true, recurses := true, apart := false, narrowed := true }
def RasterExactUptoSaid : Prop := rasterExactUptoRow.holds Try.pinned (OpenSpec.upto rasterExactSpec)

/-- 'tandemlaw7.RasterPlays', WHERE WHAT IT READS IS OF BULK AT MOST 1048576: true; the input reads as it did. -/
def rasterPlaysUptoRow : OpenClaim := { program := "ytlnpcbofebppcab", sum := "1464d0f686ed7832a0dd79d895df21f25395f893246b74abf45dd5e8db4cbd53", func := "tandem/tandemlaw7.RasterPlays", spec := "rasterPlays", unfollowed := true, recurses := true, apart := false, narrowed := true }
def RasterPlaysUptoSaid : Prop := rasterPlaysUptoRow.holds Try.pinned (OpenSpec.upto rasterPlaysSpec)

end Rows
end Go.Proofs.Ytlnpcbofebppcab
