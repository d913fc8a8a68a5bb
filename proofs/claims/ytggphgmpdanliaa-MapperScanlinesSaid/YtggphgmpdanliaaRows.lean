/-
  No cell of these rows narrows 'for every input' (looked for: loops, veiled, ifaces, maps, wideKeys, modest, calm, conditions, laid).
  DERIVED. THE GIVEN ROWS OF THIS SEAT. 12 by the template 'for every input the law returns true; each argument reads behind the call as it read before'; 0 by the template 'total and deterministic' (their statements: YtggphgmpdanliaaTotals.lean).
  GIVEN WITH THE SEED: the statements are not yours to turn. If you find one false, say at which input.
  Laid BY PROGRAM, IN A SANDBOX (cutbox-rows.mjs): the forced cells as the released guide's own fill.sh prints them over the translation 5bf37efd8d0e48ae… (all of the seat's roots in one cut). By AI agents, Wed Nov 11 2026. No macro, syntax, notation, axiom, sorry.
-/
import Derived.Test.YtggphgmpdanliaaChecked
import GoSem.Claim
import GoSem.ClaimJoined
import GoSem.ClaimMapViews
import Derived.JoinedTies
import Derived.KernelRfl
namespace Go.Proofs.Ytggphgmpdanliaa
/- THE CELL 'sum', in the pinned program and in every row, IS THE sha256 OF THE DUMP (.gsa) THAT YtggphgmpdanliaaProg.lean LOADS. Nothing in Lean hashes anything: it is a label: what it is worth is what the hold of that sum in a sandbox is worth. -/
noncomputable def Try.pinned : Pinned := { name := "ytggphgmpdanliaa", sum := "5bf37efd8d0e48ae5adc971795ca405d314eaf2a744fdc6a6608022c424423fd", checked := Try.checked }
namespace Rows
def none {H : Type} : Left H := { results := [], args := [] }

/-- 'tandemlaw2.MapperDoubles': WHATEVER THE INPUT: true; the input reads as it did. -/
def mapperDoublesSpec : ChangeSpec := { name := "mapperDoubles", fn := fun _ => fun
  | [d1, d2, d3] => { results := [.lit (.bool true)], args := [d1, d2, d3] }
  | _ => none }
def mapperDoublesRow : OpenClaim := { program := "ytggphgmpdanliaa", sum := "5bf37efd8d0e48ae5adc971795ca405d314eaf2a744fdc6a6608022c424423fd", func := "tandem/tandemlaw2.MapperDoubles", spec := "mapperDoubles", unfollowed := true, recurses := true, apart := false }
def MapperDoublesSaid : Prop := mapperDoublesRow.holds Try.pinned (OpenSpec.ofChange mapperDoublesSpec)

/-- ITS FALSE NEIGHBOUR: 'it returns false'. Refute it at one input. -/
def mapperDoublesWrong : ChangeSpec := { name := "mapperDoubles", fn := fun _ => fun
  | [d1, d2, d3] => { results := [.lit (.bool false)], args := [d1, d2, d3] }
  | _ => none }
def MapperDoublesWrongFalsely : Prop := mapperDoublesRow.holds Try.pinned (OpenSpec.ofChange mapperDoublesWrong)

/-- 'tandemlaw2.MapperWrites': WHATEVER THE INPUT: true; the input reads as it did. -/
def mapperWritesSpec : ChangeSpec := { name := "mapperWrites", fn := fun _ => fun
  | [d1, d2] => { results := [.lit (.bool true)], args := [d1, d2] }
  | _ => none }
def mapperWritesRow : OpenClaim := { program := "ytggphgmpdanliaa", sum := "5bf37efd8d0e48ae5adc971795ca405d314eaf2a744fdc6a6608022c424423fd", func := "tandem/tandemlaw2.MapperWrites", spec := "mapperWrites", unfollowed := true, recurses := true, apart := false }
def MapperWritesSaid : Prop := mapperWritesRow.holds Try.pinned (OpenSpec.ofChange mapperWritesSpec)

/-- ITS FALSE NEIGHBOUR: 'it returns false'. Refute it at one input. -/
def mapperWritesWrong : ChangeSpec := { name := "mapperWrites", fn := fun _ => fun
  | [d1, d2] => { results := [.lit (.bool false)], args := [d1, d2] }
  | _ => none }
def MapperWritesWrongFalsely : Prop := mapperWritesRow.holds Try.pinned (OpenSpec.ofChange mapperWritesWrong)

/-- 'tandemlaw2.MapperFixed': WHATEVER THE INPUT: true; the input reads as it did. -/
def mapperFixedSpec : ChangeSpec := { name := "mapperFixed", fn := fun _ => fun
  | [d1, d2] => { results := [.lit (.bool true)], args := [d1, d2] }
  | _ => none }
def mapperFixedRow : OpenClaim := { program := "ytggphgmpdanliaa", sum := "5bf37efd8d0e48ae5adc971795ca405d314eaf2a744fdc6a6608022c424423fd", func := "tandem/tandemlaw2.MapperFixed", spec := "mapperFixed", unfollowed := true, recurses := true, apart := false }
def MapperFixedSaid : Prop := mapperFixedRow.holds Try.pinned (OpenSpec.ofChange mapperFixedSpec)

/-- ITS FALSE NEIGHBOUR: 'it returns false'. Refute it at one input. -/
def mapperFixedWrong : ChangeSpec := { name := "mapperFixed", fn := fun _ => fun
  | [d1, d2] => { results := [.lit (.bool false)], args := [d1, d2] }
  | _ => none }
def MapperFixedWrongFalsely : Prop := mapperFixedRow.holds Try.pinned (OpenSpec.ofChange mapperFixedWrong)

/-- 'tandemlaw2.MapperSerial': WHATEVER THE INPUT: true; the input reads as it did. -/
def mapperSerialSpec : ChangeSpec := { name := "mapperSerial", fn := fun _ => fun
  | [d1, d2, d3, d4, d5] => { results := [.lit (.bool true)], args := [d1, d2, d3, d4, d5] }
  | _ => none }
def mapperSerialRow : OpenClaim := { program := "ytggphgmpdanliaa", sum := "5bf37efd8d0e48ae5adc971795ca405d314eaf2a744fdc6a6608022c424423fd", func := "tandem/tandemlaw2.MapperSerial", spec := "mapperSerial", unfollowed := true, recurses := true, apart := false }
def MapperSerialSaid : Prop := mapperSerialRow.holds Try.pinned (OpenSpec.ofChange mapperSerialSpec)

/-- ITS FALSE NEIGHBOUR: 'it returns false'. Refute it at one input. -/
def mapperSerialWrong : ChangeSpec := { name := "mapperSerial", fn := fun _ => fun
  | [d1, d2, d3, d4, d5] => { results := [.lit (.bool false)], args := [d1, d2, d3, d4, d5] }
  | _ => none }
def MapperSerialWrongFalsely : Prop := mapperSerialRow.holds Try.pinned (OpenSpec.ofChange mapperSerialWrong)

/-- 'tandemlaw2.MapperTwins': WHATEVER THE INPUT: true; the input reads as it did. -/
def mapperTwinsSpec : ChangeSpec := { name := "mapperTwins", fn := fun _ => fun
  | [d1, d2, d3] => { results := [.lit (.bool true)], args := [d1, d2, d3] }
  | _ => none }
def mapperTwinsRow : OpenClaim := { program := "ytggphgmpdanliaa", sum := "5bf37efd8d0e48ae5adc971795ca405d314eaf2a744fdc6a6608022c424423fd", func := "tandem/tandemlaw2.MapperTwins", spec := "mapperTwins", unfollowed := true, recurses := true, apart := false }
def MapperTwinsSaid : Prop := mapperTwinsRow.holds Try.pinned (OpenSpec.ofChange mapperTwinsSpec)

/-- ITS FALSE NEIGHBOUR: 'it returns false'. Refute it at one input. -/
def mapperTwinsWrong : ChangeSpec := { name := "mapperTwins", fn := fun _ => fun
  | [d1, d2, d3] => { results := [.lit (.bool false)], args := [d1, d2, d3] }
  | _ => none }
def MapperTwinsWrongFalsely : Prop := mapperTwinsRow.holds Try.pinned (OpenSpec.ofChange mapperTwinsWrong)

/-- 'tandemlaw2.MapperScanlines': WHATEVER THE INPUT: true; the input reads as it did. -/
def mapperScanlinesSpec : ChangeSpec := { name := "mapperScanlines", fn := fun _ => fun
  | [d1, d2, d3] => { results := [.lit (.bool true)], args := [d1, d2, d3] }
  | _ => none }
def mapperScanlinesRow : OpenClaim := { program := "ytggphgmpdanliaa", sum := "5bf37efd8d0e48ae5adc971795ca405d314eaf2a744fdc6a6608022c424423fd", func := "tandem/tandemlaw2.MapperScanlines", spec := "mapperScanlines", unfollowed := true, recurses := true, apart := false }
def MapperScanlinesSaid : Prop := mapperScanlinesRow.holds Try.pinned (OpenSpec.ofChange mapperScanlinesSpec)

/-- ITS FALSE NEIGHBOUR: 'it returns false'. Refute it at one input. -/
def mapperScanlinesWrong : ChangeSpec := { name := "mapperScanlines", fn := fun _ => fun
  | [d1, d2, d3] => { results := [.lit (.bool false)], args := [d1, d2, d3] }
  | _ => none }
def MapperScanlinesWrongFalsely : Prop := mapperScanlinesRow.holds Try.pinned (OpenSpec.ofChange mapperScanlinesWrong)

/-- 'tandemlaw2.MapperSums': WHATEVER THE INPUT: true; the input reads as it did. -/
def mapperSumsSpec : ChangeSpec := { name := "mapperSums", fn := fun _ => fun
  | [d1, d2, d3] => { results := [.lit (.bool true)], args := [d1, d2, d3] }
  | _ => none }
def mapperSumsRow : OpenClaim := { program := "ytggphgmpdanliaa", sum := "5bf37efd8d0e48ae5adc971795ca405d314eaf2a744fdc6a6608022c424423fd", func := "tandem/tandemlaw2.MapperSums", spec := "mapperSums", unfollowed := true, recurses := true, apart := false }
def MapperSumsSaid : Prop := mapperSumsRow.holds Try.pinned (OpenSpec.ofChange mapperSumsSpec)

/-- ITS FALSE NEIGHBOUR: 'it returns false'. Refute it at one input. -/
def mapperSumsWrong : ChangeSpec := { name := "mapperSums", fn := fun _ => fun
  | [d1, d2, d3] => { results := [.lit (.bool false)], args := [d1, d2, d3] }
  | _ => none }
def MapperSumsWrongFalsely : Prop := mapperSumsRow.holds Try.pinned (OpenSpec.ofChange mapperSumsWrong)

/-- 'tandemlaw2.MapperEpochs': WHATEVER THE INPUT: true; the input reads as it did. -/
def mapperEpochsSpec : ChangeSpec := { name := "mapperEpochs", fn := fun _ => fun
  | [d1, d2] => { results := [.lit (.bool true)], args := [d1, d2] }
  | _ => none }
def mapperEpochsRow : OpenClaim := { program := "ytggphgmpdanliaa", sum := "5bf37efd8d0e48ae5adc971795ca405d314eaf2a744fdc6a6608022c424423fd", func := "tandem/tandemlaw2.MapperEpochs", spec := "mapperEpochs", unfollowed := true, recurses := true, apart := false }
def MapperEpochsSaid : Prop := mapperEpochsRow.holds Try.pinned (OpenSpec.ofChange mapperEpochsSpec)

/-- ITS FALSE NEIGHBOUR: 'it returns false'. Refute it at one input. -/
def mapperEpochsWrong : ChangeSpec := { name := "mapperEpochs", fn := fun _ => fun
  | [d1, d2] => { results := [.lit (.bool false)], args := [d1, d2] }
  | _ => none }
def MapperEpochsWrongFalsely : Prop := mapperEpochsRow.holds Try.pinned (OpenSpec.ofChange mapperEpochsWrong)

/-- 'tandemlaw2.MapperSees': WHATEVER THE INPUT: true; the input reads as it did. -/
def mapperSeesSpec : ChangeSpec := { name := "mapperSees", fn := fun _ => fun
  | [d1, d2, d3] => { results := [.lit (.bool true)], args := [d1, d2, d3] }
  | _ => none }
def mapperSeesRow : OpenClaim := { program := "ytggphgmpdanliaa", sum := "5bf37efd8d0e48ae5adc971795ca405d314eaf2a744fdc6a6608022c424423fd", func := "tandem/tandemlaw2.MapperSees", spec := "mapperSees", unfollowed := true, recurses := true, apart := false }
def MapperSeesSaid : Prop := mapperSeesRow.holds Try.pinned (OpenSpec.ofChange mapperSeesSpec)

/-- ITS FALSE NEIGHBOUR: 'it returns false'. Refute it at one input. -/
def mapperSeesWrong : ChangeSpec := { name := "mapperSees", fn := fun _ => fun
  | [d1, d2, d3] => { results := [.lit (.bool false)], args := [d1, d2, d3] }
  | _ => none }
def MapperSeesWrongFalsely : Prop := mapperSeesRow.holds Try.pinned (OpenSpec.ofChange mapperSeesWrong)

/-- 'tandemlaw2.MapperMirrors': WHATEVER THE INPUT: true; the input reads as it did. -/
def mapperMirrorsSpec : ChangeSpec := { name := "mapperMirrors", fn := fun _ => fun
  | [d1, d2, d3] => { results := [.lit (.bool true)], args := [d1, d2, d3] }
  | _ => none }
def mapperMirrorsRow : OpenClaim := { program := "ytggphgmpdanliaa", sum := "5bf37efd8d0e48ae5adc971795ca405d314eaf2a744fdc6a6608022c424423fd", func := "tandem/tandemlaw2.MapperMirrors", spec := "mapperMirrors", unfollowed := true, recurses := true, apart := false }
def MapperMirrorsSaid : Prop := mapperMirrorsRow.holds Try.pinned (OpenSpec.ofChange mapperMirrorsSpec)

/-- ITS FALSE NEIGHBOUR: 'it returns false'. Refute it at one input. -/
def mapperMirrorsWrong : ChangeSpec := { name := "mapperMirrors", fn := fun _ => fun
  | [d1, d2, d3] => { results := [.lit (.bool false)], args := [d1, d2, d3] }
  | _ => none }
def MapperMirrorsWrongFalsely : Prop := mapperMirrorsRow.holds Try.pinned (OpenSpec.ofChange mapperMirrorsWrong)

/-- 'tandemlaw2.MapperInside': WHATEVER THE INPUT: true; the input reads as it did. -/
def mapperInsideSpec : ChangeSpec := { name := "mapperInside", fn := fun _ => fun
  | [d1, d2] => { results := [.lit (.bool true)], args := [d1, d2] }
  | _ => none }
def mapperInsideRow : OpenClaim := { program := "ytggphgmpdanliaa", sum := "5bf37efd8d0e48ae5adc971795ca405d314eaf2a744fdc6a6608022c424423fd", func := "tandem/tandemlaw2.MapperInside", spec := "mapperInside", unfollowed := true, recurses := true, apart := false }
def MapperInsideSaid : Prop := mapperInsideRow.holds Try.pinned (OpenSpec.ofChange mapperInsideSpec)

/-- ITS FALSE NEIGHBOUR: 'it returns false'. Refute it at one input. -/
def mapperInsideWrong : ChangeSpec := { name := "mapperInside", fn := fun _ => fun
  | [d1, d2] => { results := [.lit (.bool false)], args := [d1, d2] }
  | _ => none }
def MapperInsideWrongFalsely : Prop := mapperInsideRow.holds Try.pinned (OpenSpec.ofChange mapperInsideWrong)

/-- 'tandemlaw2.MapperPlays': WHATEVER THE INPUT: true; the input reads as it did. -/
def mapperPlaysSpec : ChangeSpec := { name := "mapperPlays", fn := fun _ => fun
  | [d1, d2] => { results := [.lit (.bool true)], args := [d1, d2] }
  | _ => none }
def mapperPlaysRow : OpenClaim := { program := "ytggphgmpdanliaa", sum := "5bf37efd8d0e48ae5adc971795ca405d314eaf2a744fdc6a6608022c424423fd", func := "tandem/tandemlaw2.MapperPlays", spec := "mapperPlays", unfollowed := true, recurses := true, apart := false }
def MapperPlaysSaid : Prop := mapperPlaysRow.holds Try.pinned (OpenSpec.ofChange mapperPlaysSpec)

/-- ITS FALSE NEIGHBOUR: 'it returns false'. Refute it at one input. -/
def mapperPlaysWrong : ChangeSpec := { name := "mapperPlays", fn := fun _ => fun
  | [d1, d2] => { results := [.lit (.bool false)], args := [d1, d2] }
  | _ => none }
def MapperPlaysWrongFalsely : Prop := mapperPlaysRow.holds Try.pinned (OpenSpec.ofChange mapperPlaysWrong)

/- THE SECOND FORM. 'bulk': how many values and letters a reading holds, each counted each time it is reached (what is shared counts as often as it is met; a slice's spare places count too). A statement '..UptoSaid' is the law's where the arguments, and the package variables that the reading takes, are together of bulk at most 1048576: NARROWER than '..Said'. Prove '..Said' where nothing that the law and all that it calls make is longer than what came in: it says more and counts as full. Else prove '..UptoSaid'. A law counts once. -/
mutual
def uptoBulk {H : Type} : DataW H → Nat
  | .lit (.string bytes) => bytes.length + 1
  | .lit _ => 1
  | .nil => 1
  | .ptr d => uptoBulk d + 1
  | .slice elems spare => uptoBulkAll elems + uptoBulkAll spare + 1
  | .agg parts => uptoBulkAll parts + 1
  | .iface _ d => uptoBulk d + 1
  | .map entries => uptoBulkEntries entries + 1
  | .held _ => 1
def uptoBulkAll {H : Type} : List (DataW H) → Nat
  | [] => 0
  | d :: r => uptoBulk d + uptoBulkAll r
def uptoBulkEntries {H : Type} : List (Lit × DataW H) → Nat
  | [] => 0
  | x :: r => uptoBulkEntry x + uptoBulkEntries r
def uptoBulkEntry {H : Type} : Lit × DataW H → Nat
  | (.string bytes, d) => bytes.length + uptoBulk d + 1
  | (_, d) => uptoBulk d + 1
 end
def uptoSmall : (H : Type) → List (DataW H) → Bool := fun _ ds => decide (uptoBulkAll ds ≤ 1048576)
def OpenSpec.upto (s : _root_.Go.ChangeSpec) : _root_.Go.OpenSpec := { _root_.Go.OpenSpec.ofChange s with cond := some uptoSmall }

/-- 'tandemlaw2.MapperDoubles', WHERE WHAT IT READS IS OF BULK AT MOST 1048576: true; the input reads as it did. -/
def mapperDoublesUptoRow : OpenClaim := { program := "ytggphgmpdanliaa", sum := "5bf37efd8d0e48ae5adc971795ca405d314eaf2a744fdc6a6608022c424423fd", func := "tandem/tandemlaw2.MapperDoubles", spec := "mapperDoubles", unfollowed := true, recurses := true, apart := false, narrowed := true }
def MapperDoublesUptoSaid : Prop := mapperDoublesUptoRow.holds Try.pinned (OpenSpec.upto mapperDoublesSpec)

/-- 'tandemlaw2.MapperWrites', WHERE WHAT IT READS IS OF BULK AT MOST 1048576: true; the input reads as it did. -/
def mapperWritesUptoRow : OpenClaim := { program := "ytggphgmpdanliaa", sum := "5bf37efd8d0e48ae5adc971795ca405d314eaf2a744fdc6a6608022c424423fd", func := "tandem/tandemlaw2.MapperWrites", spec := "mapperWrites", unfollowed := true, recurses := true, apart := false, narrowed := true }
def MapperWritesUptoSaid : Prop := mapperWritesUptoRow.holds Try.pinned (OpenSpec.upto mapperWritesSpec)

/-- 'tandemlaw2.MapperFixed', WHERE WHAT IT READS IS OF BULK AT MOST 1048576: true; the input reads as it did. -/
def mapperFixedUptoRow : OpenClaim := { program := "ytggphgmpdanliaa", sum := "5bf37efd8d0e48ae5adc971795ca405d314eaf2a744fdc6a6608022c424423fd", func := "tandem/tandemlaw2.MapperFixed", spec := "mapperFixed", unfollowed := true, recurses := true, apart := false, narrowed := true }
def MapperFixedUptoSaid : Prop := mapperFixedUptoRow.holds Try.pinned (OpenSpec.upto mapperFixedSpec)

/-- 'tandemlaw2.MapperSerial', WHERE WHAT IT READS IS OF BULK AT MOST 1048576: true; the input reads as it did. -/
def mapperSerialUptoRow : OpenClaim := { program := "ytggphgmpdanliaa", sum := "5bf37efd8d0e48ae5adc971795ca405d314eaf2a744fdc6a6608022c424423fd", func := "tandem/tandemlaw2.MapperSerial", spec := "mapperSerial", unfollowed := true, recurses := true, apart := false, narrowed := true }
def MapperSerialUptoSaid : Prop := mapperSerialUptoRow.holds Try.pinned (OpenSpec.upto mapperSerialSpec)

/-- 'tandemlaw2.MapperTwins', WHERE WHAT IT READS IS OF BULK AT MOST 1048576: true; the input reads as it did. -/
def mapperTwinsUptoRow : OpenClaim := { program := "ytggphgmpdanliaa", sum := "5bf37efd8d0e48ae5adc971795ca405d314eaf2a744fdc6a6608022c424423fd", func := "tandem/tandemlaw2.MapperTwins", spec := "mapperTwins", unfollowed := true, recurses := true, apart := false, narrowed := true }
def MapperTwinsUptoSaid : Prop := mapperTwinsUptoRow.holds Try.pinned (OpenSpec.upto mapperTwinsSpec)

/-- 'tandemlaw2.MapperScanlines', WHERE WHAT IT READS IS OF BULK AT MOST 1048576: true; the input reads as it did. -/
def mapperScanlinesUptoRow : OpenClaim := { program := "ytggphgmpdanliaa", sum := "5bf37efd8d0e48ae5adc971795ca405d314eaf2a744fdc6a6608022c424423fd", func := "tandem/tandemlaw2.MapperScanlines", spec := "mapperScanlines", unfollowed := true, recurses := true, apart := false, narrowed := true }
def MapperScanlinesUptoSaid : Prop := mapperScanlinesUptoRow.holds Try.pinned (OpenSpec.upto mapperScanlinesSpec)

/-- 'tandemlaw2.MapperSums', WHERE WHAT IT READS IS OF BULK AT MOST 1048576: true; the input reads as it did. -/
def mapperSumsUptoRow : OpenClaim := { program := "ytggphgmpdanliaa", sum := "5bf37efd8d0e48ae5adc971795ca405d314eaf2a744fdc6a6608022c424423fd", func := "tandem/tandemlaw2.MapperSums", spec := "mapperSums", unfollowed := true, recurses := true, apart := false, narrowed := true }
def MapperSumsUptoSaid : Prop := mapperSumsUptoRow.holds Try.pinned (OpenSpec.upto mapperSumsSpec)

/-- 'tandemlaw2.MapperEpochs', WHERE WHAT IT READS IS OF BULK AT MOST 1048576: true; the input reads as it did. -/
def mapperEpochsUptoRow : OpenClaim := { program := "ytggphgmpdanliaa", sum := "5bf37efd8d0e48ae5adc971795ca405d314eaf2a744fdc6a6608022c424423fd", func := "tandem/tandemlaw2.MapperEpochs", spec := "mapperEpochs", unfollowed := true, recurses := true, apart := false, narrowed := true }
def MapperEpochsUptoSaid : Prop := mapperEpochsUptoRow.holds Try.pinned (OpenSpec.upto mapperEpochsSpec)

/-- 'tandemlaw2.MapperSees', WHERE WHAT IT READS IS OF BULK AT MOST 1048576: true; the input reads as it did. -/
def mapperSeesUptoRow : OpenClaim := { program := "ytggphgmpdanliaa", sum := "5bf37efd8d0e48ae5adc971795ca405d314eaf2a744fdc6a6608022c424423fd", func := "tandem/tandemlaw2.MapperSees", spec := "mapperSees", unfollowed := true, recurses := true, apart := false, narrowed := true }
def MapperSeesUptoSaid : Prop := mapperSeesUptoRow.holds Try.pinned (OpenSpec.upto mapperSeesSpec)

/-- 'tandemlaw2.MapperMirrors', WHERE WHAT IT READS IS OF BULK AT MOST 1048576: true; the input reads as it did. -/
def mapperMirrorsUptoRow : OpenClaim := { program := "ytggphgmpdanliaa", sum := "5bf37efd8d0e48ae5adc971795ca405d314eaf2a744fdc6a6608022c424423fd", func := "tandem/tandemlaw2.MapperMirrors", spec := "mapperMirrors", unfollowed := true, recurses := true, apart := false, narrowed := true }
def MapperMirrorsUptoSaid : Prop := mapperMirrorsUptoRow.holds Try.pinned (OpenSpec.upto mapperMirrorsSpec)

/-- 'tandemlaw2.MapperInside', WHERE WHAT IT READS IS OF BULK AT MOST 1048576: true; the input reads as it did. -/
def mapperInsideUptoRow : OpenClaim := { program := "ytggphgmpdanliaa", sum := "5bf37efd8d0e48ae5adc971795ca405d314eaf2a744fdc6a6608022c424423fd", func := "tandem/tandemlaw2.MapperInside", spec := "mapperInside", unfollowed := true, recurses := true, apart := false, narrowed := true }
def MapperInsideUptoSaid : Prop := mapperInsideUptoRow.holds Try.pinned (OpenSpec.upto mapperInsideSpec)

/-- 'tandemlaw2.MapperPlays', WHERE WHAT IT READS IS OF BULK AT MOST 1048576: true; the input reads as it did. -/
def mapperPlaysUptoRow : OpenClaim := { program := "ytggphgmpdanliaa", sum := "5bf37efd8d0e48ae5adc971795ca405d314eaf2a744fdc6a6608022c424423fd", func := "tandem/tandemlaw2.MapperPlays", spec := "mapperPlays", unfollowed := true, recurses := true, apart := false, narrowed := true }
def MapperPlaysUptoSaid : Prop := mapperPlaysUptoRow.holds Try.pinned (OpenSpec.upto mapperPlaysSpec)

end Rows
end Go.Proofs.Ytggphgmpdanliaa
