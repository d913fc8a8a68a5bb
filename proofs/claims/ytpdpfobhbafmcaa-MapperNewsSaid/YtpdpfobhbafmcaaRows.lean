/-
  No cell of these rows narrows 'for every input' (looked for: loops, veiled, ifaces, maps, wideKeys, modest, calm, conditions, laid).
  DERIVED. THE GIVEN ROWS OF THIS SEAT. 3 by the template 'for every input the law returns true; each argument reads behind the call as it read before'; 0 by the template 'total and deterministic' (their statements: YtpdpfobhbafmcaaTotals.lean).
  GIVEN WITH THE SEED: the statements are not yours to turn. If you find one false, say at which input.
  Laid BY PROGRAM, IN A SANDBOX (cutbox-rows.mjs): the forced cells as the released guide's own fill.sh prints them over the translation a74d40ad5302c2af… (all of the seat's roots in one cut). By AI agents, Wed Nov 11 2026. No macro, syntax, notation, axiom, sorry.
-/
import Derived.Test.YtpdpfobhbafmcaaChecked
import GoSem.Claim
import GoSem.ClaimJoined
import GoSem.ClaimMapViews
import Derived.JoinedTies
import Derived.KernelRfl
namespace Go.Proofs.Ytpdpfobhbafmcaa
/- THE CELL 'sum', in the pinned program and in every row, IS THE sha256 OF THE DUMP (.gsa) THAT YtpdpfobhbafmcaaProg.lean LOADS. Nothing in Lean hashes anything: it is a label: what it is worth is what the hold of that sum in a sandbox is worth. -/
noncomputable def Try.pinned : Pinned := { name := "ytpdpfobhbafmcaa", sum := "a74d40ad5302c2afd6a1680a7912274e310ffb61a241991776bb31c261af04ab", checked := Try.checked }
namespace Rows
def none {H : Type} : Left H := { results := [], args := [] }

/-- 'tandemlaw2.MapperNews': WHATEVER THE INPUT: true; the input reads as it did. -/
def mapperNewsSpec : ChangeSpec := { name := "mapperNews", fn := fun _ => fun
  | [d] => { results := [.lit (.bool true)], args := [d] }
  | _ => none }
def mapperNewsRow : OpenClaim := { program := "ytpdpfobhbafmcaa", sum := "a74d40ad5302c2afd6a1680a7912274e310ffb61a241991776bb31c261af04ab", func := "tandem/tandemlaw2.MapperNews", spec := "mapperNews", unfollowed := true, recurses := true, apart := false }
def MapperNewsSaid : Prop := mapperNewsRow.holds Try.pinned (OpenSpec.ofChange mapperNewsSpec)

/-- ITS FALSE NEIGHBOUR: 'it returns false'. Refute it at one input. -/
def mapperNewsWrong : ChangeSpec := { name := "mapperNews", fn := fun _ => fun
  | [d] => { results := [.lit (.bool false)], args := [d] }
  | _ => none }
def MapperNewsWrongFalsely : Prop := mapperNewsRow.holds Try.pinned (OpenSpec.ofChange mapperNewsWrong)

/-- 'tandemlaw2.MapperValids': WHATEVER THE INPUT: true; the input reads as it did. -/
def mapperValidsSpec : ChangeSpec := { name := "mapperValids", fn := fun _ => fun
  | [d] => { results := [.lit (.bool true)], args := [d] }
  | _ => none }
def mapperValidsRow : OpenClaim := { program := "ytpdpfobhbafmcaa", sum := "a74d40ad5302c2afd6a1680a7912274e310ffb61a241991776bb31c261af04ab", func := "tandem/tandemlaw2.MapperValids", spec := "mapperValids", unfollowed := true, recurses := true, apart := false }
def MapperValidsSaid : Prop := mapperValidsRow.holds Try.pinned (OpenSpec.ofChange mapperValidsSpec)

/-- ITS FALSE NEIGHBOUR: 'it returns false'. Refute it at one input. -/
def mapperValidsWrong : ChangeSpec := { name := "mapperValids", fn := fun _ => fun
  | [d] => { results := [.lit (.bool false)], args := [d] }
  | _ => none }
def MapperValidsWrongFalsely : Prop := mapperValidsRow.holds Try.pinned (OpenSpec.ofChange mapperValidsWrong)

/-- 'tandemlaw2.MapperClocks': WHATEVER THE INPUT: true; the input reads as it did. -/
def mapperClocksSpec : ChangeSpec := { name := "mapperClocks", fn := fun _ => fun
  | [d1, d2] => { results := [.lit (.bool true)], args := [d1, d2] }
  | _ => none }
def mapperClocksRow : OpenClaim := { program := "ytpdpfobhbafmcaa", sum := "a74d40ad5302c2afd6a1680a7912274e310ffb61a241991776bb31c261af04ab", func := "tandem/tandemlaw2.MapperClocks", spec := "mapperClocks", unfollowed := true, recurses := true, apart := false }
def MapperClocksSaid : Prop := mapperClocksRow.holds Try.pinned (OpenSpec.ofChange mapperClocksSpec)

/-- ITS FALSE NEIGHBOUR: 'it returns false'. Refute it at one input. -/
def mapperClocksWrong : ChangeSpec := { name := "mapperClocks", fn := fun _ => fun
  | [d1, d2] => { results := [.lit (.bool false)], args := [d1, d2] }
  | _ => none }
def MapperClocksWrongFalsely : Prop := mapperClocksRow.holds Try.pinned (OpenSpec.ofChange mapperClocksWrong)

/- THE SECOND FORM. 'bulk': how many values and letters a reading holds, each counted each time it is reached (what is shared counts as often as it is met; a slice's spare places count too). A statement '..UptoSaid' is the law's where the arguments, and the package variables that the reading takes, are together of bulk at most 1048576: NARROWER than '..Said'. Prove '..Said' where nothing that the law and all that it calls make is longer than what came in: it says more and counts as full. Else prove '..UptoSaid'. A law counts once. -/
mutual
def uptoBulk {H : Type} : DataW H → Nat
  | .lit (.string bytes) => bytes.length + 1
  | .lit _ => 1
  | .nil => 1
  | .ptr d => uptoBulk d + 1
  | .slice elems spare => uptoBulkAll elems + uptoBulkAll spare + 1
  | .agg parts => uptoBulkAll parts + 1
  | .iface _ d => uptoBulk d + 1
  | .map entries => uptoBulkEntries entries + 1
  | .held _ => 1
def uptoBulkAll {H : Type} : List (DataW H) → Nat
  | [] => 0
  | d :: r => uptoBulk d + uptoBulkAll r
def uptoBulkEntries {H : Type} : List (Lit × DataW H) → Nat
  | [] => 0
  | x :: r => uptoBulkEntry x + uptoBulkEntries r
def uptoBulkEntry {H : Type} : Lit × DataW H → Nat
  | (.string bytes, d) => bytes.length + uptoBulk d + 1
  | (_, d) => uptoBulk d + 1
 end
def uptoSmall : (H : Type) → List (DataW H) → Bool := fun _ ds => decide (uptoBulkAll ds ≤ 1048576)
def OpenSpec.upto (s : _root_.Go.ChangeSpec) : _root_.Go.OpenSpec := { _root_.Go.OpenSpec.ofChange s with cond := some uptoSmall }

/-- 'tandemlaw2.MapperNews', WHERE WHAT IT READS IS OF BULK AT MOST 1048576: true; the input reads as it did. -/
def mapperNewsUptoRow : OpenClaim := { program := "ytpdpfobhbafmcaa", sum := "a74d40ad5302c2afd6a1680a7912274e310ffb61a241991776bb31c261af04ab", func := "tandem/tandemlaw2.MapperNews", spec := "mapperNews", unfollowed := true, recurses := true, apart := false, narrowed := true }
def MapperNewsUptoSaid : Prop := mapperNewsUptoRow.holds Try.pinned (OpenSpec.upto mapperNewsSpec)

/-- 'tandemlaw2.MapperValids', WHERE WHAT IT READS IS OF BULK AT MOST 1048576: true; the input reads as it did. -/
def mapperValidsUptoRow : OpenClaim := { program := "ytpdpfobhbafmcaa", sum := "a74d40ad5302c2afd6a1680a7912274e310ffb61a241991776bb31c261af04ab", func := "tandem/tandemlaw2.MapperValids", spec := "mapperValids", unfollowed := true, recurses := true, apart := false, narrowed := true }
def MapperValidsUptoSaid : Prop := mapperValidsUptoRow.holds Try.pinned (OpenSpec.upto mapperValidsSpec)

/-- 'tandemlaw2.MapperClocks', WHERE WHAT IT READS IS OF BULK AT MOST 1048576: true; the input reads as it did. -/
def mapperClocksUptoRow : OpenClaim := { program := "ytpdpfobhbafmcaa", sum := "a74d40ad5302c2afd6a1680a7912274e310ffb61a241991776bb31c261af04ab", func := "tandem/tandemlaw2.MapperClocks", spec := "mapperClocks", unfollowed := true, recurses := true, apart := false, narrowed := true }
def MapperClocksUptoSaid : Prop := mapperClocksUptoRow.holds Try.pinned (OpenSpec.upto mapperClocksSpec)

end Rows
end Go.Proofs.Ytpdpfobhbafmcaa
