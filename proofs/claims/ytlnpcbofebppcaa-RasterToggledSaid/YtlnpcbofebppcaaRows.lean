/-
  No cell of these rows narrows 'for every input' (looked for: loops, veiled, ifaces, maps, wideKeys, modest, calm, conditions, laid).
  DERIVED. THE GIVEN ROWS OF THIS SEAT. 6 by the template 'for every input the law returns true; each argument reads behind the call as it read before'; 0 by the template 'total and deterministic' (their statements: YtlnpcbofebppcaaTotals.lean).
  GIVEN WITH THE SEED: the statements are not yours to turn. If you find one false, say at which input.
  Laid BY PROGRAM, IN A SANDBOX (cutbox-rows.mjs): the forced cells as the released guide's own fill.sh prints them over the translation 475e43816aed7844… (all of the seat's roots in one cut). By AI agents, Wed Nov 11 2026. No macro, syntax, notation, axiom, sorry.
-/
import Derived.Test.YtlnpcbofebppcaaChecked
import GoSem.Claim
import GoSem.ClaimJoined
import GoSem.ClaimMapViews
import Derived.JoinedTies
import Derived.KernelRfl
namespace Go.Proofs.Ytlnpcbofebppcaa
/- THE CELL 'sum', in the pinned program and in every row, IS THE sha256 OF THE DUMP (.gsa) THAT YtlnpcbofebppcaaProg.lean LOADS. Nothing in Lean hashes anything: it is a label: what it is worth is what the hold of that sum in a sandbox is worth. -/
noncomputable def Try.pinned : Pinned := { name := "ytlnpcbofebppcaa", sum := "475e43816aed78440612d2563ac3f24944348d0c7e761e7814ca06f886fdf0f4", checked := Try.checked }
namespace Rows
def none {H : Type} : Left H := { results := [], args := [] }

/-- 'tandemlaw7.RasterToggled': WHATEVER THE INPUT: true; the input reads as it did. -/
def rasterToggledSpec : ChangeSpec := { name := "rasterToggled", fn := fun _ => fun
  | [d1, d2, d3] => { results := [.lit (.bool true)], args := [d1, d2, d3] }
  | _ => none }
def rasterToggledRow : OpenClaim := { program := "ytlnpcbofebppcaa", sum := "475e43816aed78440612d2563ac3f24944348d0c7e761e7814ca06f886fdf0f4", func := "tandem/tandemlaw7.RasterToggled", spec := "rasterToggled", apart := false }
def RasterToggledSaid : Prop := rasterToggledRow.holds Try.pinned (OpenSpec.ofChange rasterToggledSpec)

/-- ITS FALSE NEIGHBOUR: 'it returns false'. Refute it at one input. -/
def rasterToggledWrong : ChangeSpec := { name := "rasterToggled", fn := fun _ => fun
  | [d1, d2, d3] => { results := [.lit (.bool false)], args := [d1, d2, d3] }
  | _ => none }
def RasterToggledWrongFalsely : Prop := rasterToggledRow.holds Try.pinned (OpenSpec.ofChange rasterToggledWrong)

/-- 'tandemlaw7.RasterDots': WHATEVER THE INPUT: true; the input reads as it did. -/
def rasterDotsSpec : ChangeSpec := { name := "rasterDots", fn := fun _ => fun
  | [d] => { results := [.lit (.bool true)], args := [d] }
  | _ => none }
def rasterDotsRow : OpenClaim := { program := "ytlnpcbofebppcaa", sum := "475e43816aed78440612d2563ac3f24944348d0c7e761e7814ca06f886fdf0f4", func := "tandem/tandemlaw7.RasterDots", spec := "rasterDots", unfollowed := true, recurses := true, apart := false }
def RasterDotsSaid : Prop := rasterDotsRow.holds Try.pinned (OpenSpec.ofChange rasterDotsSpec)

/-- ITS FALSE NEIGHBOUR: 'it returns false'. Refute it at one input. -/
def rasterDotsWrong : ChangeSpec := { name := "rasterDots", fn := fun _ => fun
  | [d] => { results := [.lit (.bool false)], args := [d] }
  | _ => none }
def RasterDotsWrongFalsely : Prop := rasterDotsRow.holds Try.pinned (OpenSpec.ofChange rasterDotsWrong)

/-- 'tandemlaw7.RasterTouched': WHATEVER THE INPUT: true; the input reads as it did. -/
def rasterTouchedSpec : ChangeSpec := { name := "rasterTouched", fn := fun _ => fun
  | [d1, d2] => { results := [.lit (.bool true)], args := [d1, d2] }
  | _ => none }
def rasterTouchedRow : OpenClaim := { program := "ytlnpcbofebppcaa", sum := "475e43816aed78440612d2563ac3f24944348d0c7e761e7814ca06f886fdf0f4", func := "tandem/tandemlaw7.RasterTouched", spec := "rasterTouched", apart := false }
def RasterTouchedSaid : Prop := rasterTouchedRow.holds Try.pinned (OpenSpec.ofChange rasterTouchedSpec)

/-- ITS FALSE NEIGHBOUR: 'it returns false'. Refute it at one input. -/
def rasterTouchedWrong : ChangeSpec := { name := "rasterTouched", fn := fun _ => fun
  | [d1, d2] => { results := [.lit (.bool false)], args := [d1, d2] }
  | _ => none }
def RasterTouchedWrongFalsely : Prop := rasterTouchedRow.holds Try.pinned (OpenSpec.ofChange rasterTouchedWrong)

/-- 'tandemlaw7.RasterFrames': WHATEVER THE INPUT: true; the input reads as it did. -/
def rasterFramesSpec : ChangeSpec := { name := "rasterFrames", fn := fun _ => fun
  | [d] => { results := [.lit (.bool true)], args := [d] }
  | _ => none }
def rasterFramesRow : OpenClaim := { program := "ytlnpcbofebppcaa", sum := "475e43816aed78440612d2563ac3f24944348d0c7e761e7814ca06f886fdf0f4", func := "tandem/tandemlaw7.RasterFrames", spec := "rasterFrames", apart := false }
def RasterFramesSaid : Prop := rasterFramesRow.holds Try.pinned (OpenSpec.ofChange rasterFramesSpec)

/-- ITS FALSE NEIGHBOUR: 'it returns false'. Refute it at one input. -/
def rasterFramesWrong : ChangeSpec := { name := "rasterFrames", fn := fun _ => fun
  | [d] => { results := [.lit (.bool false)], args := [d] }
  | _ => none }
def RasterFramesWrongFalsely : Prop := rasterFramesRow.holds Try.pinned (OpenSpec.ofChange rasterFramesWrong)

/-- 'tandemlaw7.RasterAdds': WHATEVER THE INPUT: true; the input reads as it did. -/
def rasterAddsSpec : ChangeSpec := { name := "rasterAdds", fn := fun _ => fun
  | [d1, d2, d3] => { results := [.lit (.bool true)], args := [d1, d2, d3] }
  | _ => none }
def rasterAddsRow : OpenClaim := { program := "ytlnpcbofebppcaa", sum := "475e43816aed78440612d2563ac3f24944348d0c7e761e7814ca06f886fdf0f4", func := "tandem/tandemlaw7.RasterAdds", spec := "rasterAdds", unfollowed := true, recurses := true, apart := false }
def RasterAddsSaid : Prop := rasterAddsRow.holds Try.pinned (OpenSpec.ofChange rasterAddsSpec)

/-- ITS FALSE NEIGHBOUR: 'it returns false'. Refute it at one input. -/
def rasterAddsWrong : ChangeSpec := { name := "rasterAdds", fn := fun _ => fun
  | [d1, d2, d3] => { results := [.lit (.bool false)], args := [d1, d2, d3] }
  | _ => none }
def RasterAddsWrongFalsely : Prop := rasterAddsRow.holds Try.pinned (OpenSpec.ofChange rasterAddsWrong)

/-- 'tandemlaw7.RasterAdvances': WHATEVER THE INPUT: true; the input reads as it did. -/
def rasterAdvancesSpec : ChangeSpec := { name := "rasterAdvances", fn := fun _ => fun
  | [d1, d2] => { results := [.lit (.bool true)], args := [d1, d2] }
  | _ => none }
def rasterAdvancesRow : OpenClaim := { program := "ytlnpcbofebppcaa", sum := "475e43816aed78440612d2563ac3f24944348d0c7e761e7814ca06f886fdf0f4", func := "tandem/tandemlaw7.RasterAdvances", spec := "rasterAdvances", apart := false }
def RasterAdvancesSaid : Prop := rasterAdvancesRow.holds Try.pinned (OpenSpec.ofChange rasterAdvancesSpec)

/-- ITS FALSE NEIGHBOUR: 'it returns false'. Refute it at one input. -/
def rasterAdvancesWrong : ChangeSpec := { name := "rasterAdvances", fn := fun _ => fun
  | [d1, d2] => { results := [.lit (.bool false)], args := [d1, d2] }
  | _ => none }
def RasterAdvancesWrongFalsely : Prop := rasterAdvancesRow.holds Try.pinned (OpenSpec.ofChange rasterAdvancesWrong)

/- THE SECOND FORM. 'bulk': how many values and letters a reading holds, each counted each time it is reached (what is shared counts as often as it is met; a slice's spare places count too). A statement '..UptoSaid' is the law's where the arguments, and the package variables that the reading takes, are together of bulk at most 1048576: NARROWER than '..Said'. Prove '..Said' where nothing that the law and all that it calls make is longer than what came in: it says more and counts as full. Else prove '..UptoSaid'. A law counts once. -/
mutual
def uptoBulk {H : Type} : DataW H → Nat
  | .lit (.string bytes) => bytes.length + 1
  | .lit _ => 1
  | .nil => 1
  | .ptr d => uptoBulk d + 1
  | .slice elems spare => uptoBulkAll elems + uptoBulkAll spare + 1
  | .agg parts => uptoBulkAll parts + 1
  | .iface _ d => uptoBulk d + 1
  | .map entries => uptoBulkEntries entries + 1
  | .held _ => 1
def uptoBulkAll {H : Type} : List (DataW H) → Nat
  | [] => 0
  | d :: r => uptoBulk d + uptoBulkAll r
def uptoBulkEntries {H : Type} : List (Lit × DataW H) → Nat
  | [] => 0
  | x :: r => uptoBulkEntry x + uptoBulkEntries r
def uptoBulkEntry {H : Type} : Lit × DataW H → Nat
  | (.string bytes, d) => bytes.length + uptoBulk d + 1
  | (_, d) => uptoBulk d + 1
 end
def uptoSmall : (H : Type) → List (DataW H) → Bool := fun _ ds => decide (uptoBulkAll ds ≤ 1048576)
def OpenSpec.upto (s : _root_.Go.ChangeSpec) : _root_.Go.OpenSpec := { _root_.Go.OpenSpec.ofChange s with cond := some uptoSmall }

/-- 'tandemlaw7.RasterToggled', WHERE WHAT IT READS IS OF BULK AT MOST 1048576: true; the input reads as it did. -/
def rasterToggledUptoRow : OpenClaim := { program := "ytlnpcbofebppcaa", sum := "475e43816aed78440612d2563ac3f24944348d0c7e761e7814ca06f886fdf0f4", func := "tandem/tandemlaw7.RasterToggled", spec := "rasterToggled", apart := false, narrowed := true }
def RasterToggledUptoSaid : Prop := rasterToggledUptoRow.holds Try.pinned (OpenSpec.upto rasterToggledSpec)

/-- 'tandemlaw7.RasterDots', WHERE WHAT IT READS IS OF BULK AT MOST 1048576: true; the input reads as it did. -/
def rasterDotsUptoRow : OpenClaim := { program := "ytlnpcbofebppcaa", sum := "475e43816aed78440612d2563ac3f24944348d0c7e761e7814ca06f886fdf0f4", func := "tandem/tandemlaw7.RasterDots", spec := "rasterDots", unfollowed := true, recurses := true, apart := false, narrowed := true }
def RasterDotsUptoSaid : Prop := rasterDotsUptoRow.holds Try.pinned (OpenSpec.upto rasterDotsSpec)

/-- 'tandemlaw7.RasterTouched', WHERE WHAT IT READS IS OF BULK AT MOST 1048576: true; the input reads as it did. -/
def rasterTouchedUptoRow : OpenClaim := { program := "ytlnpcbofebppcaa", sum := "475e43816aed78440612d2563ac3f24944348d0c7e761e7814ca06f886fdf0f4", func := "tandem/tandemlaw7.RasterTouched", spec := "rasterTouched", apart := false, narrowed := true }
def RasterTouchedUptoSaid : Prop := rasterTouchedUptoRow.holds Try.pinned (OpenSpec.upto rasterTouchedSpec)

/-- 'tandemlaw7.RasterFrames', WHERE WHAT IT READS IS OF BULK AT MOST 1048576: true; the input reads as it did. -/
def rasterFramesUptoRow : OpenClaim := { program := "ytlnpcbofebppcaa", sum := "475e43816aed78440612d2563ac3f24944348d0c7e761e7814ca06f886fdf0f4", func := "tandem/tandemlaw7.RasterFrames", spec := "rasterFrames", apart := false, narrowed := true }
def RasterFramesUptoSaid : Prop := rasterFramesUptoRow.holds Try.pinned (OpenSpec.upto rasterFramesSpec)

/-- 'tandemlaw7.RasterAdds', WHERE WHAT IT READS IS OF BULK AT MOST 1048576: true; the input reads as it did. -/
def rasterAddsUptoRow : OpenClaim := { program := "ytlnpcbofebppcaa", sum := "475e43816aed78440612d2563ac3f24944348d0c7e761e7814ca06f886fdf0f4", func := "tandem/tandemlaw7.RasterAdds", spec := "rasterAdds", unfollowed := true, recurses := true, apart := false, narrowed := true }
def RasterAddsUptoSaid : Prop := rasterAddsUptoRow.holds Try.pinned (OpenSpec.upto rasterAddsSpec)

/-- 'tandemlaw7.RasterAdvances', WHERE WHAT IT READS IS OF BULK AT MOST 1048576: true; the input reads as it did. -/
def rasterAdvancesUptoRow : OpenClaim := { program := "ytlnpcbofebppcaa", sum := "475e43816aed78440612d2563ac3f24944348d0c7e761e7814ca06f886fdf0f4", func := "tandem/tandemlaw7.RasterAdvances", spec := "rasterAdvances", apart := false, narrowed := true }
def RasterAdvancesUptoSaid : Prop := rasterAdvancesUptoRow.holds Try.pinned (OpenSpec.upto rasterAdvancesSpec)

end Rows
end Go.Proofs.Ytlnpcbofebppcaa
