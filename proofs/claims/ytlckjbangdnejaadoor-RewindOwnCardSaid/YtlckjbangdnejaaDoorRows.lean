/-
  NARROWER THAN 'FOR EVERY INPUT', by the rows' own cells (each row's printed sentence says how): RewindRoom: laid · RewindLast: laid · RewindApart: laid · RewindOwn: laid · RewindTapes: laid.
  DERIVED. THE GIVEN ROWS OF THIS SEAT. 5 by the template 'for every input the law returns true; each argument reads behind the call as it read before'; 0 by the template 'total and deterministic' (their statements: YtlckjbangdnejaaDoorTotals.lean).
  GIVEN WITH THE SEED: the statements are not yours to turn. If you find one false, say at which input.
  Laid BY PROGRAM, IN A SANDBOX (cutbox-rows.mjs): the forced cells as the released guide's own fill.sh prints them over the translation 0c36939e8a9a64bf… (all of the seat's roots in one cut). By AI agents, Wed Nov 11 2026. No macro, syntax, notation, axiom, sorry.
-/
import Derived.Test.YtlckjbangdnejaaDoorChecked
import GoSem.Claim
import GoSem.ClaimJoined
import GoSem.ClaimMapViews
import Derived.JoinedTies
import Derived.KernelRfl
namespace Go.Proofs.YtlckjbangdnejaaDoor
/- THE CELL 'sum', in the pinned program and in every row, IS THE sha256 OF THE DUMP (.gsa) THAT YtlckjbangdnejaaDoorProg.lean LOADS. Nothing in Lean hashes anything: it is a label: what it is worth is what the hold of that sum in a sandbox is worth. -/
noncomputable def Tryd.pinned : Pinned := { name := "ytlckjbangdnejaadoor", sum := "0c36939e8a9a64bf9525bfbc02827d67ae7f392b6f580345f90b2de419cf3af7", checked := Tryd.checked }
namespace Rows
def none {H : Type} : Left H := { results := [], args := [] }

/- WHAT THE LISTED PACKAGE-LEVEL VARIABLES READ AS WHEN THE CALL BEGINS. Each datum BY PROGRAM (the guide's laid-datum.mjs) off the statement by which the dump's own 'gosem.cut.vars' lays the variable. In a bare row this is a premise. The card (YtlckjbangdnejaaDoorCards.lean) ties it to the program's text. -/
def laid_tandem_cart_turns {H : Type} : DataW H := .agg [.lit (.int .u32 0), .lit (.int .u32 498536548), .lit (.int .u32 997073096), .lit (.int .u32 651767980), .lit (.int .u32 1994146192), .lit (.int .u32 1802195444), .lit (.int .u32 1303535960), .lit (.int .u32 1342533948), .lit (.int .u32 3988292384), .lit (.int .u32 4027552580), .lit (.int .u32 3604390888), .lit (.int .u32 3412177804), .lit (.int .u32 2607071920), .lit (.int .u32 2262029012), .lit (.int .u32 2685067896), .lit (.int .u32 3183342108)]

/-- 'tandemlaw17.RewindRoom': WHATEVER THE INPUT: true; the input reads as it did. -/
def rewindRoomSpec : ChangeSpec := { name := "rewindRoom", fn := fun _ => fun
  | [d1, d2] => { results := [.lit (.bool true)], args := [d1, d2] }
  | _ => none }
def rewindRoomRow : OpenClaim := { program := "ytlckjbangdnejaadoor", sum := "0c36939e8a9a64bf9525bfbc02827d67ae7f392b6f580345f90b2de419cf3af7", func := "tandem/tandemlaw17.RewindRoom", spec := "rewindRoom", named := ["tandem/cart.turns"], apart := false, laid := [("tandem/cart.turns", laid_tandem_cart_turns)] }
def RewindRoomSaid : Prop := rewindRoomRow.holds Tryd.pinned (OpenSpec.ofChange rewindRoomSpec)

/-- ITS FALSE NEIGHBOUR: 'it returns false'. Refute it at one input. -/
def rewindRoomWrong : ChangeSpec := { name := "rewindRoom", fn := fun _ => fun
  | [d1, d2] => { results := [.lit (.bool false)], args := [d1, d2] }
  | _ => none }
def RewindRoomWrongFalsely : Prop := rewindRoomRow.holds Tryd.pinned (OpenSpec.ofChange rewindRoomWrong)

/-- 'tandemlaw17.RewindLast': WHATEVER THE INPUT: true; the input reads as it did. -/
def rewindLastSpec : ChangeSpec := { name := "rewindLast", fn := fun _ => fun
  | [d1, d2] => { results := [.lit (.bool true)], args := [d1, d2] }
  | _ => none }
def rewindLastRow : OpenClaim := { program := "ytlckjbangdnejaadoor", sum := "0c36939e8a9a64bf9525bfbc02827d67ae7f392b6f580345f90b2de419cf3af7", func := "tandem/tandemlaw17.RewindLast", spec := "rewindLast", named := ["tandem/cart.turns"], apart := false, laid := [("tandem/cart.turns", laid_tandem_cart_turns)] }
def RewindLastSaid : Prop := rewindLastRow.holds Tryd.pinned (OpenSpec.ofChange rewindLastSpec)

/-- ITS FALSE NEIGHBOUR: 'it returns false'. Refute it at one input. -/
def rewindLastWrong : ChangeSpec := { name := "rewindLast", fn := fun _ => fun
  | [d1, d2] => { results := [.lit (.bool false)], args := [d1, d2] }
  | _ => none }
def RewindLastWrongFalsely : Prop := rewindLastRow.holds Tryd.pinned (OpenSpec.ofChange rewindLastWrong)

/-- 'tandemlaw17.RewindApart': WHATEVER THE INPUT: true; the input reads as it did. -/
def rewindApartSpec : ChangeSpec := { name := "rewindApart", fn := fun _ => fun
  | [d1, d2, d3] => { results := [.lit (.bool true)], args := [d1, d2, d3] }
  | _ => none }
def rewindApartRow : OpenClaim := { program := "ytlckjbangdnejaadoor", sum := "0c36939e8a9a64bf9525bfbc02827d67ae7f392b6f580345f90b2de419cf3af7", func := "tandem/tandemlaw17.RewindApart", spec := "rewindApart", named := ["tandem/cart.turns"], apart := false, laid := [("tandem/cart.turns", laid_tandem_cart_turns)] }
def RewindApartSaid : Prop := rewindApartRow.holds Tryd.pinned (OpenSpec.ofChange rewindApartSpec)

/-- ITS FALSE NEIGHBOUR: 'it returns false'. Refute it at one input. -/
def rewindApartWrong : ChangeSpec := { name := "rewindApart", fn := fun _ => fun
  | [d1, d2, d3] => { results := [.lit (.bool false)], args := [d1, d2, d3] }
  | _ => none }
def RewindApartWrongFalsely : Prop := rewindApartRow.holds Tryd.pinned (OpenSpec.ofChange rewindApartWrong)

/-- 'tandemlaw17.RewindOwn': WHATEVER THE INPUT: true; the input reads as it did. -/
def rewindOwnSpec : ChangeSpec := { name := "rewindOwn", fn := fun _ => fun
  | [d1, d2] => { results := [.lit (.bool true)], args := [d1, d2] }
  | _ => none }
def rewindOwnRow : OpenClaim := { program := "ytlckjbangdnejaadoor", sum := "0c36939e8a9a64bf9525bfbc02827d67ae7f392b6f580345f90b2de419cf3af7", func := "tandem/tandemlaw17.RewindOwn", spec := "rewindOwn", named := ["tandem/cart.turns"], apart := false, laid := [("tandem/cart.turns", laid_tandem_cart_turns)] }
def RewindOwnSaid : Prop := rewindOwnRow.holds Tryd.pinned (OpenSpec.ofChange rewindOwnSpec)

/-- ITS FALSE NEIGHBOUR: 'it returns false'. Refute it at one input. -/
def rewindOwnWrong : ChangeSpec := { name := "rewindOwn", fn := fun _ => fun
  | [d1, d2] => { results := [.lit (.bool false)], args := [d1, d2] }
  | _ => none }
def RewindOwnWrongFalsely : Prop := rewindOwnRow.holds Tryd.pinned (OpenSpec.ofChange rewindOwnWrong)

/-- 'tandemlaw17.RewindTapes': WHATEVER THE INPUT: true; the input reads as it did. -/
def rewindTapesSpec : ChangeSpec := { name := "rewindTapes", fn := fun _ => fun
  | [d1, d2] => { results := [.lit (.bool true)], args := [d1, d2] }
  | _ => none }
def rewindTapesRow : OpenClaim := { program := "ytlckjbangdnejaadoor", sum := "0c36939e8a9a64bf9525bfbc02827d67ae7f392b6f580345f90b2de419cf3af7", func := "tandem/tandemlaw17.RewindTapes", spec := "rewindTapes", named := ["tandem/cart.turns"], apart := false, laid := [("tandem/cart.turns", laid_tandem_cart_turns)] }
def RewindTapesSaid : Prop := rewindTapesRow.holds Tryd.pinned (OpenSpec.ofChange rewindTapesSpec)

/-- ITS FALSE NEIGHBOUR: 'it returns false'. Refute it at one input. -/
def rewindTapesWrong : ChangeSpec := { name := "rewindTapes", fn := fun _ => fun
  | [d1, d2] => { results := [.lit (.bool false)], args := [d1, d2] }
  | _ => none }
def RewindTapesWrongFalsely : Prop := rewindTapesRow.holds Tryd.pinned (OpenSpec.ofChange rewindTapesWrong)

/- THE SECOND FORM. 'bulk': how many values and letters a reading holds, each counted each time it is reached (what is shared counts as often as it is met; a slice's spare places count too). A statement '..UptoSaid' is the law's where the arguments, and the package variables that the reading takes, are together of bulk at most 1048576: NARROWER than '..Said'. Prove '..Said' where nothing that the law and all that it calls make is longer than what came in: it says more and counts as full. Else prove '..UptoSaid'. A law counts once. -/
mutual
def uptoBulk {H : Type} : DataW H → Nat
  | .lit (.string bytes) => bytes.length + 1
  | .lit _ => 1
  | .nil => 1
  | .ptr d => uptoBulk d + 1
  | .slice elems spare => uptoBulkAll elems + uptoBulkAll spare + 1
  | .agg parts => uptoBulkAll parts + 1
  | .iface _ d => uptoBulk d + 1
  | .map entries => uptoBulkEntries entries + 1
  | .held _ => 1
def uptoBulkAll {H : Type} : List (DataW H) → Nat
  | [] => 0
  | d :: r => uptoBulk d + uptoBulkAll r
def uptoBulkEntries {H : Type} : List (Lit × DataW H) → Nat
  | [] => 0
  | x :: r => uptoBulkEntry x + uptoBulkEntries r
def uptoBulkEntry {H : Type} : Lit × DataW H → Nat
  | (.string bytes, d) => bytes.length + uptoBulk d + 1
  | (_, d) => uptoBulk d + 1
 end
def uptoSmall : (H : Type) → List (DataW H) → Bool := fun _ ds => decide (uptoBulkAll ds ≤ 1048576)
def OpenSpec.upto (s : _root_.Go.ChangeSpec) : _root_.Go.OpenSpec := { _root_.Go.OpenSpec.ofChange s with cond := some uptoSmall }

/-- 'tandemlaw17.RewindRoom', WHERE WHAT IT READS IS OF BULK AT MOST 1048576: true; the input reads as it did. -/
def rewindRoomUptoRow : OpenClaim := { program := "ytlckjbangdnejaadoor", sum := "0c36939e8a9a64bf9525bfbc02827d67ae7f392b6f580345f90b2de419cf3af7", func := "tandem/tandemlaw17.RewindRoom", spec := "rewindRoom", named := ["tandem/cart.turns"], apart := false, laid := [("tandem/cart.turns", laid_tandem_cart_turns)], narrowed := true }
def RewindRoomUptoSaid : Prop := rewindRoomUptoRow.holds Tryd.pinned (OpenSpec.upto rewindRoomSpec)

/-- 'tandemlaw17.RewindLast', WHERE WHAT IT READS IS OF BULK AT MOST 1048576: true; the input reads as it did. -/
def rewindLastUptoRow : OpenClaim := { program := "ytlckjbangdnejaadoor", sum := "0c36939e8a9a64bf9525bfbc02827d67ae7f392b6f580345f90b2de419cf3af7", func := "tandem/tandemlaw17.RewindLast", spec := "rewindLast", named := ["tandem/cart.turns"], apart := false, laid := [("tandem/cart.turns", laid_tandem_cart_turns)], narrowed := true }
def RewindLastUptoSaid : Prop := rewindLastUptoRow.holds Tryd.pinned (OpenSpec.upto rewindLastSpec)

/-- 'tandemlaw17.RewindApart', WHERE WHAT IT READS IS OF BULK AT MOST 1048576: true; the input reads as it did. -/
def rewindApartUptoRow : OpenClaim := { program := "ytlckjbangdnejaadoor", sum := "0c36939e8a9a64bf9525bfbc02827d67ae7f392b6f580345f90b2de419cf3af7", func := "tandem/tandemlaw17.RewindApart", spec := "rewindApart", named := ["tandem/cart.turns"], apart := false, laid := [("tandem/cart.turns", laid_tandem_cart_turns)], narrowed := true }
def RewindApartUptoSaid : Prop := rewindApartUptoRow.holds Tryd.pinned (OpenSpec.upto rewindApartSpec)

/-- 'tandemlaw17.RewindOwn', WHERE WHAT IT READS IS OF BULK AT MOST 1048576: true; the input reads as it did. -/
def rewindOwnUptoRow : OpenClaim := { program := "ytlckjbangdnejaadoor", sum := "0c36939e8a9a64bf9525bfbc02827d67ae7f392b6f580345f90b2de419cf3af7", func := "tandem/tandemlaw17.RewindOwn", spec := "rewindOwn", named := ["tandem/cart.turns"], apart := false, laid := [("tandem/cart.turns", laid_tandem_cart_turns)], narrowed := true }
def RewindOwnUptoSaid : Prop := rewindOwnUptoRow.holds Tryd.pinned (OpenSpec.upto rewindOwnSpec)

/-- 'tandemlaw17.RewindTapes', WHERE WHAT IT READS IS OF BULK AT MOST 1048576: true; the input reads as it did. -/
def rewindTapesUptoRow : OpenClaim := { program := "ytlckjbangdnejaadoor", sum := "0c36939e8a9a64bf9525bfbc02827d67ae7f392b6f580345f90b2de419cf3af7", func := "tandem/tandemlaw17.RewindTapes", spec := "rewindTapes", named := ["tandem/cart.turns"], apart := false, laid := [("tandem/cart.turns", laid_tandem_cart_turns)], narrowed := true }
def RewindTapesUptoSaid : Prop := rewindTapesUptoRow.holds Tryd.pinned (OpenSpec.upto rewindTapesSpec)

end Rows
end Go.Proofs.YtlckjbangdnejaaDoor
