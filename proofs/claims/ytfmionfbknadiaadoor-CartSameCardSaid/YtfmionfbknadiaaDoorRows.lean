/-
  NARROWER THAN 'FOR EVERY INPUT', by the rows' own cells (each row's printed sentence says how): CartCrc: laid · CartSame: laid · CartSums: laid.
  DERIVED. THE GIVEN ROWS OF THIS SEAT. 3 by the template 'for every input the law returns true; each argument reads behind the call as it read before'; 0 by the template 'total and deterministic' (their statements: YtfmionfbknadiaaDoorTotals.lean).
  GIVEN WITH THE SEED: the statements are not yours to turn. If you find one false, say at which input.
  Laid BY PROGRAM, IN A SANDBOX (cutbox-rows.mjs): the forced cells as the released guide's own fill.sh prints them over the translation cdd37d291cebe12f… (all of the seat's roots in one cut). By AI agents, Wed Nov 11 2026. No macro, syntax, notation, axiom, sorry.
-/
import Derived.Test.YtfmionfbknadiaaDoorChecked
import GoSem.Claim
import GoSem.ClaimJoined
import GoSem.ClaimMapViews
import Derived.JoinedTies
import Derived.KernelRfl
namespace Go.Proofs.YtfmionfbknadiaaDoor
/- THE CELL 'sum', in the pinned program and in every row, IS THE sha256 OF THE DUMP (.gsa) THAT YtfmionfbknadiaaDoorProg.lean LOADS. Nothing in Lean hashes anything: it is a label: what it is worth is what the hold of that sum in a sandbox is worth. -/
noncomputable def Tryd.pinned : Pinned := { name := "ytfmionfbknadiaadoor", sum := "cdd37d291cebe12f04e0f7d856d4678b7d83fd321ceb4eed40944e1ed40aeac4", checked := Tryd.checked }
namespace Rows
def none {H : Type} : Left H := { results := [], args := [] }

/- WHAT THE LISTED PACKAGE-LEVEL VARIABLES READ AS WHEN THE CALL BEGINS. Each datum BY PROGRAM (the guide's laid-datum.mjs) off the statement by which the dump's own 'gosem.cut.vars' lays the variable. In a bare row this is a premise. The card (YtfmionfbknadiaaDoorCards.lean) ties it to the program's text. -/
def laid_tandem_cart_turns {H : Type} : DataW H := .agg [.lit (.int .u32 0), .lit (.int .u32 498536548), .lit (.int .u32 997073096), .lit (.int .u32 651767980), .lit (.int .u32 1994146192), .lit (.int .u32 1802195444), .lit (.int .u32 1303535960), .lit (.int .u32 1342533948), .lit (.int .u32 3988292384), .lit (.int .u32 4027552580), .lit (.int .u32 3604390888), .lit (.int .u32 3412177804), .lit (.int .u32 2607071920), .lit (.int .u32 2262029012), .lit (.int .u32 2685067896), .lit (.int .u32 3183342108)]

/-- 'tandemlaw1.CartCrc': WHATEVER THE INPUT: true; the input reads as it did. -/
def cartCrcSpec : ChangeSpec := { name := "cartCrc", fn := fun _ => fun
  | [d1, d2, d3, d4] => { results := [.lit (.bool true)], args := [d1, d2, d3, d4] }
  | _ => none }
def cartCrcRow : OpenClaim := { program := "ytfmionfbknadiaadoor", sum := "cdd37d291cebe12f04e0f7d856d4678b7d83fd321ceb4eed40944e1ed40aeac4", func := "tandem/tandemlaw1.CartCrc", spec := "cartCrc", named := ["tandem/cart.turns"], apart := false, laid := [("tandem/cart.turns", laid_tandem_cart_turns)] }
def CartCrcSaid : Prop := cartCrcRow.holds Tryd.pinned (OpenSpec.ofChange cartCrcSpec)

/-- ITS FALSE NEIGHBOUR: 'it returns false'. Refute it at one input. -/
def cartCrcWrong : ChangeSpec := { name := "cartCrc", fn := fun _ => fun
  | [d1, d2, d3, d4] => { results := [.lit (.bool false)], args := [d1, d2, d3, d4] }
  | _ => none }
def CartCrcWrongFalsely : Prop := cartCrcRow.holds Tryd.pinned (OpenSpec.ofChange cartCrcWrong)

/-- 'tandemlaw1.CartSame': WHATEVER THE INPUT: true; the input reads as it did. -/
def cartSameSpec : ChangeSpec := { name := "cartSame", fn := fun _ => fun
  | [d1, d2, d3, d4] => { results := [.lit (.bool true)], args := [d1, d2, d3, d4] }
  | _ => none }
def cartSameRow : OpenClaim := { program := "ytfmionfbknadiaadoor", sum := "cdd37d291cebe12f04e0f7d856d4678b7d83fd321ceb4eed40944e1ed40aeac4", func := "tandem/tandemlaw1.CartSame", spec := "cartSame", named := ["tandem/cart.turns"], apart := false, laid := [("tandem/cart.turns", laid_tandem_cart_turns)] }
def CartSameSaid : Prop := cartSameRow.holds Tryd.pinned (OpenSpec.ofChange cartSameSpec)

/-- ITS FALSE NEIGHBOUR: 'it returns false'. Refute it at one input. -/
def cartSameWrong : ChangeSpec := { name := "cartSame", fn := fun _ => fun
  | [d1, d2, d3, d4] => { results := [.lit (.bool false)], args := [d1, d2, d3, d4] }
  | _ => none }
def CartSameWrongFalsely : Prop := cartSameRow.holds Tryd.pinned (OpenSpec.ofChange cartSameWrong)

/-- 'tandemlaw1.CartSums': WHATEVER THE INPUT: true; the input reads as it did. -/
def cartSumsSpec : ChangeSpec := { name := "cartSums", fn := fun _ => fun
  | [d1, d2] => { results := [.lit (.bool true)], args := [d1, d2] }
  | _ => none }
def cartSumsRow : OpenClaim := { program := "ytfmionfbknadiaadoor", sum := "cdd37d291cebe12f04e0f7d856d4678b7d83fd321ceb4eed40944e1ed40aeac4", func := "tandem/tandemlaw1.CartSums", spec := "cartSums", named := ["tandem/cart.turns"], apart := false, laid := [("tandem/cart.turns", laid_tandem_cart_turns)] }
def CartSumsSaid : Prop := cartSumsRow.holds Tryd.pinned (OpenSpec.ofChange cartSumsSpec)

/-- ITS FALSE NEIGHBOUR: 'it returns false'. Refute it at one input. -/
def cartSumsWrong : ChangeSpec := { name := "cartSums", fn := fun _ => fun
  | [d1, d2] => { results := [.lit (.bool false)], args := [d1, d2] }
  | _ => none }
def CartSumsWrongFalsely : Prop := cartSumsRow.holds Tryd.pinned (OpenSpec.ofChange cartSumsWrong)

/- THE SECOND FORM. 'bulk': how many values and letters a reading holds, each counted each time it is reached (what is shared counts as often as it is met; a slice's spare places count too). A statement '..UptoSaid' is the law's where the arguments, and the package variables that the reading takes, are together of bulk at most 1048576: NARROWER than '..Said'. Prove '..Said' where nothing that the law and all that it calls make is longer than what came in: it says more and counts as full. Else prove '..UptoSaid'. A law counts once. -/
mutual
def uptoBulk {H : Type} : DataW H → Nat
  | .lit (.string bytes) => bytes.length + 1
  | .lit _ => 1
  | .nil => 1
  | .ptr d => uptoBulk d + 1
  | .slice elems spare => uptoBulkAll elems + uptoBulkAll spare + 1
  | .agg parts => uptoBulkAll parts + 1
  | .iface _ d => uptoBulk d + 1
  | .map entries => uptoBulkEntries entries + 1
  | .held _ => 1
def uptoBulkAll {H : Type} : List (DataW H) → Nat
  | [] => 0
  | d :: r => uptoBulk d + uptoBulkAll r
def uptoBulkEntries {H : Type} : List (Lit × DataW H) → Nat
  | [] => 0
  | x :: r => uptoBulkEntry x + uptoBulkEntries r
def uptoBulkEntry {H : Type} : Lit × DataW H → Nat
  | (.string bytes, d) => bytes.length + uptoBulk d + 1
  | (_, d) => uptoBulk d + 1
 end
def uptoSmall : (H : Type) → List (DataW H) → Bool := fun _ ds => decide (uptoBulkAll ds ≤ 1048576)
def OpenSpec.upto (s : _root_.Go.ChangeSpec) : _root_.Go.OpenSpec := { _root_.Go.OpenSpec.ofChange s with cond := some uptoSmall }

/-- 'tandemlaw1.CartCrc', WHERE WHAT IT READS IS OF BULK AT MOST 1048576: true; the input reads as it did. -/
def cartCrcUptoRow : OpenClaim := { program := "ytfmionfbknadiaadoor", sum := "cdd37d291cebe12f04e0f7d856d4678b7d83fd321ceb4eed40944e1ed40aeac4", func := "tandem/tandemlaw1.CartCrc", spec := "cartCrc", named := ["tandem/cart.turns"], apart := false, laid := [("tandem/cart.turns", laid_tandem_cart_turns)], narrowed := true }
def CartCrcUptoSaid : Prop := cartCrcUptoRow.holds Tryd.pinned (OpenSpec.upto cartCrcSpec)

/-- 'tandemlaw1.CartSame', WHERE WHAT IT READS IS OF BULK AT MOST 1048576: true; the input reads as it did. -/
def cartSameUptoRow : OpenClaim := { program := "ytfmionfbknadiaadoor", sum := "cdd37d291cebe12f04e0f7d856d4678b7d83fd321ceb4eed40944e1ed40aeac4", func := "tandem/tandemlaw1.CartSame", spec := "cartSame", named := ["tandem/cart.turns"], apart := false, laid := [("tandem/cart.turns", laid_tandem_cart_turns)], narrowed := true }
def CartSameUptoSaid : Prop := cartSameUptoRow.holds Tryd.pinned (OpenSpec.upto cartSameSpec)

/-- 'tandemlaw1.CartSums', WHERE WHAT IT READS IS OF BULK AT MOST 1048576: true; the input reads as it did. -/
def cartSumsUptoRow : OpenClaim := { program := "ytfmionfbknadiaadoor", sum := "cdd37d291cebe12f04e0f7d856d4678b7d83fd321ceb4eed40944e1ed40aeac4", func := "tandem/tandemlaw1.CartSums", spec := "cartSums", named := ["tandem/cart.turns"], apart := false, laid := [("tandem/cart.turns", laid_tandem_cart_turns)], narrowed := true }
def CartSumsUptoSaid : Prop := cartSumsUptoRow.holds Tryd.pinned (OpenSpec.upto cartSumsSpec)

end Rows
end Go.Proofs.YtfmionfbknadiaaDoor
