/-
  What Translate of package xlate makes of code: plain definitions.
-/
import Derived.Test.YtfdiplgjiidnbaaDoorIShape
import Derived.Test.YtfdiplgjiidnbaaDoorATab
set_option linter.unusedSimpArgs false
set_option linter.unusedVariables false
namespace Go.Proofs.YtfdiplgjiidnbaaDoor
open Go.RowKit Classical
/-- The tests of the leaves. -/
def endsI (x : Int) : Bool := x == 5 || (x == 6 || (x == 7 || x == 8))
def behI (x : Int) : Bool := x == 2 || (x == 3 || (x == 9 || x == 7))
def ixI (x : Int) : Bool := (x == 9 || x == 10) || x == 7
def crossI (a b : Int) : Bool := a / 256 != b / 256
def barI (x : Int) : Bool := x == 15 || (x == 46 || (x == 38 || (x == 41 || (x == 10 || x == 69))))
def stackI (tag at' : Int) : Bool := tag == 128 && (at' + 2) % 2048 / 256 == 1
def inI (op ln at' tag there : Int) : Bool := !barI op && (!(op == 28 && stackI tag at') && decide (ln < there))
def lieI (pc tag : Int) : Bool := if tag = 128 then decide (pc < 8192) else if tag = 129 then decide (24576 ≤ pc) && decide (pc < 32768) else decide (0 ≤ tag) && (decide (tag ≤ 127) && decide (32768 ≤ pc))
def sizeI (tag : Int) : Int := if tag = 128 then 2048 else 8192
def endI (pc tag : Int) : Int := (pc / sizeI tag + 1) * sizeI tag
/-- The cells of a piece. -/
abbrev pcC (op md kd ln cy cl at' : Int) (a : Option Addr) (n c : Nat) (num cyc lv : Int) : Array Value :=
  #[.int .i64 op, .int .i64 md, .int .i64 kd, .int .i64 ln, .int .i64 cy, .int .i64 cl, .int .u16 at', .slice a n c, .int .i64 num, .int .i64 cyc, .int .u8 lv]
end Go.Proofs.YtfdiplgjiidnbaaDoor
