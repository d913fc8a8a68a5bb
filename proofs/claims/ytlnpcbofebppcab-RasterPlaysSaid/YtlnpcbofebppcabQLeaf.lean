/-
  The contracts of the small functions of package raster that look at a place; conditions: the numbers fit their kinds.
-/
import Derived.Test.YtlnpcbofebppcabQBase
set_option linter.unusedSimpArgs false
set_option linter.unusedVariables false
namespace Go.Proofs.Ytlnpcbofebppcab
open Go.RowKit Classical
/-- The cells of a raster in the midst of a dot. -/
def bm (r : Rs) (c : Bool) : Array Value := #[.int .i64 r.line, .int .i64 r.dot, .bool r.odd, .bool r.vbl, .bool r.nmi, .bool r.draw, .bool r.hold, .bool c]
theorem below_new {w : World} (o : Obj) : Below w.heap.size w (w.alloc o) := (Below.refl _ _).alloc (Nat.le_refl _) _
theorem below_new2 {w : World} (o p : Obj) : Below w.heap.size w ((w.alloc o).alloc p) := (below_new o).alloc (by simp) _
theorem below_new3 {w : World} (o p q : Obj) : Below w.heap.size w (((w.alloc o).alloc p).alloc q) := (below_new2 o p).alloc (by simp; omega) _
theorem below_new4 {w : World} (o p q r : Obj) : Below w.heap.size w ((((w.alloc o).alloc p).alloc q).alloc r) := (below_new3 o p q).alloc (by simp; omega) _
theorem is_any (line dot : Int) (odd vbl nmi draw hold c : Bool) (l d : Int) (w : World) :
    Calls Try.prog 47 #[.agg #[.int .i64 line, .int .i64 dot, .bool odd, .bool vbl, .bool nmi, .bool draw, .bool hold, .bool c], .int .i64 l, .int .i64 d] w fun e w' => e = .returned (.bool (decide (line = l) && decide (dot = d))) ∧
      w' = w.alloc (.cells #[.int .i64 line, .int .i64 dot, .bool odd, .bool vbl, .bool nmi, .bool draw, .bool hold, .bool c] 49) := by
  by_cases h1 : line = l <;> by_cases h2 : dot = d
  all_goals
    go_enter Try.func47, Try.ntmps47
    go_wp2
    go_ret
    simp [*]
end Go.Proofs.Ytlnpcbofebppcab
