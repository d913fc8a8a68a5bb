/-
  A clock in memory while calls go on; what a function that answers a clock gives back.
-/
import Derived.Test.YtobiiogoofkmaaaDoorTLaw0
import Derived.Test.YtobiiogoofkmaaaDoorTPtr
import Derived.Test.YtobiiogoofkmaaaDoorTRead0
set_option linter.unusedSimpArgs false
set_option linter.unusedVariables false
namespace Go.Proofs.YtobiiogoofkmaaaDoor
open Go.RowKit Classical
def zeroC : Ck := ⟨0, 0, 0, 0, 0, false, false, false, false, false, 0, 0, 0⟩
theorem At.on {w0 w w' : World} {b : Nat} {c : Ck} (h : At w0 w b c) (hb : Below w.heap.size w w') : At w0 w' b c :=
  ⟨h.blk.below h.blk.lt hb, h.le, h.bel.trans (hb.mono h.bel.size), h.res.elim fun rc hr => ⟨rc, hr.below hr.lt hb⟩⟩
theorem results_cell {fn : Func} {p : Tmp} {ty : TypeId} (h : fn.results = #[.cell p ty]) (tmps : Array Value) (P : Program) (w : World) :
    (results fn tmps).run P w = ((asAddr (tmps.getD p undef)).run P w).andThen fun a w₁ => (loadVar ty a).run P w₁ := by
  simp only [results, h]
  simp [Sem.run_bind, Result.andThen]
theorem res_ck {fn : Func} {p : Tmp} {tmps : Array Value} {w : World} {r : Nat} {c : Ck} (h : fn.results = #[.cell p 24]) (hp : tmps.getD p undef = .pointer (some ⟨r, 0, none⟩)) (hr : Blk w r c.cells 24) :
    (results fn tmps).run Tryd.prog w = .ok (.agg c.cells) w := by
  rw [results_cell h, hp]
  have := run_loadVar_mid (P := Tryd.prog) w r 0 24 c.cells.toList _ hr.range' Tryd.underlying24 rfl (by rw [Array.length_toList]; exact infoC' c)
  simp only [asAddr, Sem.run_pure, Result.andThen_ok, this, Array.toArray_toList]
end Go.Proofs.YtobiiogoofkmaaaDoor
