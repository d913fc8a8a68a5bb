/-
  The document's clock in memory while its calls go on.
-/
import Derived.Test.YtobiiogoofkmaaaDoorTTop0
import Derived.Test.YtobiiogoofkmaaaDoorTRValid
set_option linter.unusedSimpArgs false
set_option linter.unusedVariables false
namespace Go.Proofs.YtobiiogoofkmaaaDoor
open Go.RowKit Classical
theorem At.sto {w0 w w' : World} {b : Nat} {c c' : Ck} (h : At w0 w b c) (h1 : Blk w' b c'.cells 24) (h2 : Below w0.heap.size w0 w') (h3 : ∀ b' cs' t', b' ≠ b → Blk w b' cs' t' → Blk w' b' cs' t') : At w0 w' b c' :=
  ⟨h1, h.le, h2, h.res.elim fun rc hr => ⟨rc, h3 _ _ _ (by omega) hr⟩⟩
theorem At.begin (w : World) (c : Ck) : At w ((w.alloc (.cells c.cells 24)).alloc (.cells #[.int .u16 0, .int .u16 0, .int .u16 0, .int .u8 0, .int .u8 0, .bool false, .bool false, .bool false, .bool false, .bool false, .int .u16 0, .int .u8 0, .int .u8 0] 24)) w.heap.size c :=
  ⟨(Blk.new w _ _).old _, Nat.le_refl _, below_a2 _ _ _, zeroC, by
    have h := Blk.new (w.alloc (.cells c.cells 24)) zeroC.cells 24
    rw [show (w.alloc (.cells c.cells 24)).heap.size = w.heap.size + 1 by simp] at h
    exact h⟩
theorem rvalid_any (c : Ck) (w : World) (o : c.Ok) :
    Calls Tryd.prog 28 #[.agg c.cells] w fun e w' => e = .returned (.bool c.valid) ∧ Below w.heap.size w w' :=
  (rvalid_ex c w o).mono fun e w' ⟨he, n, hn⟩ => ⟨he, by subst hn; exact below_draws ((Below.refl _ _).alloc (Nat.le_refl _) _) n⟩
end Go.Proofs.YtobiiogoofkmaaaDoor
