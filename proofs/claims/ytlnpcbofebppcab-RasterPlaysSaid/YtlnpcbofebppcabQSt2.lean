/-
  A law's rasters in memory: one more of them.
-/
import Derived.Test.YtlnpcbofebppcabQSt
set_option linter.unusedSimpArgs false
set_option linter.unusedVariables false
namespace Go.Proofs.Ytlnpcbofebppcab
open Go.RowKit Classical
theorem St.more {w v v' : World} {l : List (Nat × Rs)} {z : Obj} {d : Rs} (h : St w l v) (h1 : Blk v' v.heap.size d.cells 23) (h2 : Below w.heap.size w v') (ho : ∀ b' cs' t', b' ≠ v.heap.size → Blk (v.alloc z) b' cs' t' → Blk v' b' cs' t') : St w ((v.heap.size, d) :: l) v' :=
  ⟨fun p hp => by
    rcases List.mem_cons.1 hp with rfl | hp
    · exact h1
    · exact ho _ _ _ (Nat.ne_of_lt (h.1 p hp).lt) ((h.1 p hp).old z), h2⟩
end Go.Proofs.Ytlnpcbofebppcab
