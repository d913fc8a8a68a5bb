/-
  A law's rasters in memory: one of them written over, whole or a field.
-/
import Derived.Test.YtlnpcbofebppcabQSt2
set_option linter.unusedSimpArgs false
set_option linter.unusedVariables false
namespace Go.Proofs.Ytlnpcbofebppcab
open Go.RowKit Classical
theorem St.sub {w v : World} {l l' : List (Nat × Rs)} (h : St w l v) (hs : ∀ p ∈ l', p ∈ l) : St w l' v := ⟨fun p hp => h.1 p (hs p hp), h.2⟩
theorem St.sto {w v v' : World} {b : Nat} {c d : Rs} {l : List (Nat × Rs)} (h : St w ((b, c) :: l) v) (hn : ∀ p ∈ l, p.1 ≠ b) (h1 : Blk v' b d.cells 23) (h2 : Below w.heap.size w v') (h3 : ∀ b' cs' t', b' ≠ b → Blk v b' cs' t' → Blk v' b' cs' t') : St w ((b, d) :: l) v' :=
  ⟨fun p hp => by
    rcases List.mem_cons.1 hp with rfl | hp
    · exact h1
    · exact h3 _ _ _ (hn p hp) (h.1 p (List.mem_cons_of_mem _ hp)), h2⟩
theorem St.fld {w v : World} {b : Nat} {c d : Rs} {l : List (Nat × Rs)} (h : St w ((b, c) :: l) v) (hn : ∀ p ∈ l, p.1 ≠ b) (hB : w.heap.size ≤ b) (i : Nat) (x : Value) (hc : c.cells.setIfInBounds i x = d.cells) : St w ((b, d) :: l) (v.setCell ⟨b, i, none⟩ x) :=
  ⟨fun p hp => by
    rcases List.mem_cons.1 hp with rfl | hp
    · exact hc ▸ (h.1 (b, c) (List.mem_cons_self ..)).set i x
    · exact (h.1 p (List.mem_cons_of_mem _ hp)).other (hn p hp) i x, h.2.setCell (p := ⟨b, i, none⟩) hB _⟩
end Go.Proofs.Ytlnpcbofebppcab
