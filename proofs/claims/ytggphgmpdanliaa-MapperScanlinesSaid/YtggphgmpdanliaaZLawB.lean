/-
  Boards of a law in memory.
-/
import Derived.Test.YtggphgmpdanliaaZMade
set_option linter.unusedSimpArgs false
set_option linter.unusedVariables false
namespace Go.Proofs.Ytggphgmpdanliaa
open Go.RowKit Classical
theorem G.setB {w v : World} {l : List (Nat × Array Value × TypeId)} {b : Nat} {c d : Bd} (h : G w ((b, c.cells, 28) :: l) v) (hc : c.r.length = 8) (hd : d.r.length = 8) (hle : w.heap.size ≤ b) (hn : ∀ p ∈ l, p.1 ≠ b) : G w ((b, d.cells, 28) :: l) (v.setCells b 0 d.cells.toList) :=
  G.put h hn ((h.blk b c.cells 28 (List.mem_cons_self ..)).setAll _ ((isB d hd).size.trans (isB c hc).size.symm)) (setCells_below hle _ _ _ _ h.2) (fun b' cs' t' hb hB => hB.otherCells hb _ _)
theorem G.newB {w v : World} {l : List (Nat × Array Value × TypeId)} {d : Bd} (h : G w l v) (hd : d.r.length = 8) : G w ((v.heap.size, d.cells, 28) :: l) ((v.alloc (.cells Z31 28)).setCells v.heap.size 0 d.cells.toList) :=
  h.more (z := .cells Z31 28) ((Blk.new v Z31 28).setAll _ (isB d hd).size) (setCells_below h.2.size _ _ _ _ (h.2.alloc h.2.size _)) (fun b' cs' t' hb hB => hB.otherCells hb _ _)
theorem G.range {w v : World} {l : List (Nat × Array Value × TypeId)} (h : G w l v) {b o : Nat} {cs : List Value} (hb : b < w.heap.size) (R : w.rangeAt b o cs) : v.rangeAt b o cs := fun j x hx => (h.2.cell (p := ⟨b, o + j, none⟩) hb).trans (R j x hx)
theorem newB_there (v : World) (d : Bd) (hd : d.r.length = 8) : (v.alloc (.cells Z31 28)).there v.heap.size 0 d.cells.size := (Blk.new v Z31 28).there _ (by rw [(isB d hd).size]; rfl)
theorem setB_there {v : World} {b : Nat} {c d : Bd} (h : Blk v b c.cells 28) (hc : c.r.length = 8) (hd : d.r.length = 8) : v.there b 0 d.cells.size := h.there _ ((isB c hc).size.trans (isB d hd).size.symm)
end Go.Proofs.Ytggphgmpdanliaa
