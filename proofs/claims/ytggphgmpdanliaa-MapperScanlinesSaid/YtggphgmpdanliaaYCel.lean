/-
  A board in a block: one of its cells written anew.
-/
import Derived.Test.YtggphgmpdanliaaYHand
set_option linter.unusedSimpArgs false
set_option linter.unusedVariables false
namespace Go.Proofs.Ytggphgmpdanliaa
open Go.RowKit Classical
theorem cellsW_7 {b : Bd} (hr : b.r.length = 8) (v : Int) : b.cells.setIfInBounds 7 (.int .u8 v) = ({ b with shift := v } : Bd).cells := by
  obtain ⟨a0, a1, a2, a3, a4, a5, a6, a7, er⟩ := Bd.eight hr
  unfold Bd.cells
  rw [er]
  rfl
theorem cellsW_8 {b : Bd} (hr : b.r.length = 8) (v : Int) : b.cells.setIfInBounds 8 (.int .u8 v) = ({ b with ctrl := v } : Bd).cells := by
  obtain ⟨a0, a1, a2, a3, a4, a5, a6, a7, er⟩ := Bd.eight hr
  unfold Bd.cells
  rw [er]
  rfl
theorem cellsW_9 {b : Bd} (hr : b.r.length = 8) (v : Int) : b.cells.setIfInBounds 9 (.int .u8 v) = ({ b with chrA := v } : Bd).cells := by
  obtain ⟨a0, a1, a2, a3, a4, a5, a6, a7, er⟩ := Bd.eight hr
  unfold Bd.cells
  rw [er]
  rfl
theorem cellsW_10 {b : Bd} (hr : b.r.length = 8) (v : Int) : b.cells.setIfInBounds 10 (.int .u8 v) = ({ b with chrB := v } : Bd).cells := by
  obtain ⟨a0, a1, a2, a3, a4, a5, a6, a7, er⟩ := Bd.eight hr
  unfold Bd.cells
  rw [er]
  rfl
theorem cellsW_11 {b : Bd} (hr : b.r.length = 8) (v : Int) : b.cells.setIfInBounds 11 (.int .u8 v) = ({ b with prgR := v } : Bd).cells := by
  obtain ⟨a0, a1, a2, a3, a4, a5, a6, a7, er⟩ := Bd.eight hr
  unfold Bd.cells
  rw [er]
  rfl
theorem cellsW_12 {b : Bd} (hr : b.r.length = 8) (v : Int) : b.cells.setIfInBounds 12 (.int .i64 v) = ({ b with last := v } : Bd).cells := by
  obtain ⟨a0, a1, a2, a3, a4, a5, a6, a7, er⟩ := Bd.eight hr
  unfold Bd.cells
  rw [er]
  rfl
theorem cellsW_13 {b : Bd} (hr : b.r.length = 8) (v : Int) : b.cells.setIfInBounds 13 (.int .u8 v) = ({ b with latch := v } : Bd).cells := by
  obtain ⟨a0, a1, a2, a3, a4, a5, a6, a7, er⟩ := Bd.eight hr
  unfold Bd.cells
  rw [er]
  rfl
theorem cellsW_14 {b : Bd} (hr : b.r.length = 8) (v : Int) : b.cells.setIfInBounds 14 (.int .u8 v) = ({ b with sel := v } : Bd).cells := by
  obtain ⟨a0, a1, a2, a3, a4, a5, a6, a7, er⟩ := Bd.eight hr
  unfold Bd.cells
  rw [er]
  rfl
theorem cellsW_23 {b : Bd} (hr : b.r.length = 8) (v : Int) : b.cells.setIfInBounds 23 (.int .u8 v) = ({ b with turn := v } : Bd).cells := by
  obtain ⟨a0, a1, a2, a3, a4, a5, a6, a7, er⟩ := Bd.eight hr
  unfold Bd.cells
  rw [er]
  rfl
theorem cellsW_24 {b : Bd} (hr : b.r.length = 8) (v : Int) : b.cells.setIfInBounds 24 (.int .u8 v) = ({ b with guard := v } : Bd).cells := by
  obtain ⟨a0, a1, a2, a3, a4, a5, a6, a7, er⟩ := Bd.eight hr
  unfold Bd.cells
  rw [er]
  rfl
theorem cellsW_25 {b : Bd} (hr : b.r.length = 8) (v : Int) : b.cells.setIfInBounds 25 (.int .u8 v) = ({ b with iLatch := v } : Bd).cells := by
  obtain ⟨a0, a1, a2, a3, a4, a5, a6, a7, er⟩ := Bd.eight hr
  unfold Bd.cells
  rw [er]
  rfl
theorem cellsW_26 {b : Bd} (hr : b.r.length = 8) (v : Int) : b.cells.setIfInBounds 26 (.int .u8 v) = ({ b with iCount := v } : Bd).cells := by
  obtain ⟨a0, a1, a2, a3, a4, a5, a6, a7, er⟩ := Bd.eight hr
  unfold Bd.cells
  rw [er]
  rfl
theorem cellsW_27 {b : Bd} (hr : b.r.length = 8) (v : Bool) : b.cells.setIfInBounds 27 (.bool v) = ({ b with iLoad := v } : Bd).cells := by
  obtain ⟨a0, a1, a2, a3, a4, a5, a6, a7, er⟩ := Bd.eight hr
  unfold Bd.cells
  rw [er]
  rfl
theorem cellsW_28 {b : Bd} (hr : b.r.length = 8) (v : Bool) : b.cells.setIfInBounds 28 (.bool v) = ({ b with iOn := v } : Bd).cells := by
  obtain ⟨a0, a1, a2, a3, a4, a5, a6, a7, er⟩ := Bd.eight hr
  unfold Bd.cells
  rw [er]
  rfl
theorem cellsW_29 {b : Bd} (hr : b.r.length = 8) (v : Bool) : b.cells.setIfInBounds 29 (.bool v) = ({ b with irq := v } : Bd).cells := by
  obtain ⟨a0, a1, a2, a3, a4, a5, a6, a7, er⟩ := Bd.eight hr
  unfold Bd.cells
  rw [er]
  rfl
theorem cellsW_30 {b : Bd} (hr : b.r.length = 8) (v : Int) : b.cells.setIfInBounds 30 (.int .i64 v) = ({ b with epoch := v } : Bd).cells := by
  obtain ⟨a0, a1, a2, a3, a4, a5, a6, a7, er⟩ := Bd.eight hr
  unfold Bd.cells
  rw [er]
  rfl
theorem cellsW_15 {b : Bd} (hr : b.r.length = 8) (v : Int) : b.cells.setIfInBounds 15 (.int .u8 v) = ({ b with r := b.r.set 0 v } : Bd).cells := by
  obtain ⟨a0, a1, a2, a3, a4, a5, a6, a7, er⟩ := Bd.eight hr
  unfold Bd.cells
  rw [er]
  rfl
theorem cellsW_16 {b : Bd} (hr : b.r.length = 8) (v : Int) : b.cells.setIfInBounds 16 (.int .u8 v) = ({ b with r := b.r.set 1 v } : Bd).cells := by
  obtain ⟨a0, a1, a2, a3, a4, a5, a6, a7, er⟩ := Bd.eight hr
  unfold Bd.cells
  rw [er]
  rfl
theorem cellsW_17 {b : Bd} (hr : b.r.length = 8) (v : Int) : b.cells.setIfInBounds 17 (.int .u8 v) = ({ b with r := b.r.set 2 v } : Bd).cells := by
  obtain ⟨a0, a1, a2, a3, a4, a5, a6, a7, er⟩ := Bd.eight hr
  unfold Bd.cells
  rw [er]
  rfl
theorem cellsW_18 {b : Bd} (hr : b.r.length = 8) (v : Int) : b.cells.setIfInBounds 18 (.int .u8 v) = ({ b with r := b.r.set 3 v } : Bd).cells := by
  obtain ⟨a0, a1, a2, a3, a4, a5, a6, a7, er⟩ := Bd.eight hr
  unfold Bd.cells
  rw [er]
  rfl
theorem cellsW_19 {b : Bd} (hr : b.r.length = 8) (v : Int) : b.cells.setIfInBounds 19 (.int .u8 v) = ({ b with r := b.r.set 4 v } : Bd).cells := by
  obtain ⟨a0, a1, a2, a3, a4, a5, a6, a7, er⟩ := Bd.eight hr
  unfold Bd.cells
  rw [er]
  rfl
theorem cellsW_20 {b : Bd} (hr : b.r.length = 8) (v : Int) : b.cells.setIfInBounds 20 (.int .u8 v) = ({ b with r := b.r.set 5 v } : Bd).cells := by
  obtain ⟨a0, a1, a2, a3, a4, a5, a6, a7, er⟩ := Bd.eight hr
  unfold Bd.cells
  rw [er]
  rfl
theorem cellsW_21 {b : Bd} (hr : b.r.length = 8) (v : Int) : b.cells.setIfInBounds 21 (.int .u8 v) = ({ b with r := b.r.set 6 v } : Bd).cells := by
  obtain ⟨a0, a1, a2, a3, a4, a5, a6, a7, er⟩ := Bd.eight hr
  unfold Bd.cells
  rw [er]
  rfl
theorem cellsW_22 {b : Bd} (hr : b.r.length = 8) (v : Int) : b.cells.setIfInBounds 22 (.int .u8 v) = ({ b with r := b.r.set 7 v } : Bd).cells := by
  obtain ⟨a0, a1, a2, a3, a4, a5, a6, a7, er⟩ := Bd.eight hr
  unfold Bd.cells
  rw [er]
  rfl
/-- A board in a block, and a result's cells behind it. -/
structure Pair (w : World) (b : Bd) (v : World) : Prop where
  blk : Blk v w.heap.size b.cells 28
  res : Blk v (w.heap.size + 1) Z31 28
  bel : Below w.heap.size w v
theorem Pair.set {w v : World} {b d : Bd} (h : Pair w b v) (k : Nat) (x : Value) (e : b.cells.setIfInBounds k x = d.cells) : Pair w d (v.setCell ⟨w.heap.size, k, none⟩ x) :=
  ⟨e ▸ h.blk.set k x, h.res.other (by omega) k x, Below.setCell (p := ⟨w.heap.size, k, none⟩) h.bel (Nat.le_refl _) _⟩
theorem Pair.drew {w v : World} {b : Bd} (h : Pair w b v) : Pair w b v.drew := ⟨h.blk, h.res, h.bel.drew⟩
theorem Pair.on {w v v' : World} {b : Bd} (h : Pair w b v) (hb : Below v.heap.size v v') : Pair w b v' :=
  ⟨h.blk.below h.blk.lt hb, h.res.below h.res.lt hb, h.bel.trans (hb.mono h.bel.size)⟩
theorem Pair.start (w : World) (b : Bd) : Pair w b ((w.alloc (.cells b.cells 28)).alloc (.cells Z31 28)) :=
  ⟨(Blk.new w _ _).old _, by have := Blk.new (w.alloc (.cells b.cells 28)) Z31 28; rwa [World.size_alloc] at this, ((Below.refl _ _).alloc (Nat.le_refl _) _).alloc (by simp) _⟩
end Go.Proofs.Ytggphgmpdanliaa
