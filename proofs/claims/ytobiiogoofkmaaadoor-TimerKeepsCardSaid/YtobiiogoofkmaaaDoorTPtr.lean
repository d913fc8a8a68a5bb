/-
  A clock behind a pointer: what a block holds while calls go on; runOut and tickTimer.
-/
import Derived.Test.YtobiiogoofkmaaaDoorTAck
set_option linter.unusedSimpArgs false
set_option linter.unusedVariables false
namespace Go.Proofs.YtobiiogoofkmaaaDoor
open Go.RowKit Classical
/-- The block b, made since w0, holds the clock c, the block behind it some clock; all that lay in w0 is as it was. -/
structure At (w0 w : World) (b : Nat) (c : Ck) : Prop where
  blk : Blk w b c.cells 24
  le : w0.heap.size ≤ b
  bel : Below w0.heap.size w0 w
  res : ∃ rc : Ck, Blk w (b + 1) rc.cells 24
theorem At.set {w0 w : World} {b : Nat} {c c' : Ck} (h : At w0 w b c) (i : Nat) (v : Value) (hc : c.cells.setIfInBounds i v = c'.cells) : At w0 (w.setCell ⟨b, i, none⟩ v) b c' :=
  ⟨hc ▸ h.blk.set i v, h.le, h.bel.setCell (p := ⟨b, i, none⟩) h.le _, h.res.elim fun rc hr => ⟨rc, hr.other (by omega) i v⟩⟩
theorem At.drews {w0 w : World} {b : Nat} {c : Ck} (h : At w0 w b c) (n : Nat) : At w0 (w.drewN n) b c := ⟨h.blk, h.le, below_draws h.bel n, h.res⟩
theorem At.drew {w0 w : World} {b : Nat} {c : Ck} (h : At w0 w b c) : At w0 w.drew b c := ⟨h.blk, h.le, h.bel.drew, h.res⟩
theorem At.facts {w0 w : World} {b : Nat} {c : Ck} (h : At w0 w b c) :
    w.cell? ⟨b, 0, none⟩ = some (.int .u16 c.latch) ∧ w.cell? ⟨b, 1, none⟩ = some (.int .u16 c.count) ∧ w.cell? ⟨b, 2, none⟩ = some (.int .u16 c.pre) ∧ w.cell? ⟨b, 3, none⟩ = some (.int .u8 c.hold) ∧ w.cell? ⟨b, 4, none⟩ = some (.int .u8 c.ctl) ∧ w.cell? ⟨b, 5, none⟩ = some (.bool c.flag) ∧ w.cell? ⟨b, 6, none⟩ = some (.bool c.over) ∧ w.cell? ⟨b, 7, none⟩ = some (.bool c.five) ∧ w.cell? ⟨b, 8, none⟩ = some (.bool c.inh) ∧ w.cell? ⟨b, 9, none⟩ = some (.bool c.frame) ∧ w.cell? ⟨b, 10, none⟩ = some (.int .u16 c.at_) ∧ w.cell? ⟨b, 11, none⟩ = some (.int .u8 c.wait) ∧ w.cell? ⟨b, 12, none⟩ = some (.int .u8 c.beats) ∧ ∀ i, w.frozen? ⟨b, i, none⟩ = false :=
  ⟨h.blk.cell 0, h.blk.cell 1, h.blk.cell 2, h.blk.cell 3, h.blk.cell 4, h.blk.cell 5, h.blk.cell 6, h.blk.cell 7, h.blk.cell 8, h.blk.cell 9, h.blk.cell 10, h.blk.cell 11, h.blk.cell 12, h.blk.free⟩
theorem nat_and4 (a : Nat) (h : a < 256) : a &&& 4 = if a / 4 % 2 = 1 then 4 else 0 := by revert a; decide +kernel
theorem nat_and1 (a : Nat) (h : a < 256) : a &&& 1 = a % 2 := by revert a; decide +kernel
theorem nat_and2 (a : Nat) (h : a < 256) : a &&& 2 = if a / 2 % 2 = 1 then 2 else 0 := by revert a; decide +kernel
theorem nat_andN1 (a : Nat) (h : a < 256) : a &&& (255 - 1) = a - a % 2 := by revert a; decide +kernel
theorem and1 (x : Int) (h0 : 0 ≤ x) (h1 : x ≤ 255) : bits .and .u8 x 1 = x % 2 := by
  obtain ⟨k, rfl⟩ := Int.eq_ofNat_of_zero_le h0
  have := bitsN_and k 1 (by omega) (by decide)
  rw [nat_and1 k (by omega)] at this
  exact this
theorem and4 (x : Int) (h0 : 0 ≤ x) (h1 : x ≤ 255) : bits .and .u8 x 4 = if x / 4 % 2 = 1 then 4 else 0 := by
  obtain ⟨k, rfl⟩ := Int.eq_ofNat_of_zero_le h0
  have := bitsN_and k 4 (by omega) (by decide)
  rw [nat_and4 k (by omega)] at this
  refine this.trans ?_
  by_cases h : k / 4 % 2 = 1
  · rw [if_pos h, if_pos (by omega)]; rfl
  · rw [if_neg h, if_neg (by omega)]; rfl
theorem and2 (x : Int) (h0 : 0 ≤ x) (h1 : x ≤ 255) : bits .and .u8 x 2 = if x / 2 % 2 = 1 then 2 else 0 := by
  obtain ⟨k, rfl⟩ := Int.eq_ofNat_of_zero_le h0
  have := bitsN_and k 2 (by omega) (by decide)
  rw [nat_and2 k (by omega)] at this
  refine this.trans ?_
  by_cases h : k / 2 % 2 = 1
  · rw [if_pos h, if_pos (by omega)]; rfl
  · rw [if_neg h, if_neg (by omega)]; rfl
theorem andN1 (x : Int) (h0 : 0 ≤ x) (h1 : x ≤ 255) : bits .andNot .u8 x 1 = x - x % 2 := by
  obtain ⟨k, rfl⟩ := Int.eq_ofNat_of_zero_le h0
  have := u8_andNot_nat k 1 (by omega) (by decide)
  rw [nat_andN1 k (by omega)] at this
  exact this.trans (by omega)
end Go.Proofs.YtobiiogoofkmaaaDoor
