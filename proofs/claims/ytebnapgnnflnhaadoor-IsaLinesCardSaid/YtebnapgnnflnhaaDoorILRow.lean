/-
  Bytes in memory.
-/
import Derived.Test.YtebnapgnnflnhaaDoorIL0
import Derived.Test.YtebnapgnnflnhaaDoorRows
import Derived.WalkSpells
import Derived.WalkLawsBesides
import Derived.Laws.BitsAllLaws
import Derived.Laws.IdiomStrings
import Derived.Deep.CutBlock
import Derived.Deep.DeepCutAuto
import Derived.BigQuiet
import Derived.OwnWalk
set_option linter.unusedSimpArgs false
set_option linter.unusedVariables false
namespace Go.Proofs.YtebnapgnnflnhaaDoor
open Go.RowKit
/-- These bytes lie in a block from its beginning on, and may be written. -/
def RowB (w : World) (g : Nat) (l : List UInt8) : Prop := ∀ j, j < l.length → w.cell? ⟨g, j, none⟩ = some (.int .u8 ((l.getD j 0).toNat : Int)) ∧ w.frozen? ⟨g, j, none⟩ = false
theorem RowB.set {w : World} {g : Nat} {l : List UInt8} (h : RowB w g l) (i : Nat) (d : UInt8) : RowB (w.setCell ⟨g, i, none⟩ (.int .u8 (d.toNat : Int))) g (l.set i d) := by
  intro j hj
  rw [List.length_set] at hj
  obtain ⟨h1, h2⟩ := h j hj
  refine ⟨?_, by rw [World.frozen?_setCell]; exact h2⟩
  by_cases e : i = j
  · subst e
    rw [World.cell?_setCell_same' _ _ _ (by rw [h1]; rfl)]
    simp [List.getD, hj]
  · rw [World.cell?_setCell_other _ _ _ _ (by intro h; cases h; exact e rfl), h1]
    simp [List.getD, List.getElem?_set_ne e]
/-- A text turned into bytes. -/
theorem to_bytes (w : World) (l : List UInt8) : ∃ cap w1, (convert 9 22 (.string ⟨l.toArray⟩)).run Tryd.prog w = .ok (.slice (some ⟨w.heap.size, 0, none⟩) l.length cap) w1 ∧ RowB w1 w.heap.size l ∧ Below w.heap.size w w1 := by
  have h := run_bytes_of_string (P := Tryd.prog) w 9 22 5 ⟨l.toArray⟩ Tryd.underlying9 Tryd.underlying22 Tryd.underlying5
  have hsz : (ByteArray.mk l.toArray).size = l.length := by simp [ByteArray.size]
  refine ⟨_, _, (by rw [h, hsz]), ?_, (Below.refl _ _).drew.alloc (Nat.le_refl _) _⟩
  intro j hj
  refine ⟨?_, ?_⟩
  · have e := World.cell?_alloc_mark w.drew (bytesRow ⟨l.toArray⟩ (grownCap w l.length 0 5)) 5 ((bytesRow ⟨l.toArray⟩ (grownCap w l.length 0 5)).size, (bytesRow ⟨l.toArray⟩ (grownCap w l.length 0 5)).size + 1) j
    rw [bytesRow_at _ _ j (by simpa using hj)] at e
    rw [getD_lt l j hj]
    simpa using e
  · have e := World.frozen?_alloc_mark w.drew (bytesRow ⟨l.toArray⟩ (grownCap w l.length 0 5)) 5 (bytesRow ⟨l.toArray⟩ (grownCap w l.length 0 5)).size ((bytesRow ⟨l.toArray⟩ (grownCap w l.length 0 5)).size + 1) j
    have hj2 : j < (bytesRow ⟨l.toArray⟩ (grownCap w l.length 0 5)).size := by unfold bytesRow; simp; omega
    rw [show decide ((bytesRow ⟨l.toArray⟩ (grownCap w l.length 0 5)).size ≤ j) = false by simp; omega] at e
    exact e
theorem RowB.str {w : World} {g : Nat} {l : List UInt8} (h : RowB w g l) (cap : Nat) : (convert 22 9 (.slice (some ⟨g, 0, none⟩) l.length cap)).run Tryd.prog w = .ok (.string ⟨l.toArray⟩) w :=
  run_convert_bytes_back w 22 9 5 ⟨g, 0, none⟩ cap l (by kernel_rfl) (by kernel_rfl) (by kernel_rfl) fun j hj => by
    have hc := (h j hj).1
    rw [getD_lt l j hj] at hc
    by_cases hj0 : j = 0
    · subst hj0; simpa [Addr.add] using hc
    · simpa [Addr.add, hj0] using hc
end Go.Proofs.YtebnapgnnflnhaaDoor
