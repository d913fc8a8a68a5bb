/-
  What the law IsaBus needs of every opcode.
-/
import Derived.Test.YtjlakfbggkbmnaaICount
import Derived.Test.YtjlakfbggkbmnaaIShp
import Derived.Deep.QuietTactic
import Derived.BigQuiet
import Derived.Deep.CutBlock
import Derived.Deep.RegionWith
set_option linter.unusedSimpArgs false
set_option linter.unusedVariables false
namespace Go.Proofs.Ytjlakfbggkbmnaa
open Go.RowKit
structure BusF (o md kd ln : Nat) (l x t y : List Nat) : Prop where
  h0 : l.getD 0 0 = 0
  c0 : cnt y 0 = 1
  ln1 : 1 ≤ ln
  ln3 : ln ≤ 3
  l1 : cnt l 1 + 1 = ln + exN o
  y1 : cnt y 1 + 1 = ln + exN o
  kA : (kd = 1 ∨ kd = 4) → cnt y 9 = 0 ∧ cnt y 7 = 1 ∧ cnt y 8 = 0 ∧ y.getD (y.length - 1) 0 = 7
  kB : kd = 2 → cnt y 9 = 1 ∧ cnt y 7 = 0 ∧ cnt y 8 = 0 ∧ y.getD (y.length - 1) 0 = 9
  kC : kd = 3 → cnt y 9 = 1 ∧ cnt y 7 = 1 ∧ cnt y 8 = 1 ∧ 5 ≤ y.length ∧ y.getD (y.length - 3) 0 = 7 ∧ y.getD (y.length - 2) 0 = 8 ∧ y.getD (y.length - 1) 0 = 9
  kD : ¬ (kd = 1 ∨ kd = 4) → kd ≠ 2 → kd ≠ 3 → cnt y 9 = 0 ∧ cnt y 7 = 0 ∧ cnt y 8 = 0
  k5 : kd = 5 → l.length = 2 ∧ x.length = 2 ∧ t.length = 3 ∧ y.length = 4
  kN : kd ≠ 5 → t.length = l.length ∧ x.length = l.length + ltN kd md ∧ y.length = x.length ∧ cnt y 11 + cnt y 12 = mvN o
theorem busF (k : Nat) (hk : k < 256) : BusF (opN k) (mdN k) (kdN k) (lnN k) (shQ k false false) (shQ k true false) (shQ k false true) (shQ k true true) := by
  have h := List.all_eq_true.1 okBus_all k (by simpa using hk)
  simp only [okBus, Bool.and_eq_true, decide_eq_true_eq, beq_iff_eq] at h
  obtain ⟨⟨⟨⟨⟨⟨⟨a1, a2⟩, a3⟩, a4⟩, a5⟩, a6⟩, a7⟩, a8⟩ := h
  refine ⟨?_, a2, a3, a4, a5, a6, ?_, ?_, ?_, ?_, ?_, ?_⟩
  · have := (shp_length k hk false false).2
    simpa [List.getD, show 0 < (shQ k false false).length by omega] using a1
  · intro h; rw [if_pos h] at a7; simpa using a7
  · intro h; rw [if_neg (by omega), if_pos h] at a7; simpa using a7
  · intro h; rw [if_neg (by omega), if_neg (by omega), if_pos h] at a7; simpa using a7
  · intro h1 h2 h3; rw [if_neg h1, if_neg h2, if_neg h3] at a7; simpa using a7
  · intro h; rw [if_pos h] at a8; simpa using a8
  · intro h; rw [if_neg h] at a8; simpa using a8
theorem count_lit (l : List Nat) (hl : l.length ≤ 100) (g c : Nat) (a : Int) (n : Nat) (hn : a = (n : Int)) (w : World) (hc : Cel w g l) :
    Calls Try.prog 6 #[.slice (some ⟨g, 0, none⟩) l.length c, .int .i64 a] w fun e w' => e = .returned (.int .i64 (cnt l n : Nat)) ∧ w' = w := by
  subst hn; exact count_any l hl g c n w hc
theorem Cel.belowB {w w' : World} {g B : Nat} {l : List Nat} (h : Cel w g l) (hB : g < B) (hb : Below B w w') : Cel w' g l := fun j hj => (hb.cell (p := ⟨g, j, none⟩) hB).trans (h j hj)
theorem retT {b : Bool} (h : b = true) : Ending.returned (.bool b) = .returned (.bool true) := by rw [h]
/-- What is left of a code behind n statements; its first statement. -/
def restOf : Nat → Code → Code
  | n + 1, .seq _ b => restOf n b
  | _, c => c
def headOf : Code → Code
  | .seq a _ => a
  | c => c
end Go.Proofs.Ytjlakfbggkbmnaa
