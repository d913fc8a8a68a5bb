/-
  What the methods of package isa's run do: add, reach, branch, rest, plain; conditions: the run lies in its block and has room.
-/
import Derived.Test.YtfdiplgjiidnbaaDoorRows
import Derived.Test.YtfdiplgjiidnbaaDoorIBlk
import Derived.Deep.RegionLaw
import Derived.Deep.DeepCutAuto
set_option linter.unusedSimpArgs false
set_option linter.unusedVariables false
namespace Go.Proofs.YtfdiplgjiidnbaaDoor
open Go.RowKit Go.IntWalk
theorem add_cell {l m : List Nat} (hlm : l.length + m.length ≤ 8) {b : Nat} {w4 : World} (h : w4.heap[b]? = some (.cells (splice (runC l) l.length (ints m)).toArray 68 (0, 0))) :
    w4.cell? ⟨b, 8, none⟩ = some (.int .i64 (l.length : Nat)) ∧ w4.frozen? ⟨b, 8, none⟩ = false := by
  have hB : Blk w4 b (splice (runC l) l.length (ints m)).toArray 68 := h
  refine ⟨?_, hB.free 8⟩
  rw [hB.cell 8, List.getElem?_toArray, splice]
  have hn := runC_n (l := l) (by omega)
  rw [List.getElem?_toArray] at hn
  have hlen := runC_length (l := l) (by omega)
  rw [List.getElem?_append_right (by simp [hlen]; omega), List.getElem?_append_right (by simp [hlen, ints]; omega), List.getElem?_drop]
  simp only [List.length_take, hlen, ints, List.length_map]
  rw [show l.length + m.length + (8 - min l.length 9 - m.length) = 8 by omega]
  exact hn
set_option maxRecDepth 100000 in
set_option maxHeartbeats 1000000 in
theorem add_any (l m : List Nat) (hlm : l.length + m.length ≤ 8) (hm : 0 < m.length) (b g : Nat) (w0 w : World) (B : Nat) (hB : B ≤ b) (hb : Below B w0 w) (hR : Blk w b (runC l).toArray 68) (hM : Blk w g (ints m).toArray 65) (hgb : g ≠ b) :
    Calls Tryd.prog 53 #[.pointer (some ⟨b, 0, none⟩), .slice (some ⟨g, 0, none⟩) m.length m.length] w fun e w' => e = .returned (.tuple #[]) ∧ Blk w' b (runC (l ++ m)).toArray 68 ∧ Below B w0 w' := by
  have c8 : w.cell? ⟨b, 8, none⟩ = some (.int .i64 (l.length : Nat)) := (hR.cell 8).trans (runC_n (by omega))
  have f8 := hR.free 8
  have hl8 : (l.length : Int) ≤ 8 := by omega
  have hm8 : (m.length : Int) ≤ 8 := by omega
  have hne : ¬ 8 = l.length := by omega
  have F1 : Hid ((ints m).length = Nat.min m.length (8 - l.length)) := by
    unfold Hid; rw [ints_length]; exact (Nat.min_eq_left (by omega)).symm
  have F2 : Hid (0 < (ints m).length → (some ⟨b, l.length, none⟩ : Option Addr) = some ⟨b, l.length, none⟩ ∧ ∃ ad, (some ⟨g, 0, none⟩ : Option Addr) = some ad ∧ ∀ j v, (ints m)[j]? = some v → w.drew.cell? (ad.add j) = some v) := by
    intro _
    refine ⟨rfl, _, rfl, fun j v h => ?_⟩
    have := hM.cell j
    rw [List.getElem?_toArray, h] at this
    by_cases hj : j = 0
    · subst hj; simpa [Addr.add] using this
    · simpa [Addr.add, hj] using this
  have F3 : Hid (l.length + (ints m).length ≤ (runC l).length) := by unfold Hid; rw [ints_length, runC_length (by omega)]; omega
  have F4 := fun (w4 : World) (h : Hid (w4.heap[b]? = some (.cells (splice (runC l) l.length (ints m)).toArray 68 (0, 0)))) => add_cell hlm h.out
  have HB : Hid (Below B w0 w.drew) := hb.trans ⟨rfl, rfl, rfl, Nat.le_refl _, fun _ _ => rfl⟩
  have HR : Hid (w.drew.heap[b]? = some (.cells (runC l).toArray 68 (0, 0))) := hR
  have HLM : Hid _ := hlm
  have H4 : Hid _ := F4
  have HL : Hid ((ints m).length = m.length) := ints_length m
  clear hlm hM hb hR F4
  go_enter Tryd.func53, Tryd.ntmps53
  go_region_law (refine step_copy_splice rfl (.tmp 15) (.tmp 16) 112 112 rfl 65 (by kernel_rfl) (by kernel_rfl) _ _ _ _ _ _ rfl rfl b l.length (runC l) 68 HR.out (ints m) F1.out F2.out F3.out (ints_one m) B w0 HB.out hB ?_; intro w4 hg4 hb4; obtain ⟨d1, d2⟩ := H4.out w4 hg4; rw [HL.out])
  all_goals
    go_end0
    refine ⟨rfl, ?_, hb4.setCell (p := ⟨b, 8, none⟩) hB _⟩
    have := Blk.set (t := 68) hg4.out 8 (.int .i64 ((l.length : Int) + (m.length : Int)))
    rw [runC_add HLM.out] at this
    rw [i64_in ((l.length : Int) + (m.length : Int)) (by omega)]
    exact this
end Go.Proofs.YtfdiplgjiidnbaaDoor
