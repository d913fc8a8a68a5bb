/-
  The document's New.
-/
import Derived.Test.YtggphgmpdanliaaZLawB
import Derived.Test.YtggphgmpdanliaaZDone
set_option linter.unusedSimpArgs false
set_option linter.unusedVariables false
namespace Go.Proofs.Ytggphgmpdanliaa
open Go.RowKit Classical
theorem rnew_any (cs : Array Value) (mp sub ram nv : Int) (vert four : Bool) (x1 x2 : Option Addr) (p c k1 k2 : Nat) (C : IsN cs mp sub ram nv vert four x1 x2 p c k1 k2) (w : World) (hp : p ≤ 2000000) (hc : c ≤ 2000000) :
    Calls Try.prog 36 #[.agg cs] w fun e w' => e = .returned (.tuple #[.agg (newD mp sub ram nv vert four p c).cells, .int .i64 (newE mp sub p c)]) ∧ Below w.heap.size w w' := by
  unfold newD newE carB
  cases hl : lst mp sub
  · rw [if_neg (by simp), if_neg (by decide), zeroB_cells]
    exact rnew_bad1 cs mp sub ram nv vert four x1 x2 p c k1 k2 C w hl
  cases hX : (((p : Int) % 16384 != 0) || (((p : Int) == 0) || decide (1048576 < (p : Int))))
  · have hP : okP p = true := by unfold okP; rw [hX]; rfl
    cases hY : (((c : Int) % 8192 != 0) || decide (524288 < (c : Int)))
    · have hC : okC c = true := by unfold okC; rw [hY]; rfl
      rw [hP, hC, if_pos (by simp), if_pos rfl, if_pos (by simp)]
      have hcc : (0 : Int) ≤ (c : Int) / 8192 := by omega
      have hR := rnew_ok cs mp sub ram nv vert four x1 x2 p c k1 k2 C w hl hp hc hX hY
      rw [pre_eq mp sub ram nv vert four _ _ hcc] at hR
      rcases lst_kinds' hl with rfl | rfl | rfl | rfl | rfl | rfl
      · exact hR
      · exact hR
      · exact hR
      · exact hR
      · exact hR
      · exact hR
    · have hC : okC c = false := by unfold okC; rw [hY]; rfl
      rw [hP, hC, if_neg (by simp), if_pos rfl, if_neg (by simp), zeroB_cells]
      exact rnew_bad3 cs mp sub ram nv vert four x1 x2 p c k1 k2 C w hl hp hc hX hY
  · have hP : okP p = false := by unfold okP; rw [hX]; rfl
    rw [hP, if_neg (by simp), if_pos rfl, if_neg (by simp), zeroB_cells]
    exact rnew_bad2 cs mp sub ram nv vert four x1 x2 p c k1 k2 C w hl hp hX
theorem wrA_valid {b : Bd} (B : b.Wf) (a v u c : Int) (v0 : 0 ≤ v) (v1 : v ≤ 255) (u0 : 0 ≤ u) (u1 : u ≤ 255) (c1 : c ≤ 9223372036854775807) : validB (wrA b a v u c) = validB b := by
  unfold wrA
  split
  · rename_i h
    rw [(wrB_ok (Bd.ok B h.1) a v u c v0 v1 u0 u1 h.2.2 c1).val, h.1]
  · rfl
theorem clockA_wf {b : Bd} (B : b.Wf) (n : Int) : (clockA b n).Wf := by
  by_cases h : validB b = true
  · exact (clockA_ok (Bd.ok B h) n).wf
  · unfold clockA
    rw [if_neg (fun g => h g.1)]
    exact B
theorem clockA_valid {b : Bd} (B : b.Wf) (n : Int) : validB (clockA b n) = validB b := by
  by_cases h : validB b = true
  · rw [(clockA_ok (Bd.ok B h) n).val, h]
  · unfold clockA
    rw [if_neg (fun g => h g.1)]
theorem rclock_all (w : World) (b : Bd) (n : Int) (B : b.Wf) (hn : n ≤ 9223372036854775807) :
    Calls Try.prog 37 #[.agg b.cells, .int .i64 n] w fun e w' => e = .returned (.agg (clockA b n).cells) ∧ Below w.heap.size w w' := by
  unfold clockA
  split
  · rename_i h
    exact rClock_4 w b n B ⟨h.2.1, hn⟩ h.2.2 h.1
  · rename_i h
    refine rClock_same w b n B ?_
    cases hv : validB b
    · exact .inl rfl
    · by_cases h4 : b.kind = 4
      · exact .inr (.inr (by have : ¬ 0 < n := fun g => h ⟨hv, g, h4⟩
                             omega))
      · exact .inr (.inl h4)
theorem validB_zero : validB zeroB = false := by decide +kernel
theorem zeroB_wf : zeroB.Wf := by
  constructor <;> first | decide | (intro x hx; revert hx; revert x; decide)
/-- The board of a shape fits its kinds; it is valid just if there was no error. -/
theorem newD_wf (mp sub ram nv : Int) (vert four : Bool) (p c : Nat) : (newD mp sub ram nv vert four p c).Wf ∧ validB (newD mp sub ram nv vert four p c) = (newE mp sub p c == 0) := by
  unfold newD
  cases h : carB mp sub p c
  · rw [if_neg (by decide)]
    refine ⟨zeroB_wf, ?_⟩
    rw [validB_zero]
    unfold newE
    simp only [carB] at h
    cases hl : lst mp sub
    · rfl
    · rw [hl, Bool.true_and] at h
      rw [if_pos rfl, h]
      rfl
  · rw [if_pos rfl]
    have o := newK_ok ram nv vert four h
    refine ⟨o.wf, ?_⟩
    rw [o.val]
    unfold newE
    simp only [carB, Bool.and_eq_true] at h
    rw [if_pos h.1, if_pos (by simp [h.2.1, h.2.2])]
    rfl
end Go.Proofs.Ytggphgmpdanliaa
