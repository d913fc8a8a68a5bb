/-
  New, over the entries.
-/
import Derived.Test.YtpnalcbpdejpjaaXcGetM
set_option linter.unusedSimpArgs false
set_option linter.unusedVariables false
namespace Go.Proofs.Ytpnalcbpdejpjaa
open Go.RowKit Classical
theorem Mk.empty {w : World} {m : Nat} (h : w.heap[m]? = some (.map #[] 0)) : Mk w m 0 (fun _ => 0) := by
  have h0 : Mk ((⟨(Array.replicate m (Obj.map #[] 0)), w.tape, w.drawn, w.os, w.output⟩ : World).alloc (.map #[] 0)) m 0 (fun _ => 0) := by
    have := Mk.made (⟨(Array.replicate m (Obj.map #[] 0)), w.tape, w.drawn, w.os, w.output⟩ : World)
    rwa [show (⟨(Array.replicate m (Obj.map #[] 0)), w.tape, w.drawn, w.os, w.output⟩ : World).heap.size = m by simp] at this
  refine h0.keep (h.trans ?_)
  have h1 := heap_alloc_new (⟨(Array.replicate m (Obj.map #[] 0)), w.tape, w.drawn, w.os, w.output⟩ : World) (.map #[] 0)
  rw [show (⟨(Array.replicate m (Obj.map #[] 0)), w.tape, w.drawn, w.os, w.output⟩ : World).heap.size = m by simp] at h1
  exact h1.symm
theorem ints_zero (n : Nat) : ints (List.replicate n 0) = List.replicate n (.int .i64 0) := by
  simp [ints]
set_option maxRecDepth 100000 in
set_option maxHeartbeats 4000000 in
theorem newM (N : Nat) (h1 : 1 ≤ N) (h2 : N ≤ 65536) (tag : Int) (w : World) : Calls Try.prog 11 #[.int .i64 (N : Nat)] w fun e w' => ∃ q ga kA m, e = .returned (.tuple #[.pointer (some ⟨q, 0, none⟩), .int .i64 0]) ∧ Cm w.heap.size q ga kA m N tag 0 none 0 0 [] w' ∧ Below w.heap.size w w' := by
  refine (new_any N h1 h2 w).mono ?_
  intro e w' hnew
  obtain ⟨q, v, m, rfl, zq, ra, hm, hrest⟩ := hnew
  obtain ⟨g, kA, rfl⟩ := orow_some ra (by omega)
  refine ⟨q, g, kA, m, rfl, ⟨0, List.replicate N 0, fun _ => 0, ⟨zq, by rw [ints_zero]; exact ra, World.ownsRow_nil _ _ 113 12, Mk.empty hm, Cv.none N, hrest.2.1, hrest.1⟩, by omega, fun p => by show -((0 : Nat) : Int) ≤ 0 ∧ (0 : Int) ≤ ((0 : Nat) : Int); omega, fun e h => by simp at h⟩, hrest.2.2⟩
end Go.Proofs.Ytpnalcbpdejpjaa
