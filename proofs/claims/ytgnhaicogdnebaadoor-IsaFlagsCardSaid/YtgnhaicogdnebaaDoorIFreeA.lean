/-
  What each operation answers is free of the flags that it does not need.
-/
import Derived.Test.YtgnhaicogdnebaaDoorIFree0
import Derived.Test.YtgnhaicogdnebaaDoorIArr
import Derived.Test.YtgnhaicogdnebaaDoorADoH
set_option linter.unusedSimpArgs false
set_option linter.unusedVariables false
namespace Go.Proofs.YtgnhaicogdnebaaDoor
open Go.RowKit
theorem free_0 (a x y s m : Int) : Free 0 (fun F => (adcF a m F)) (fun F => (adcV a m F)) (fun _ => (x)) (fun _ => (y)) (fun _ => (s)) (fun _ => (m)) := by
  intro k hk hN F
  obtain rfl | rfl | rfl | rfl | rfl | rfl | rfl | rfl : k = 0 ∨ k = 1 ∨ k = 2 ∨ k = 3 ∨ k = 4 ∨ k = 5 ∨ k = 6 ∨ k = 7 := by omega
  · exact absurd hN (by decide +kernel)
  · rw [show gt (st 0) (fb 1) = true by decide +kernel]
    obtain ⟨n, v, u, b, d, i, z, c⟩ := F
    cases d
    · simp [adcV, adcF, adcB, nzF, Fl.put, flip]
    · simp [adcV, adcF, adcD, Fl.put, flip]
  · rw [show gt (st 0) (fb 2) = false by decide +kernel]
    obtain ⟨n, v, u, b, d, i, z, c⟩ := F
    cases d
    · simp [adcV, adcF, adcB, nzF, Fl.put, flip]
    · simp [adcV, adcF, adcD, Fl.put, flip]
  · exact absurd hN (by decide +kernel)
  · rw [show gt (st 0) (fb 4) = false by decide +kernel]
    obtain ⟨n, v, u, b, d, i, z, c⟩ := F
    cases d
    · simp [adcV, adcF, adcB, nzF, Fl.put, flip]
    · simp [adcV, adcF, adcD, Fl.put, flip]
  · rw [show gt (st 0) (fb 5) = false by decide +kernel]
    obtain ⟨n, v, u, b, d, i, z, c⟩ := F
    cases d
    · simp [adcV, adcF, adcB, nzF, Fl.put, flip]
    · simp [adcV, adcF, adcD, Fl.put, flip]
  · rw [show gt (st 0) (fb 6) = true by decide +kernel]
    obtain ⟨n, v, u, b, d, i, z, c⟩ := F
    cases d
    · simp [adcV, adcF, adcB, nzF, Fl.put, flip]
    · simp [adcV, adcF, adcD, Fl.put, flip]
  · rw [show gt (st 0) (fb 7) = true by decide +kernel]
    obtain ⟨n, v, u, b, d, i, z, c⟩ := F
    cases d
    · simp [adcV, adcF, adcB, nzF, Fl.put, flip]
    · simp [adcV, adcF, adcD, Fl.put, flip]
theorem free_64 (a x y s m : Int) : Free 64 (fun F => (adcF a (shV 40 m F.c) (shF 40 m F))) (fun F => (adcV a (shV 40 m F.c) (shF 40 m F))) (fun _ => (x)) (fun _ => (y)) (fun _ => (s)) (fun F => (shV 40 m F.c)) := by
  intro k hk hN F
  obtain rfl | rfl | rfl | rfl | rfl | rfl | rfl | rfl : k = 0 ∨ k = 1 ∨ k = 2 ∨ k = 3 ∨ k = 4 ∨ k = 5 ∨ k = 6 ∨ k = 7 := by omega
  · exact absurd hN (by decide +kernel)
  · have e : shF 40 m (flip 1 F) = shF 40 m F := rfl
    refine ⟨?_, rfl, rfl, rfl, rfl, ?_⟩
    · show adcV a (shV 40 m F.c) (shF 40 m (flip 1 F)) = _
      rw [e]
    · show adcF a (shV 40 m F.c) (shF 40 m (flip 1 F)) = _
      rw [e, show gt (st 64) (fb 1) = true by decide +kernel]
      rfl
  · have e : shF 40 m (flip 2 F) = flip 2 (shF 40 m F) := rfl
    obtain ⟨q0, -, -, -, -, qP⟩ := free_0 a x y s (shV 40 m F.c) 2 hk (by decide +kernel) (shF 40 m F)
    refine ⟨?_, rfl, rfl, rfl, rfl, ?_⟩
    · show adcV a (shV 40 m F.c) (shF 40 m (flip 2 F)) = _
      rw [e]
      exact q0
    · show adcF a (shV 40 m F.c) (shF 40 m (flip 2 F)) = _
      rw [e]
      exact qP
  · exact absurd hN (by decide +kernel)
  · have e : shF 40 m (flip 4 F) = flip 4 (shF 40 m F) := rfl
    obtain ⟨q0, -, -, -, -, qP⟩ := free_0 a x y s (shV 40 m F.c) 4 hk (by decide +kernel) (shF 40 m F)
    refine ⟨?_, rfl, rfl, rfl, rfl, ?_⟩
    · show adcV a (shV 40 m F.c) (shF 40 m (flip 4 F)) = _
      rw [e]
      exact q0
    · show adcF a (shV 40 m F.c) (shF 40 m (flip 4 F)) = _
      rw [e]
      exact qP
  · have e : shF 40 m (flip 5 F) = flip 5 (shF 40 m F) := rfl
    obtain ⟨q0, -, -, -, -, qP⟩ := free_0 a x y s (shV 40 m F.c) 5 hk (by decide +kernel) (shF 40 m F)
    refine ⟨?_, rfl, rfl, rfl, rfl, ?_⟩
    · show adcV a (shV 40 m F.c) (shF 40 m (flip 5 F)) = _
      rw [e]
      exact q0
    · show adcF a (shV 40 m F.c) (shF 40 m (flip 5 F)) = _
      rw [e]
      exact qP
  · have e : shF 40 m (flip 6 F) = flip 6 (shF 40 m F) := rfl
    obtain ⟨q0, -, -, -, -, qP⟩ := free_0 a x y s (shV 40 m F.c) 6 hk (by decide +kernel) (shF 40 m F)
    refine ⟨?_, rfl, rfl, rfl, rfl, ?_⟩
    · show adcV a (shV 40 m F.c) (shF 40 m (flip 6 F)) = _
      rw [e]
      exact q0
    · show adcF a (shV 40 m F.c) (shF 40 m (flip 6 F)) = _
      rw [e]
      exact qP
  · have e : shF 40 m (flip 7 F) = shF 40 m F := rfl
    refine ⟨?_, rfl, rfl, rfl, rfl, ?_⟩
    · show adcV a (shV 40 m F.c) (shF 40 m (flip 7 F)) = _
      rw [e]
    · show adcF a (shV 40 m F.c) (shF 40 m (flip 7 F)) = _
      rw [e, show gt (st 64) (fb 7) = true by decide +kernel]
      rfl
theorem free_29 (_a x y s m : Int) : Free 29 (fun F => (nzF (m) F)) (fun _ => (m)) (fun _ => (x)) (fun _ => (y)) (fun _ => (s)) (fun _ => (m)) := by
  intro k hk _ F
  obtain rfl | rfl | rfl | rfl | rfl | rfl | rfl | rfl : k = 0 ∨ k = 1 ∨ k = 2 ∨ k = 3 ∨ k = 4 ∨ k = 5 ∨ k = 6 ∨ k = 7 := by omega
  · exact ⟨rfl, rfl, rfl, rfl, rfl, by rw [show gt (st 29) (fb 0) = false by decide +kernel]; rfl⟩
  · exact ⟨rfl, rfl, rfl, rfl, rfl, by rw [show gt (st 29) (fb 1) = true by decide +kernel]; rfl⟩
  · exact ⟨rfl, rfl, rfl, rfl, rfl, by rw [show gt (st 29) (fb 2) = false by decide +kernel]; rfl⟩
  · exact ⟨rfl, rfl, rfl, rfl, rfl, by rw [show gt (st 29) (fb 3) = false by decide +kernel]; rfl⟩
  · exact ⟨rfl, rfl, rfl, rfl, rfl, by rw [show gt (st 29) (fb 4) = false by decide +kernel]; rfl⟩
  · exact ⟨rfl, rfl, rfl, rfl, rfl, by rw [show gt (st 29) (fb 5) = false by decide +kernel]; rfl⟩
  · exact ⟨rfl, rfl, rfl, rfl, rfl, by rw [show gt (st 29) (fb 6) = false by decide +kernel]; rfl⟩
  · exact ⟨rfl, rfl, rfl, rfl, rfl, by rw [show gt (st 29) (fb 7) = true by decide +kernel]; rfl⟩
theorem free_31 (a x _y s m : Int) : Free 31 (fun F => (nzF (m) F)) (fun _ => (a)) (fun _ => (x)) (fun _ => (m)) (fun _ => (s)) (fun _ => (m)) := by
  intro k hk _ F
  obtain rfl | rfl | rfl | rfl | rfl | rfl | rfl | rfl : k = 0 ∨ k = 1 ∨ k = 2 ∨ k = 3 ∨ k = 4 ∨ k = 5 ∨ k = 6 ∨ k = 7 := by omega
  · exact ⟨rfl, rfl, rfl, rfl, rfl, by rw [show gt (st 31) (fb 0) = false by decide +kernel]; rfl⟩
  · exact ⟨rfl, rfl, rfl, rfl, rfl, by rw [show gt (st 31) (fb 1) = true by decide +kernel]; rfl⟩
  · exact ⟨rfl, rfl, rfl, rfl, rfl, by rw [show gt (st 31) (fb 2) = false by decide +kernel]; rfl⟩
  · exact ⟨rfl, rfl, rfl, rfl, rfl, by rw [show gt (st 31) (fb 3) = false by decide +kernel]; rfl⟩
  · exact ⟨rfl, rfl, rfl, rfl, rfl, by rw [show gt (st 31) (fb 4) = false by decide +kernel]; rfl⟩
  · exact ⟨rfl, rfl, rfl, rfl, rfl, by rw [show gt (st 31) (fb 5) = false by decide +kernel]; rfl⟩
  · exact ⟨rfl, rfl, rfl, rfl, rfl, by rw [show gt (st 31) (fb 6) = false by decide +kernel]; rfl⟩
  · exact ⟨rfl, rfl, rfl, rfl, rfl, by rw [show gt (st 31) (fb 7) = true by decide +kernel]; rfl⟩
theorem free_50 (a _x y s m : Int) : Free 50 (fun F => (nzF (a) F)) (fun _ => (a)) (fun _ => (a)) (fun _ => (y)) (fun _ => (s)) (fun _ => (m)) := by
  intro k hk _ F
  obtain rfl | rfl | rfl | rfl | rfl | rfl | rfl | rfl : k = 0 ∨ k = 1 ∨ k = 2 ∨ k = 3 ∨ k = 4 ∨ k = 5 ∨ k = 6 ∨ k = 7 := by omega
  · exact ⟨rfl, rfl, rfl, rfl, rfl, by rw [show gt (st 50) (fb 0) = false by decide +kernel]; rfl⟩
  · exact ⟨rfl, rfl, rfl, rfl, rfl, by rw [show gt (st 50) (fb 1) = true by decide +kernel]; rfl⟩
  · exact ⟨rfl, rfl, rfl, rfl, rfl, by rw [show gt (st 50) (fb 2) = false by decide +kernel]; rfl⟩
  · exact ⟨rfl, rfl, rfl, rfl, rfl, by rw [show gt (st 50) (fb 3) = false by decide +kernel]; rfl⟩
  · exact ⟨rfl, rfl, rfl, rfl, rfl, by rw [show gt (st 50) (fb 4) = false by decide +kernel]; rfl⟩
  · exact ⟨rfl, rfl, rfl, rfl, rfl, by rw [show gt (st 50) (fb 5) = false by decide +kernel]; rfl⟩
  · exact ⟨rfl, rfl, rfl, rfl, rfl, by rw [show gt (st 50) (fb 6) = false by decide +kernel]; rfl⟩
  · exact ⟨rfl, rfl, rfl, rfl, rfl, by rw [show gt (st 50) (fb 7) = true by decide +kernel]; rfl⟩
theorem free_55 (_a x y s m : Int) : Free 55 (fun F => (nzF (y) F)) (fun _ => (y)) (fun _ => (x)) (fun _ => (y)) (fun _ => (s)) (fun _ => (m)) := by
  intro k hk _ F
  obtain rfl | rfl | rfl | rfl | rfl | rfl | rfl | rfl : k = 0 ∨ k = 1 ∨ k = 2 ∨ k = 3 ∨ k = 4 ∨ k = 5 ∨ k = 6 ∨ k = 7 := by omega
  · exact ⟨rfl, rfl, rfl, rfl, rfl, by rw [show gt (st 55) (fb 0) = false by decide +kernel]; rfl⟩
  · exact ⟨rfl, rfl, rfl, rfl, rfl, by rw [show gt (st 55) (fb 1) = true by decide +kernel]; rfl⟩
  · exact ⟨rfl, rfl, rfl, rfl, rfl, by rw [show gt (st 55) (fb 2) = false by decide +kernel]; rfl⟩
  · exact ⟨rfl, rfl, rfl, rfl, rfl, by rw [show gt (st 55) (fb 3) = false by decide +kernel]; rfl⟩
  · exact ⟨rfl, rfl, rfl, rfl, rfl, by rw [show gt (st 55) (fb 4) = false by decide +kernel]; rfl⟩
  · exact ⟨rfl, rfl, rfl, rfl, rfl, by rw [show gt (st 55) (fb 5) = false by decide +kernel]; rfl⟩
  · exact ⟨rfl, rfl, rfl, rfl, rfl, by rw [show gt (st 55) (fb 6) = false by decide +kernel]; rfl⟩
  · exact ⟨rfl, rfl, rfl, rfl, rfl, by rw [show gt (st 55) (fb 7) = true by decide +kernel]; rfl⟩
theorem free_47 (a x y s _m : Int) : Free 47 (fun F => (F)) (fun _ => (a)) (fun _ => (x)) (fun _ => (y)) (fun _ => (s)) (fun _ => (a)) := by
  intro k hk _ F
  obtain rfl | rfl | rfl | rfl | rfl | rfl | rfl | rfl : k = 0 ∨ k = 1 ∨ k = 2 ∨ k = 3 ∨ k = 4 ∨ k = 5 ∨ k = 6 ∨ k = 7 := by omega
  · exact ⟨rfl, rfl, rfl, rfl, rfl, by rw [show gt (st 47) (fb 0) = false by decide +kernel]; rfl⟩
  · exact ⟨rfl, rfl, rfl, rfl, rfl, by rw [show gt (st 47) (fb 1) = false by decide +kernel]; rfl⟩
  · exact ⟨rfl, rfl, rfl, rfl, rfl, by rw [show gt (st 47) (fb 2) = false by decide +kernel]; rfl⟩
  · exact ⟨rfl, rfl, rfl, rfl, rfl, by rw [show gt (st 47) (fb 3) = false by decide +kernel]; rfl⟩
  · exact ⟨rfl, rfl, rfl, rfl, rfl, by rw [show gt (st 47) (fb 4) = false by decide +kernel]; rfl⟩
  · exact ⟨rfl, rfl, rfl, rfl, rfl, by rw [show gt (st 47) (fb 5) = false by decide +kernel]; rfl⟩
  · exact ⟨rfl, rfl, rfl, rfl, rfl, by rw [show gt (st 47) (fb 6) = false by decide +kernel]; rfl⟩
  · exact ⟨rfl, rfl, rfl, rfl, rfl, by rw [show gt (st 47) (fb 7) = false by decide +kernel]; rfl⟩
theorem free_49 (a x y s _m : Int) : Free 49 (fun F => (F)) (fun _ => (a)) (fun _ => (x)) (fun _ => (y)) (fun _ => (s)) (fun _ => (y)) := by
  intro k hk _ F
  obtain rfl | rfl | rfl | rfl | rfl | rfl | rfl | rfl : k = 0 ∨ k = 1 ∨ k = 2 ∨ k = 3 ∨ k = 4 ∨ k = 5 ∨ k = 6 ∨ k = 7 := by omega
  · exact ⟨rfl, rfl, rfl, rfl, rfl, by rw [show gt (st 49) (fb 0) = false by decide +kernel]; rfl⟩
  · exact ⟨rfl, rfl, rfl, rfl, rfl, by rw [show gt (st 49) (fb 1) = false by decide +kernel]; rfl⟩
  · exact ⟨rfl, rfl, rfl, rfl, rfl, by rw [show gt (st 49) (fb 2) = false by decide +kernel]; rfl⟩
  · exact ⟨rfl, rfl, rfl, rfl, rfl, by rw [show gt (st 49) (fb 3) = false by decide +kernel]; rfl⟩
  · exact ⟨rfl, rfl, rfl, rfl, rfl, by rw [show gt (st 49) (fb 4) = false by decide +kernel]; rfl⟩
  · exact ⟨rfl, rfl, rfl, rfl, rfl, by rw [show gt (st 49) (fb 5) = false by decide +kernel]; rfl⟩
  · exact ⟨rfl, rfl, rfl, rfl, rfl, by rw [show gt (st 49) (fb 6) = false by decide +kernel]; rfl⟩
  · exact ⟨rfl, rfl, rfl, rfl, rfl, by rw [show gt (st 49) (fb 7) = false by decide +kernel]; rfl⟩
theorem free_25 (a x y s m : Int) : Free 25 (fun F => (nzF ((x + 1) % 256) F)) (fun _ => (a)) (fun _ => ((x + 1) % 256)) (fun _ => (y)) (fun _ => (s)) (fun _ => (m)) := by
  intro k hk _ F
  obtain rfl | rfl | rfl | rfl | rfl | rfl | rfl | rfl : k = 0 ∨ k = 1 ∨ k = 2 ∨ k = 3 ∨ k = 4 ∨ k = 5 ∨ k = 6 ∨ k = 7 := by omega
  · exact ⟨rfl, rfl, rfl, rfl, rfl, by rw [show gt (st 25) (fb 0) = false by decide +kernel]; rfl⟩
  · exact ⟨rfl, rfl, rfl, rfl, rfl, by rw [show gt (st 25) (fb 1) = true by decide +kernel]; rfl⟩
  · exact ⟨rfl, rfl, rfl, rfl, rfl, by rw [show gt (st 25) (fb 2) = false by decide +kernel]; rfl⟩
  · exact ⟨rfl, rfl, rfl, rfl, rfl, by rw [show gt (st 25) (fb 3) = false by decide +kernel]; rfl⟩
  · exact ⟨rfl, rfl, rfl, rfl, rfl, by rw [show gt (st 25) (fb 4) = false by decide +kernel]; rfl⟩
  · exact ⟨rfl, rfl, rfl, rfl, rfl, by rw [show gt (st 25) (fb 5) = false by decide +kernel]; rfl⟩
  · exact ⟨rfl, rfl, rfl, rfl, rfl, by rw [show gt (st 25) (fb 6) = false by decide +kernel]; rfl⟩
  · exact ⟨rfl, rfl, rfl, rfl, rfl, by rw [show gt (st 25) (fb 7) = true by decide +kernel]; rfl⟩
theorem free_21 (a x y s m : Int) : Free 21 (fun F => (nzF ((x - 1) % 256) F)) (fun _ => (a)) (fun _ => ((x - 1) % 256)) (fun _ => (y)) (fun _ => (s)) (fun _ => (m)) := by
  intro k hk _ F
  obtain rfl | rfl | rfl | rfl | rfl | rfl | rfl | rfl : k = 0 ∨ k = 1 ∨ k = 2 ∨ k = 3 ∨ k = 4 ∨ k = 5 ∨ k = 6 ∨ k = 7 := by omega
  · exact ⟨rfl, rfl, rfl, rfl, rfl, by rw [show gt (st 21) (fb 0) = false by decide +kernel]; rfl⟩
  · exact ⟨rfl, rfl, rfl, rfl, rfl, by rw [show gt (st 21) (fb 1) = true by decide +kernel]; rfl⟩
  · exact ⟨rfl, rfl, rfl, rfl, rfl, by rw [show gt (st 21) (fb 2) = false by decide +kernel]; rfl⟩
  · exact ⟨rfl, rfl, rfl, rfl, rfl, by rw [show gt (st 21) (fb 3) = false by decide +kernel]; rfl⟩
  · exact ⟨rfl, rfl, rfl, rfl, rfl, by rw [show gt (st 21) (fb 4) = false by decide +kernel]; rfl⟩
  · exact ⟨rfl, rfl, rfl, rfl, rfl, by rw [show gt (st 21) (fb 5) = false by decide +kernel]; rfl⟩
  · exact ⟨rfl, rfl, rfl, rfl, rfl, by rw [show gt (st 21) (fb 6) = false by decide +kernel]; rfl⟩
  · exact ⟨rfl, rfl, rfl, rfl, rfl, by rw [show gt (st 21) (fb 7) = true by decide +kernel]; rfl⟩
theorem free_34 (a x y s m : Int) : Free 34 (fun F => (nzF (bits .or .u8 a m) F)) (fun _ => (bits .or .u8 a m)) (fun _ => (x)) (fun _ => (y)) (fun _ => (s)) (fun _ => (m)) := by
  intro k hk _ F
  obtain rfl | rfl | rfl | rfl | rfl | rfl | rfl | rfl : k = 0 ∨ k = 1 ∨ k = 2 ∨ k = 3 ∨ k = 4 ∨ k = 5 ∨ k = 6 ∨ k = 7 := by omega
  · exact ⟨rfl, rfl, rfl, rfl, rfl, by rw [show gt (st 34) (fb 0) = false by decide +kernel]; rfl⟩
  · exact ⟨rfl, rfl, rfl, rfl, rfl, by rw [show gt (st 34) (fb 1) = true by decide +kernel]; rfl⟩
  · exact ⟨rfl, rfl, rfl, rfl, rfl, by rw [show gt (st 34) (fb 2) = false by decide +kernel]; rfl⟩
  · exact ⟨rfl, rfl, rfl, rfl, rfl, by rw [show gt (st 34) (fb 3) = false by decide +kernel]; rfl⟩
  · exact ⟨rfl, rfl, rfl, rfl, rfl, by rw [show gt (st 34) (fb 4) = false by decide +kernel]; rfl⟩
  · exact ⟨rfl, rfl, rfl, rfl, rfl, by rw [show gt (st 34) (fb 5) = false by decide +kernel]; rfl⟩
  · exact ⟨rfl, rfl, rfl, rfl, rfl, by rw [show gt (st 34) (fb 6) = false by decide +kernel]; rfl⟩
  · exact ⟨rfl, rfl, rfl, rfl, rfl, by rw [show gt (st 34) (fb 7) = true by decide +kernel]; rfl⟩
theorem free_58 (a x y s m : Int) : Free 58 (fun F => (arrF (bits .and .u8 a m) F)) (fun F => (arrV (bits .and .u8 a m) F)) (fun _ => (x)) (fun _ => (y)) (fun _ => (s)) (fun _ => (m)) := by
  intro k hk hN F
  obtain rfl | rfl | rfl | rfl | rfl | rfl | rfl | rfl : k = 0 ∨ k = 1 ∨ k = 2 ∨ k = 3 ∨ k = 4 ∨ k = 5 ∨ k = 6 ∨ k = 7 := by omega
  · exact absurd hN (by decide +kernel)
  · rw [show gt (st 58) (fb 1) = true by decide +kernel]
    obtain ⟨n, v, u, b, d, i, z, c⟩ := F
    cases d
    · exact ⟨rfl, rfl, rfl, rfl, rfl, rfl⟩
    · exact ⟨rfl, rfl, rfl, rfl, rfl, rfl⟩
  · rw [show gt (st 58) (fb 2) = false by decide +kernel]
    obtain ⟨n, v, u, b, d, i, z, c⟩ := F
    cases d
    · exact ⟨rfl, rfl, rfl, rfl, rfl, rfl⟩
    · exact ⟨rfl, rfl, rfl, rfl, rfl, rfl⟩
  · exact absurd hN (by decide +kernel)
  · rw [show gt (st 58) (fb 4) = false by decide +kernel]
    obtain ⟨n, v, u, b, d, i, z, c⟩ := F
    cases d
    · exact ⟨rfl, rfl, rfl, rfl, rfl, rfl⟩
    · exact ⟨rfl, rfl, rfl, rfl, rfl, rfl⟩
  · rw [show gt (st 58) (fb 5) = false by decide +kernel]
    obtain ⟨n, v, u, b, d, i, z, c⟩ := F
    cases d
    · exact ⟨rfl, rfl, rfl, rfl, rfl, rfl⟩
    · exact ⟨rfl, rfl, rfl, rfl, rfl, rfl⟩
  · rw [show gt (st 58) (fb 6) = true by decide +kernel]
    obtain ⟨n, v, u, b, d, i, z, c⟩ := F
    cases d
    · exact ⟨rfl, rfl, rfl, rfl, rfl, rfl⟩
    · exact ⟨rfl, rfl, rfl, rfl, rfl, rfl⟩
  · rw [show gt (st 58) (fb 7) = true by decide +kernel]
    obtain ⟨n, v, u, b, d, i, z, c⟩ := F
    cases d
    · exact ⟨rfl, rfl, rfl, rfl, rfl, rfl⟩
    · exact ⟨rfl, rfl, rfl, rfl, rfl, rfl⟩
theorem free_39 (a x y s m : Int) : Free 39 (fun F => (shF 39 m F)) (fun _ => (a)) (fun _ => (x)) (fun _ => (y)) (fun _ => (s)) (fun F => (shV 39 m F.c)) := by
  intro k hk hN F
  obtain rfl | rfl | rfl | rfl | rfl | rfl | rfl | rfl : k = 0 ∨ k = 1 ∨ k = 2 ∨ k = 3 ∨ k = 4 ∨ k = 5 ∨ k = 6 ∨ k = 7 := by omega
  · exact absurd hN (by decide +kernel)
  · exact ⟨rfl, rfl, rfl, rfl, rfl, by rw [show gt (st 39) (fb 1) = true by decide +kernel]; rfl⟩
  · exact ⟨rfl, rfl, rfl, rfl, rfl, by rw [show gt (st 39) (fb 2) = false by decide +kernel]; rfl⟩
  · exact ⟨rfl, rfl, rfl, rfl, rfl, by rw [show gt (st 39) (fb 3) = false by decide +kernel]; rfl⟩
  · exact ⟨rfl, rfl, rfl, rfl, rfl, by rw [show gt (st 39) (fb 4) = false by decide +kernel]; rfl⟩
  · exact ⟨rfl, rfl, rfl, rfl, rfl, by rw [show gt (st 39) (fb 5) = false by decide +kernel]; rfl⟩
  · exact ⟨rfl, rfl, rfl, rfl, rfl, by rw [show gt (st 39) (fb 6) = false by decide +kernel]; rfl⟩
  · exact ⟨rfl, rfl, rfl, rfl, rfl, by rw [show gt (st 39) (fb 7) = true by decide +kernel]; rfl⟩
theorem free_63 (a x y s m : Int) : Free 63 (fun F => (nzF (bits .and .u8 a (shV 39 m F.c)) (shF 39 m F))) (fun F => (bits .and .u8 a (shV 39 m F.c))) (fun _ => (x)) (fun _ => (y)) (fun _ => (s)) (fun F => (shV 39 m F.c)) := by
  intro k hk hN F
  obtain rfl | rfl | rfl | rfl | rfl | rfl | rfl | rfl : k = 0 ∨ k = 1 ∨ k = 2 ∨ k = 3 ∨ k = 4 ∨ k = 5 ∨ k = 6 ∨ k = 7 := by omega
  · exact absurd hN (by decide +kernel)
  · exact ⟨rfl, rfl, rfl, rfl, rfl, by rw [show gt (st 63) (fb 1) = true by decide +kernel]; rfl⟩
  · exact ⟨rfl, rfl, rfl, rfl, rfl, by rw [show gt (st 63) (fb 2) = false by decide +kernel]; rfl⟩
  · exact ⟨rfl, rfl, rfl, rfl, rfl, by rw [show gt (st 63) (fb 3) = false by decide +kernel]; rfl⟩
  · exact ⟨rfl, rfl, rfl, rfl, rfl, by rw [show gt (st 63) (fb 4) = false by decide +kernel]; rfl⟩
  · exact ⟨rfl, rfl, rfl, rfl, rfl, by rw [show gt (st 63) (fb 5) = false by decide +kernel]; rfl⟩
  · exact ⟨rfl, rfl, rfl, rfl, rfl, by rw [show gt (st 63) (fb 6) = false by decide +kernel]; rfl⟩
  · exact ⟨rfl, rfl, rfl, rfl, rfl, by rw [show gt (st 63) (fb 7) = true by decide +kernel]; rfl⟩
theorem free_60 (a x y s m : Int) : Free 60 (fun F => (sbcF a ((m + 1) % 256) F)) (fun F => (sbcV a ((m + 1) % 256) F)) (fun _ => (x)) (fun _ => (y)) (fun _ => (s)) (fun _ => ((m + 1) % 256)) := by
  intro k hk hN F
  obtain rfl | rfl | rfl | rfl | rfl | rfl | rfl | rfl : k = 0 ∨ k = 1 ∨ k = 2 ∨ k = 3 ∨ k = 4 ∨ k = 5 ∨ k = 6 ∨ k = 7 := by omega
  · exact absurd hN (by decide +kernel)
  · rw [show gt (st 60) (fb 1) = true by decide +kernel]
    obtain ⟨n, v, u, b, d, i, z, c⟩ := F
    cases d
    · exact ⟨rfl, rfl, rfl, rfl, rfl, rfl⟩
    · exact ⟨rfl, rfl, rfl, rfl, rfl, rfl⟩
  · rw [show gt (st 60) (fb 2) = false by decide +kernel]
    obtain ⟨n, v, u, b, d, i, z, c⟩ := F
    cases d
    · exact ⟨rfl, rfl, rfl, rfl, rfl, rfl⟩
    · exact ⟨rfl, rfl, rfl, rfl, rfl, rfl⟩
  · exact absurd hN (by decide +kernel)
  · rw [show gt (st 60) (fb 4) = false by decide +kernel]
    obtain ⟨n, v, u, b, d, i, z, c⟩ := F
    cases d
    · exact ⟨rfl, rfl, rfl, rfl, rfl, rfl⟩
    · exact ⟨rfl, rfl, rfl, rfl, rfl, rfl⟩
  · rw [show gt (st 60) (fb 5) = false by decide +kernel]
    obtain ⟨n, v, u, b, d, i, z, c⟩ := F
    cases d
    · exact ⟨rfl, rfl, rfl, rfl, rfl, rfl⟩
    · exact ⟨rfl, rfl, rfl, rfl, rfl, rfl⟩
  · rw [show gt (st 60) (fb 6) = true by decide +kernel]
    obtain ⟨n, v, u, b, d, i, z, c⟩ := F
    cases d
    · exact ⟨rfl, rfl, rfl, rfl, rfl, rfl⟩
    · exact ⟨rfl, rfl, rfl, rfl, rfl, rfl⟩
  · rw [show gt (st 60) (fb 7) = true by decide +kernel]
    obtain ⟨n, v, u, b, d, i, z, c⟩ := F
    cases d
    · exact ⟨rfl, rfl, rfl, rfl, rfl, rfl⟩
    · exact ⟨rfl, rfl, rfl, rfl, rfl, rfl⟩
theorem free_19 (a x y s m : Int) : Free 19 (fun F => (nzF ((y - m) % 256) (F.put 1 (decide (m ≤ y))))) (fun _ => (a)) (fun _ => (x)) (fun _ => (y)) (fun _ => (s)) (fun _ => (m)) := by
  intro k hk _ F
  obtain rfl | rfl | rfl | rfl | rfl | rfl | rfl | rfl : k = 0 ∨ k = 1 ∨ k = 2 ∨ k = 3 ∨ k = 4 ∨ k = 5 ∨ k = 6 ∨ k = 7 := by omega
  · exact ⟨rfl, rfl, rfl, rfl, rfl, by rw [show gt (st 19) (fb 0) = true by decide +kernel]; rfl⟩
  · exact ⟨rfl, rfl, rfl, rfl, rfl, by rw [show gt (st 19) (fb 1) = true by decide +kernel]; rfl⟩
  · exact ⟨rfl, rfl, rfl, rfl, rfl, by rw [show gt (st 19) (fb 2) = false by decide +kernel]; rfl⟩
  · exact ⟨rfl, rfl, rfl, rfl, rfl, by rw [show gt (st 19) (fb 3) = false by decide +kernel]; rfl⟩
  · exact ⟨rfl, rfl, rfl, rfl, rfl, by rw [show gt (st 19) (fb 4) = false by decide +kernel]; rfl⟩
  · exact ⟨rfl, rfl, rfl, rfl, rfl, by rw [show gt (st 19) (fb 5) = false by decide +kernel]; rfl⟩
  · exact ⟨rfl, rfl, rfl, rfl, rfl, by rw [show gt (st 19) (fb 6) = false by decide +kernel]; rfl⟩
  · exact ⟨rfl, rfl, rfl, rfl, rfl, by rw [show gt (st 19) (fb 7) = true by decide +kernel]; rfl⟩
theorem free_56 (a x y s m : Int) : Free 56 (fun F => (shF 32 (bits .and .u8 a m) F)) (fun F => (shV 32 (bits .and .u8 a m) F.c)) (fun _ => (x)) (fun _ => (y)) (fun _ => (s)) (fun _ => (m)) := by
  intro k hk _ F
  obtain rfl | rfl | rfl | rfl | rfl | rfl | rfl | rfl : k = 0 ∨ k = 1 ∨ k = 2 ∨ k = 3 ∨ k = 4 ∨ k = 5 ∨ k = 6 ∨ k = 7 := by omega
  · exact ⟨rfl, rfl, rfl, rfl, rfl, by rw [show gt (st 56) (fb 0) = true by decide +kernel]; rfl⟩
  · exact ⟨rfl, rfl, rfl, rfl, rfl, by rw [show gt (st 56) (fb 1) = true by decide +kernel]; rfl⟩
  · exact ⟨rfl, rfl, rfl, rfl, rfl, by rw [show gt (st 56) (fb 2) = false by decide +kernel]; rfl⟩
  · exact ⟨rfl, rfl, rfl, rfl, rfl, by rw [show gt (st 56) (fb 3) = false by decide +kernel]; rfl⟩
  · exact ⟨rfl, rfl, rfl, rfl, rfl, by rw [show gt (st 56) (fb 4) = false by decide +kernel]; rfl⟩
  · exact ⟨rfl, rfl, rfl, rfl, rfl, by rw [show gt (st 56) (fb 5) = false by decide +kernel]; rfl⟩
  · exact ⟨rfl, rfl, rfl, rfl, rfl, by rw [show gt (st 56) (fb 6) = false by decide +kernel]; rfl⟩
  · exact ⟨rfl, rfl, rfl, rfl, rfl, by rw [show gt (st 56) (fb 7) = true by decide +kernel]; rfl⟩
theorem free_14 (a x y s m : Int) : Free 14 (fun F => (F.put 8 false)) (fun _ => (a)) (fun _ => (x)) (fun _ => (y)) (fun _ => (s)) (fun _ => (m)) := by
  intro k hk _ F
  obtain rfl | rfl | rfl | rfl | rfl | rfl | rfl | rfl : k = 0 ∨ k = 1 ∨ k = 2 ∨ k = 3 ∨ k = 4 ∨ k = 5 ∨ k = 6 ∨ k = 7 := by omega
  · exact ⟨rfl, rfl, rfl, rfl, rfl, by rw [show gt (st 14) (fb 0) = false by decide +kernel]; rfl⟩
  · exact ⟨rfl, rfl, rfl, rfl, rfl, by rw [show gt (st 14) (fb 1) = false by decide +kernel]; rfl⟩
  · exact ⟨rfl, rfl, rfl, rfl, rfl, by rw [show gt (st 14) (fb 2) = false by decide +kernel]; rfl⟩
  · exact ⟨rfl, rfl, rfl, rfl, rfl, by rw [show gt (st 14) (fb 3) = true by decide +kernel]; rfl⟩
  · exact ⟨rfl, rfl, rfl, rfl, rfl, by rw [show gt (st 14) (fb 4) = false by decide +kernel]; rfl⟩
  · exact ⟨rfl, rfl, rfl, rfl, rfl, by rw [show gt (st 14) (fb 5) = false by decide +kernel]; rfl⟩
  · exact ⟨rfl, rfl, rfl, rfl, rfl, by rw [show gt (st 14) (fb 6) = false by decide +kernel]; rfl⟩
  · exact ⟨rfl, rfl, rfl, rfl, rfl, by rw [show gt (st 14) (fb 7) = false by decide +kernel]; rfl⟩
theorem free_44 (a x y s m : Int) : Free 44 (fun F => (F.put 1 true)) (fun _ => (a)) (fun _ => (x)) (fun _ => (y)) (fun _ => (s)) (fun _ => (m)) := by
  intro k hk _ F
  obtain rfl | rfl | rfl | rfl | rfl | rfl | rfl | rfl : k = 0 ∨ k = 1 ∨ k = 2 ∨ k = 3 ∨ k = 4 ∨ k = 5 ∨ k = 6 ∨ k = 7 := by omega
  · exact ⟨rfl, rfl, rfl, rfl, rfl, by rw [show gt (st 44) (fb 0) = true by decide +kernel]; rfl⟩
  · exact ⟨rfl, rfl, rfl, rfl, rfl, by rw [show gt (st 44) (fb 1) = false by decide +kernel]; rfl⟩
  · exact ⟨rfl, rfl, rfl, rfl, rfl, by rw [show gt (st 44) (fb 2) = false by decide +kernel]; rfl⟩
  · exact ⟨rfl, rfl, rfl, rfl, rfl, by rw [show gt (st 44) (fb 3) = false by decide +kernel]; rfl⟩
  · exact ⟨rfl, rfl, rfl, rfl, rfl, by rw [show gt (st 44) (fb 4) = false by decide +kernel]; rfl⟩
  · exact ⟨rfl, rfl, rfl, rfl, rfl, by rw [show gt (st 44) (fb 5) = false by decide +kernel]; rfl⟩
  · exact ⟨rfl, rfl, rfl, rfl, rfl, by rw [show gt (st 44) (fb 6) = false by decide +kernel]; rfl⟩
  · exact ⟨rfl, rfl, rfl, rfl, rfl, by rw [show gt (st 44) (fb 7) = false by decide +kernel]; rfl⟩
theorem free_36 (a x y s _m : Int) : Free 36 (fun F => (F)) (fun _ => (a)) (fun _ => (x)) (fun _ => (y)) (fun _ => (s)) (fun F => ((F.push.val : Nat))) := by
  intro k hk hN F
  obtain rfl | rfl | rfl | rfl | rfl | rfl | rfl | rfl : k = 0 ∨ k = 1 ∨ k = 2 ∨ k = 3 ∨ k = 4 ∨ k = 5 ∨ k = 6 ∨ k = 7 := by omega
  · exact absurd hN (by decide +kernel)
  · exact absurd hN (by decide +kernel)
  · exact absurd hN (by decide +kernel)
  · exact absurd hN (by decide +kernel)
  · exact ⟨rfl, rfl, rfl, rfl, rfl, by rw [show gt (st 36) (fb 4) = false by decide +kernel]; rfl⟩
  · exact ⟨rfl, rfl, rfl, rfl, rfl, by rw [show gt (st 36) (fb 5) = false by decide +kernel]; rfl⟩
  · exact absurd hN (by decide +kernel)
  · exact absurd hN (by decide +kernel)
theorem free_10 (a x y s _m : Int) : Free 10 (fun F => (F.put 4 true)) (fun _ => (a)) (fun _ => (x)) (fun _ => (y)) (fun _ => (s)) (fun F => ((F.push.val : Nat))) := by
  intro k hk hN F
  obtain rfl | rfl | rfl | rfl | rfl | rfl | rfl | rfl : k = 0 ∨ k = 1 ∨ k = 2 ∨ k = 3 ∨ k = 4 ∨ k = 5 ∨ k = 6 ∨ k = 7 := by omega
  · exact absurd hN (by decide +kernel)
  · exact absurd hN (by decide +kernel)
  · exact absurd hN (by decide +kernel)
  · exact absurd hN (by decide +kernel)
  · exact ⟨rfl, rfl, rfl, rfl, rfl, by rw [show gt (st 10) (fb 4) = false by decide +kernel]; rfl⟩
  · exact ⟨rfl, rfl, rfl, rfl, rfl, by rw [show gt (st 10) (fb 5) = false by decide +kernel]; rfl⟩
  · exact absurd hN (by decide +kernel)
  · exact absurd hN (by decide +kernel)
end Go.Proofs.YtgnhaicogdnebaaDoor
