/-
  What each operation answers is free of the flags that it does not need.
-/
import Derived.Test.YtgnhaicogdnebaaDoorIFree0
import Derived.Test.YtgnhaicogdnebaaDoorIArr
import Derived.Test.YtgnhaicogdnebaaDoorADoH
set_option linter.unusedSimpArgs false
set_option linter.unusedVariables false
namespace Go.Proofs.YtgnhaicogdnebaaDoor
open Go.RowKit
theorem free_30 (a _x y s m : Int) : Free 30 (fun F => (nzF (m) F)) (fun _ => (a)) (fun _ => (m)) (fun _ => (y)) (fun _ => (s)) (fun _ => (m)) := by
  intro k hk _ F
  obtain rfl | rfl | rfl | rfl | rfl | rfl | rfl | rfl : k = 0 ∨ k = 1 ∨ k = 2 ∨ k = 3 ∨ k = 4 ∨ k = 5 ∨ k = 6 ∨ k = 7 := by omega
  · exact ⟨rfl, rfl, rfl, rfl, rfl, by rw [show gt (st 30) (fb 0) = false by decide +kernel]; rfl⟩
  · exact ⟨rfl, rfl, rfl, rfl, rfl, by rw [show gt (st 30) (fb 1) = true by decide +kernel]; rfl⟩
  · exact ⟨rfl, rfl, rfl, rfl, rfl, by rw [show gt (st 30) (fb 2) = false by decide +kernel]; rfl⟩
  · exact ⟨rfl, rfl, rfl, rfl, rfl, by rw [show gt (st 30) (fb 3) = false by decide +kernel]; rfl⟩
  · exact ⟨rfl, rfl, rfl, rfl, rfl, by rw [show gt (st 30) (fb 4) = false by decide +kernel]; rfl⟩
  · exact ⟨rfl, rfl, rfl, rfl, rfl, by rw [show gt (st 30) (fb 5) = false by decide +kernel]; rfl⟩
  · exact ⟨rfl, rfl, rfl, rfl, rfl, by rw [show gt (st 30) (fb 6) = false by decide +kernel]; rfl⟩
  · exact ⟨rfl, rfl, rfl, rfl, rfl, by rw [show gt (st 30) (fb 7) = true by decide +kernel]; rfl⟩
theorem free_61 (_a _x y s m : Int) : Free 61 (fun F => (nzF (bits .and .u8 s m) F)) (fun _ => (bits .and .u8 s m)) (fun _ => (bits .and .u8 s m)) (fun _ => (y)) (fun _ => (bits .and .u8 s m)) (fun _ => (m)) := by
  intro k hk _ F
  obtain rfl | rfl | rfl | rfl | rfl | rfl | rfl | rfl : k = 0 ∨ k = 1 ∨ k = 2 ∨ k = 3 ∨ k = 4 ∨ k = 5 ∨ k = 6 ∨ k = 7 := by omega
  · exact ⟨rfl, rfl, rfl, rfl, rfl, by rw [show gt (st 61) (fb 0) = false by decide +kernel]; rfl⟩
  · exact ⟨rfl, rfl, rfl, rfl, rfl, by rw [show gt (st 61) (fb 1) = true by decide +kernel]; rfl⟩
  · exact ⟨rfl, rfl, rfl, rfl, rfl, by rw [show gt (st 61) (fb 2) = false by decide +kernel]; rfl⟩
  · exact ⟨rfl, rfl, rfl, rfl, rfl, by rw [show gt (st 61) (fb 3) = false by decide +kernel]; rfl⟩
  · exact ⟨rfl, rfl, rfl, rfl, rfl, by rw [show gt (st 61) (fb 4) = false by decide +kernel]; rfl⟩
  · exact ⟨rfl, rfl, rfl, rfl, rfl, by rw [show gt (st 61) (fb 5) = false by decide +kernel]; rfl⟩
  · exact ⟨rfl, rfl, rfl, rfl, rfl, by rw [show gt (st 61) (fb 6) = false by decide +kernel]; rfl⟩
  · exact ⟨rfl, rfl, rfl, rfl, rfl, by rw [show gt (st 61) (fb 7) = true by decide +kernel]; rfl⟩
theorem free_53 (_a x y s m : Int) : Free 53 (fun F => (nzF (x) F)) (fun _ => (x)) (fun _ => (x)) (fun _ => (y)) (fun _ => (s)) (fun _ => (m)) := by
  intro k hk _ F
  obtain rfl | rfl | rfl | rfl | rfl | rfl | rfl | rfl : k = 0 ∨ k = 1 ∨ k = 2 ∨ k = 3 ∨ k = 4 ∨ k = 5 ∨ k = 6 ∨ k = 7 := by omega
  · exact ⟨rfl, rfl, rfl, rfl, rfl, by rw [show gt (st 53) (fb 0) = false by decide +kernel]; rfl⟩
  · exact ⟨rfl, rfl, rfl, rfl, rfl, by rw [show gt (st 53) (fb 1) = true by decide +kernel]; rfl⟩
  · exact ⟨rfl, rfl, rfl, rfl, rfl, by rw [show gt (st 53) (fb 2) = false by decide +kernel]; rfl⟩
  · exact ⟨rfl, rfl, rfl, rfl, rfl, by rw [show gt (st 53) (fb 3) = false by decide +kernel]; rfl⟩
  · exact ⟨rfl, rfl, rfl, rfl, rfl, by rw [show gt (st 53) (fb 4) = false by decide +kernel]; rfl⟩
  · exact ⟨rfl, rfl, rfl, rfl, rfl, by rw [show gt (st 53) (fb 5) = false by decide +kernel]; rfl⟩
  · exact ⟨rfl, rfl, rfl, rfl, rfl, by rw [show gt (st 53) (fb 6) = false by decide +kernel]; rfl⟩
  · exact ⟨rfl, rfl, rfl, rfl, rfl, by rw [show gt (st 53) (fb 7) = true by decide +kernel]; rfl⟩
theorem free_54 (a x y _s m : Int) : Free 54 (fun F => (F)) (fun _ => (a)) (fun _ => (x)) (fun _ => (y)) (fun _ => (x)) (fun _ => (m)) := by
  intro k hk _ F
  obtain rfl | rfl | rfl | rfl | rfl | rfl | rfl | rfl : k = 0 ∨ k = 1 ∨ k = 2 ∨ k = 3 ∨ k = 4 ∨ k = 5 ∨ k = 6 ∨ k = 7 := by omega
  · exact ⟨rfl, rfl, rfl, rfl, rfl, by rw [show gt (st 54) (fb 0) = false by decide +kernel]; rfl⟩
  · exact ⟨rfl, rfl, rfl, rfl, rfl, by rw [show gt (st 54) (fb 1) = false by decide +kernel]; rfl⟩
  · exact ⟨rfl, rfl, rfl, rfl, rfl, by rw [show gt (st 54) (fb 2) = false by decide +kernel]; rfl⟩
  · exact ⟨rfl, rfl, rfl, rfl, rfl, by rw [show gt (st 54) (fb 3) = false by decide +kernel]; rfl⟩
  · exact ⟨rfl, rfl, rfl, rfl, rfl, by rw [show gt (st 54) (fb 4) = false by decide +kernel]; rfl⟩
  · exact ⟨rfl, rfl, rfl, rfl, rfl, by rw [show gt (st 54) (fb 5) = false by decide +kernel]; rfl⟩
  · exact ⟨rfl, rfl, rfl, rfl, rfl, by rw [show gt (st 54) (fb 6) = false by decide +kernel]; rfl⟩
  · exact ⟨rfl, rfl, rfl, rfl, rfl, by rw [show gt (st 54) (fb 7) = false by decide +kernel]; rfl⟩
theorem free_48 (a x y s _m : Int) : Free 48 (fun F => (F)) (fun _ => (a)) (fun _ => (x)) (fun _ => (y)) (fun _ => (s)) (fun _ => (x)) := by
  intro k hk _ F
  obtain rfl | rfl | rfl | rfl | rfl | rfl | rfl | rfl : k = 0 ∨ k = 1 ∨ k = 2 ∨ k = 3 ∨ k = 4 ∨ k = 5 ∨ k = 6 ∨ k = 7 := by omega
  · exact ⟨rfl, rfl, rfl, rfl, rfl, by rw [show gt (st 48) (fb 0) = false by decide +kernel]; rfl⟩
  · exact ⟨rfl, rfl, rfl, rfl, rfl, by rw [show gt (st 48) (fb 1) = false by decide +kernel]; rfl⟩
  · exact ⟨rfl, rfl, rfl, rfl, rfl, by rw [show gt (st 48) (fb 2) = false by decide +kernel]; rfl⟩
  · exact ⟨rfl, rfl, rfl, rfl, rfl, by rw [show gt (st 48) (fb 3) = false by decide +kernel]; rfl⟩
  · exact ⟨rfl, rfl, rfl, rfl, rfl, by rw [show gt (st 48) (fb 4) = false by decide +kernel]; rfl⟩
  · exact ⟨rfl, rfl, rfl, rfl, rfl, by rw [show gt (st 48) (fb 5) = false by decide +kernel]; rfl⟩
  · exact ⟨rfl, rfl, rfl, rfl, rfl, by rw [show gt (st 48) (fb 6) = false by decide +kernel]; rfl⟩
  · exact ⟨rfl, rfl, rfl, rfl, rfl, by rw [show gt (st 48) (fb 7) = false by decide +kernel]; rfl⟩
theorem free_24 (a x y s m : Int) : Free 24 (fun F => (nzF ((m + 1) % 256) F)) (fun _ => (a)) (fun _ => (x)) (fun _ => (y)) (fun _ => (s)) (fun _ => ((m + 1) % 256)) := by
  intro k hk _ F
  obtain rfl | rfl | rfl | rfl | rfl | rfl | rfl | rfl : k = 0 ∨ k = 1 ∨ k = 2 ∨ k = 3 ∨ k = 4 ∨ k = 5 ∨ k = 6 ∨ k = 7 := by omega
  · exact ⟨rfl, rfl, rfl, rfl, rfl, by rw [show gt (st 24) (fb 0) = false by decide +kernel]; rfl⟩
  · exact ⟨rfl, rfl, rfl, rfl, rfl, by rw [show gt (st 24) (fb 1) = true by decide +kernel]; rfl⟩
  · exact ⟨rfl, rfl, rfl, rfl, rfl, by rw [show gt (st 24) (fb 2) = false by decide +kernel]; rfl⟩
  · exact ⟨rfl, rfl, rfl, rfl, rfl, by rw [show gt (st 24) (fb 3) = false by decide +kernel]; rfl⟩
  · exact ⟨rfl, rfl, rfl, rfl, rfl, by rw [show gt (st 24) (fb 4) = false by decide +kernel]; rfl⟩
  · exact ⟨rfl, rfl, rfl, rfl, rfl, by rw [show gt (st 24) (fb 5) = false by decide +kernel]; rfl⟩
  · exact ⟨rfl, rfl, rfl, rfl, rfl, by rw [show gt (st 24) (fb 6) = false by decide +kernel]; rfl⟩
  · exact ⟨rfl, rfl, rfl, rfl, rfl, by rw [show gt (st 24) (fb 7) = true by decide +kernel]; rfl⟩
theorem free_20 (a x y s m : Int) : Free 20 (fun F => (nzF ((m - 1) % 256) F)) (fun _ => (a)) (fun _ => (x)) (fun _ => (y)) (fun _ => (s)) (fun _ => ((m - 1) % 256)) := by
  intro k hk _ F
  obtain rfl | rfl | rfl | rfl | rfl | rfl | rfl | rfl : k = 0 ∨ k = 1 ∨ k = 2 ∨ k = 3 ∨ k = 4 ∨ k = 5 ∨ k = 6 ∨ k = 7 := by omega
  · exact ⟨rfl, rfl, rfl, rfl, rfl, by rw [show gt (st 20) (fb 0) = false by decide +kernel]; rfl⟩
  · exact ⟨rfl, rfl, rfl, rfl, rfl, by rw [show gt (st 20) (fb 1) = true by decide +kernel]; rfl⟩
  · exact ⟨rfl, rfl, rfl, rfl, rfl, by rw [show gt (st 20) (fb 2) = false by decide +kernel]; rfl⟩
  · exact ⟨rfl, rfl, rfl, rfl, rfl, by rw [show gt (st 20) (fb 3) = false by decide +kernel]; rfl⟩
  · exact ⟨rfl, rfl, rfl, rfl, rfl, by rw [show gt (st 20) (fb 4) = false by decide +kernel]; rfl⟩
  · exact ⟨rfl, rfl, rfl, rfl, rfl, by rw [show gt (st 20) (fb 5) = false by decide +kernel]; rfl⟩
  · exact ⟨rfl, rfl, rfl, rfl, rfl, by rw [show gt (st 20) (fb 6) = false by decide +kernel]; rfl⟩
  · exact ⟨rfl, rfl, rfl, rfl, rfl, by rw [show gt (st 20) (fb 7) = true by decide +kernel]; rfl⟩
theorem free_1 (a x y s m : Int) : Free 1 (fun F => (nzF (bits .and .u8 a m) F)) (fun _ => (bits .and .u8 a m)) (fun _ => (x)) (fun _ => (y)) (fun _ => (s)) (fun _ => (m)) := by
  intro k hk _ F
  obtain rfl | rfl | rfl | rfl | rfl | rfl | rfl | rfl : k = 0 ∨ k = 1 ∨ k = 2 ∨ k = 3 ∨ k = 4 ∨ k = 5 ∨ k = 6 ∨ k = 7 := by omega
  · exact ⟨rfl, rfl, rfl, rfl, rfl, by rw [show gt (st 1) (fb 0) = false by decide +kernel]; rfl⟩
  · exact ⟨rfl, rfl, rfl, rfl, rfl, by rw [show gt (st 1) (fb 1) = true by decide +kernel]; rfl⟩
  · exact ⟨rfl, rfl, rfl, rfl, rfl, by rw [show gt (st 1) (fb 2) = false by decide +kernel]; rfl⟩
  · exact ⟨rfl, rfl, rfl, rfl, rfl, by rw [show gt (st 1) (fb 3) = false by decide +kernel]; rfl⟩
  · exact ⟨rfl, rfl, rfl, rfl, rfl, by rw [show gt (st 1) (fb 4) = false by decide +kernel]; rfl⟩
  · exact ⟨rfl, rfl, rfl, rfl, rfl, by rw [show gt (st 1) (fb 5) = false by decide +kernel]; rfl⟩
  · exact ⟨rfl, rfl, rfl, rfl, rfl, by rw [show gt (st 1) (fb 6) = false by decide +kernel]; rfl⟩
  · exact ⟨rfl, rfl, rfl, rfl, rfl, by rw [show gt (st 1) (fb 7) = true by decide +kernel]; rfl⟩
theorem free_43 (a x y s m : Int) : Free 43 (fun F => (sbcF a m F)) (fun F => (sbcV a m F)) (fun _ => (x)) (fun _ => (y)) (fun _ => (s)) (fun _ => (m)) := by
  intro k hk hN F
  obtain rfl | rfl | rfl | rfl | rfl | rfl | rfl | rfl : k = 0 ∨ k = 1 ∨ k = 2 ∨ k = 3 ∨ k = 4 ∨ k = 5 ∨ k = 6 ∨ k = 7 := by omega
  · exact absurd hN (by decide +kernel)
  · rw [show gt (st 43) (fb 1) = true by decide +kernel]
    obtain ⟨n, v, u, b, d, i, z, c⟩ := F
    cases d
    · exact ⟨rfl, rfl, rfl, rfl, rfl, rfl⟩
    · exact ⟨rfl, rfl, rfl, rfl, rfl, rfl⟩
  · rw [show gt (st 43) (fb 2) = false by decide +kernel]
    obtain ⟨n, v, u, b, d, i, z, c⟩ := F
    cases d
    · exact ⟨rfl, rfl, rfl, rfl, rfl, rfl⟩
    · exact ⟨rfl, rfl, rfl, rfl, rfl, rfl⟩
  · exact absurd hN (by decide +kernel)
  · rw [show gt (st 43) (fb 4) = false by decide +kernel]
    obtain ⟨n, v, u, b, d, i, z, c⟩ := F
    cases d
    · exact ⟨rfl, rfl, rfl, rfl, rfl, rfl⟩
    · exact ⟨rfl, rfl, rfl, rfl, rfl, rfl⟩
  · rw [show gt (st 43) (fb 5) = false by decide +kernel]
    obtain ⟨n, v, u, b, d, i, z, c⟩ := F
    cases d
    · exact ⟨rfl, rfl, rfl, rfl, rfl, rfl⟩
    · exact ⟨rfl, rfl, rfl, rfl, rfl, rfl⟩
  · rw [show gt (st 43) (fb 6) = true by decide +kernel]
    obtain ⟨n, v, u, b, d, i, z, c⟩ := F
    cases d
    · exact ⟨rfl, rfl, rfl, rfl, rfl, rfl⟩
    · exact ⟨rfl, rfl, rfl, rfl, rfl, rfl⟩
  · rw [show gt (st 43) (fb 7) = true by decide +kernel]
    obtain ⟨n, v, u, b, d, i, z, c⟩ := F
    cases d
    · exact ⟨rfl, rfl, rfl, rfl, rfl, rfl⟩
    · exact ⟨rfl, rfl, rfl, rfl, rfl, rfl⟩
theorem free_32 (a x y s m : Int) : Free 32 (fun F => (shF 32 m F)) (fun _ => (a)) (fun _ => (x)) (fun _ => (y)) (fun _ => (s)) (fun F => (shV 32 m F.c)) := by
  intro k hk _ F
  obtain rfl | rfl | rfl | rfl | rfl | rfl | rfl | rfl : k = 0 ∨ k = 1 ∨ k = 2 ∨ k = 3 ∨ k = 4 ∨ k = 5 ∨ k = 6 ∨ k = 7 := by omega
  · exact ⟨rfl, rfl, rfl, rfl, rfl, by rw [show gt (st 32) (fb 0) = true by decide +kernel]; rfl⟩
  · exact ⟨rfl, rfl, rfl, rfl, rfl, by rw [show gt (st 32) (fb 1) = true by decide +kernel]; rfl⟩
  · exact ⟨rfl, rfl, rfl, rfl, rfl, by rw [show gt (st 32) (fb 2) = false by decide +kernel]; rfl⟩
  · exact ⟨rfl, rfl, rfl, rfl, rfl, by rw [show gt (st 32) (fb 3) = false by decide +kernel]; rfl⟩
  · exact ⟨rfl, rfl, rfl, rfl, rfl, by rw [show gt (st 32) (fb 4) = false by decide +kernel]; rfl⟩
  · exact ⟨rfl, rfl, rfl, rfl, rfl, by rw [show gt (st 32) (fb 5) = false by decide +kernel]; rfl⟩
  · exact ⟨rfl, rfl, rfl, rfl, rfl, by rw [show gt (st 32) (fb 6) = false by decide +kernel]; rfl⟩
  · exact ⟨rfl, rfl, rfl, rfl, rfl, by rw [show gt (st 32) (fb 7) = true by decide +kernel]; rfl⟩
theorem free_67 (a x y s m : Int) : Free 67 (fun F => (nzF (bits .or .u8 a (shV 2 m F.c)) (shF 2 m F))) (fun F => (bits .or .u8 a (shV 2 m F.c))) (fun _ => (x)) (fun _ => (y)) (fun _ => (s)) (fun F => (shV 2 m F.c)) := by
  intro k hk _ F
  obtain rfl | rfl | rfl | rfl | rfl | rfl | rfl | rfl : k = 0 ∨ k = 1 ∨ k = 2 ∨ k = 3 ∨ k = 4 ∨ k = 5 ∨ k = 6 ∨ k = 7 := by omega
  · exact ⟨rfl, rfl, rfl, rfl, rfl, by rw [show gt (st 67) (fb 0) = true by decide +kernel]; rfl⟩
  · exact ⟨rfl, rfl, rfl, rfl, rfl, by rw [show gt (st 67) (fb 1) = true by decide +kernel]; rfl⟩
  · exact ⟨rfl, rfl, rfl, rfl, rfl, by rw [show gt (st 67) (fb 2) = false by decide +kernel]; rfl⟩
  · exact ⟨rfl, rfl, rfl, rfl, rfl, by rw [show gt (st 67) (fb 3) = false by decide +kernel]; rfl⟩
  · exact ⟨rfl, rfl, rfl, rfl, rfl, by rw [show gt (st 67) (fb 4) = false by decide +kernel]; rfl⟩
  · exact ⟨rfl, rfl, rfl, rfl, rfl, by rw [show gt (st 67) (fb 5) = false by decide +kernel]; rfl⟩
  · exact ⟨rfl, rfl, rfl, rfl, rfl, by rw [show gt (st 67) (fb 6) = false by decide +kernel]; rfl⟩
  · exact ⟨rfl, rfl, rfl, rfl, rfl, by rw [show gt (st 67) (fb 7) = true by decide +kernel]; rfl⟩
theorem free_59 (a x y s m : Int) : Free 59 (fun F => (nzF ((a - (m - 1) % 256) % 256) (F.put 1 (decide ((m - 1) % 256 ≤ a))))) (fun _ => (a)) (fun _ => (x)) (fun _ => (y)) (fun _ => (s)) (fun _ => ((m - 1) % 256)) := by
  intro k hk _ F
  obtain rfl | rfl | rfl | rfl | rfl | rfl | rfl | rfl : k = 0 ∨ k = 1 ∨ k = 2 ∨ k = 3 ∨ k = 4 ∨ k = 5 ∨ k = 6 ∨ k = 7 := by omega
  · exact ⟨rfl, rfl, rfl, rfl, rfl, by rw [show gt (st 59) (fb 0) = true by decide +kernel]; rfl⟩
  · exact ⟨rfl, rfl, rfl, rfl, rfl, by rw [show gt (st 59) (fb 1) = true by decide +kernel]; rfl⟩
  · exact ⟨rfl, rfl, rfl, rfl, rfl, by rw [show gt (st 59) (fb 2) = false by decide +kernel]; rfl⟩
  · exact ⟨rfl, rfl, rfl, rfl, rfl, by rw [show gt (st 59) (fb 3) = false by decide +kernel]; rfl⟩
  · exact ⟨rfl, rfl, rfl, rfl, rfl, by rw [show gt (st 59) (fb 4) = false by decide +kernel]; rfl⟩
  · exact ⟨rfl, rfl, rfl, rfl, rfl, by rw [show gt (st 59) (fb 5) = false by decide +kernel]; rfl⟩
  · exact ⟨rfl, rfl, rfl, rfl, rfl, by rw [show gt (st 59) (fb 6) = false by decide +kernel]; rfl⟩
  · exact ⟨rfl, rfl, rfl, rfl, rfl, by rw [show gt (st 59) (fb 7) = true by decide +kernel]; rfl⟩
theorem free_18 (a x y s m : Int) : Free 18 (fun F => (nzF ((x - m) % 256) (F.put 1 (decide (m ≤ x))))) (fun _ => (a)) (fun _ => (x)) (fun _ => (y)) (fun _ => (s)) (fun _ => (m)) := by
  intro k hk _ F
  obtain rfl | rfl | rfl | rfl | rfl | rfl | rfl | rfl : k = 0 ∨ k = 1 ∨ k = 2 ∨ k = 3 ∨ k = 4 ∨ k = 5 ∨ k = 6 ∨ k = 7 := by omega
  · exact ⟨rfl, rfl, rfl, rfl, rfl, by rw [show gt (st 18) (fb 0) = true by decide +kernel]; rfl⟩
  · exact ⟨rfl, rfl, rfl, rfl, rfl, by rw [show gt (st 18) (fb 1) = true by decide +kernel]; rfl⟩
  · exact ⟨rfl, rfl, rfl, rfl, rfl, by rw [show gt (st 18) (fb 2) = false by decide +kernel]; rfl⟩
  · exact ⟨rfl, rfl, rfl, rfl, rfl, by rw [show gt (st 18) (fb 3) = false by decide +kernel]; rfl⟩
  · exact ⟨rfl, rfl, rfl, rfl, rfl, by rw [show gt (st 18) (fb 4) = false by decide +kernel]; rfl⟩
  · exact ⟨rfl, rfl, rfl, rfl, rfl, by rw [show gt (st 18) (fb 5) = false by decide +kernel]; rfl⟩
  · exact ⟨rfl, rfl, rfl, rfl, rfl, by rw [show gt (st 18) (fb 6) = false by decide +kernel]; rfl⟩
  · exact ⟨rfl, rfl, rfl, rfl, rfl, by rw [show gt (st 18) (fb 7) = true by decide +kernel]; rfl⟩
theorem free_57 (a x y s m : Int) : Free 57 (fun F => ((nzF (bits .and .u8 a m) F).put 1 (decide (128 ≤ bits .and .u8 a m)))) (fun _ => (bits .and .u8 a m)) (fun _ => (x)) (fun _ => (y)) (fun _ => (s)) (fun _ => (m)) := by
  intro k hk _ F
  obtain rfl | rfl | rfl | rfl | rfl | rfl | rfl | rfl : k = 0 ∨ k = 1 ∨ k = 2 ∨ k = 3 ∨ k = 4 ∨ k = 5 ∨ k = 6 ∨ k = 7 := by omega
  · exact ⟨rfl, rfl, rfl, rfl, rfl, by rw [show gt (st 57) (fb 0) = true by decide +kernel]; rfl⟩
  · exact ⟨rfl, rfl, rfl, rfl, rfl, by rw [show gt (st 57) (fb 1) = true by decide +kernel]; rfl⟩
  · exact ⟨rfl, rfl, rfl, rfl, rfl, by rw [show gt (st 57) (fb 2) = false by decide +kernel]; rfl⟩
  · exact ⟨rfl, rfl, rfl, rfl, rfl, by rw [show gt (st 57) (fb 3) = false by decide +kernel]; rfl⟩
  · exact ⟨rfl, rfl, rfl, rfl, rfl, by rw [show gt (st 57) (fb 4) = false by decide +kernel]; rfl⟩
  · exact ⟨rfl, rfl, rfl, rfl, rfl, by rw [show gt (st 57) (fb 5) = false by decide +kernel]; rfl⟩
  · exact ⟨rfl, rfl, rfl, rfl, rfl, by rw [show gt (st 57) (fb 6) = false by decide +kernel]; rfl⟩
  · exact ⟨rfl, rfl, rfl, rfl, rfl, by rw [show gt (st 57) (fb 7) = true by decide +kernel]; rfl⟩
theorem free_13 (a x y s m : Int) : Free 13 (fun F => (F.put 1 false)) (fun _ => (a)) (fun _ => (x)) (fun _ => (y)) (fun _ => (s)) (fun _ => (m)) := by
  intro k hk _ F
  obtain rfl | rfl | rfl | rfl | rfl | rfl | rfl | rfl : k = 0 ∨ k = 1 ∨ k = 2 ∨ k = 3 ∨ k = 4 ∨ k = 5 ∨ k = 6 ∨ k = 7 := by omega
  · exact ⟨rfl, rfl, rfl, rfl, rfl, by rw [show gt (st 13) (fb 0) = true by decide +kernel]; rfl⟩
  · exact ⟨rfl, rfl, rfl, rfl, rfl, by rw [show gt (st 13) (fb 1) = false by decide +kernel]; rfl⟩
  · exact ⟨rfl, rfl, rfl, rfl, rfl, by rw [show gt (st 13) (fb 2) = false by decide +kernel]; rfl⟩
  · exact ⟨rfl, rfl, rfl, rfl, rfl, by rw [show gt (st 13) (fb 3) = false by decide +kernel]; rfl⟩
  · exact ⟨rfl, rfl, rfl, rfl, rfl, by rw [show gt (st 13) (fb 4) = false by decide +kernel]; rfl⟩
  · exact ⟨rfl, rfl, rfl, rfl, rfl, by rw [show gt (st 13) (fb 5) = false by decide +kernel]; rfl⟩
  · exact ⟨rfl, rfl, rfl, rfl, rfl, by rw [show gt (st 13) (fb 6) = false by decide +kernel]; rfl⟩
  · exact ⟨rfl, rfl, rfl, rfl, rfl, by rw [show gt (st 13) (fb 7) = false by decide +kernel]; rfl⟩
theorem free_16 (a x y s m : Int) : Free 16 (fun F => (F.put 64 false)) (fun _ => (a)) (fun _ => (x)) (fun _ => (y)) (fun _ => (s)) (fun _ => (m)) := by
  intro k hk _ F
  obtain rfl | rfl | rfl | rfl | rfl | rfl | rfl | rfl : k = 0 ∨ k = 1 ∨ k = 2 ∨ k = 3 ∨ k = 4 ∨ k = 5 ∨ k = 6 ∨ k = 7 := by omega
  · exact ⟨rfl, rfl, rfl, rfl, rfl, by rw [show gt (st 16) (fb 0) = false by decide +kernel]; rfl⟩
  · exact ⟨rfl, rfl, rfl, rfl, rfl, by rw [show gt (st 16) (fb 1) = false by decide +kernel]; rfl⟩
  · exact ⟨rfl, rfl, rfl, rfl, rfl, by rw [show gt (st 16) (fb 2) = false by decide +kernel]; rfl⟩
  · exact ⟨rfl, rfl, rfl, rfl, rfl, by rw [show gt (st 16) (fb 3) = false by decide +kernel]; rfl⟩
  · exact ⟨rfl, rfl, rfl, rfl, rfl, by rw [show gt (st 16) (fb 4) = false by decide +kernel]; rfl⟩
  · exact ⟨rfl, rfl, rfl, rfl, rfl, by rw [show gt (st 16) (fb 5) = false by decide +kernel]; rfl⟩
  · exact ⟨rfl, rfl, rfl, rfl, rfl, by rw [show gt (st 16) (fb 6) = true by decide +kernel]; rfl⟩
  · exact ⟨rfl, rfl, rfl, rfl, rfl, by rw [show gt (st 16) (fb 7) = false by decide +kernel]; rfl⟩
theorem free_46 (a x y s m : Int) : Free 46 (fun F => (F.put 4 true)) (fun _ => (a)) (fun _ => (x)) (fun _ => (y)) (fun _ => (s)) (fun _ => (m)) := by
  intro k hk _ F
  obtain rfl | rfl | rfl | rfl | rfl | rfl | rfl | rfl : k = 0 ∨ k = 1 ∨ k = 2 ∨ k = 3 ∨ k = 4 ∨ k = 5 ∨ k = 6 ∨ k = 7 := by omega
  · exact ⟨rfl, rfl, rfl, rfl, rfl, by rw [show gt (st 46) (fb 0) = false by decide +kernel]; rfl⟩
  · exact ⟨rfl, rfl, rfl, rfl, rfl, by rw [show gt (st 46) (fb 1) = false by decide +kernel]; rfl⟩
  · exact ⟨rfl, rfl, rfl, rfl, rfl, by rw [show gt (st 46) (fb 2) = true by decide +kernel]; rfl⟩
  · exact ⟨rfl, rfl, rfl, rfl, rfl, by rw [show gt (st 46) (fb 3) = false by decide +kernel]; rfl⟩
  · exact ⟨rfl, rfl, rfl, rfl, rfl, by rw [show gt (st 46) (fb 4) = false by decide +kernel]; rfl⟩
  · exact ⟨rfl, rfl, rfl, rfl, rfl, by rw [show gt (st 46) (fb 5) = false by decide +kernel]; rfl⟩
  · exact ⟨rfl, rfl, rfl, rfl, rfl, by rw [show gt (st 46) (fb 6) = false by decide +kernel]; rfl⟩
  · exact ⟨rfl, rfl, rfl, rfl, rfl, by rw [show gt (st 46) (fb 7) = false by decide +kernel]; rfl⟩
theorem free_41 (a x y s : Int) (M : Fl) : Free 41 (fun _ => ((M.put 16 false).put 32 true)) (fun _ => (a)) (fun _ => (x)) (fun _ => (y)) (fun _ => (s)) (fun _ => ((M.val : Nat))) := by
  intro k hk _ F
  obtain rfl | rfl | rfl | rfl | rfl | rfl | rfl | rfl : k = 0 ∨ k = 1 ∨ k = 2 ∨ k = 3 ∨ k = 4 ∨ k = 5 ∨ k = 6 ∨ k = 7 := by omega
  · exact ⟨rfl, rfl, rfl, rfl, rfl, by rw [show gt (st 41) (fb 0) = true by decide +kernel]; rfl⟩
  · exact ⟨rfl, rfl, rfl, rfl, rfl, by rw [show gt (st 41) (fb 1) = true by decide +kernel]; rfl⟩
  · exact ⟨rfl, rfl, rfl, rfl, rfl, by rw [show gt (st 41) (fb 2) = true by decide +kernel]; rfl⟩
  · exact ⟨rfl, rfl, rfl, rfl, rfl, by rw [show gt (st 41) (fb 3) = true by decide +kernel]; rfl⟩
  · exact ⟨rfl, rfl, rfl, rfl, rfl, by rw [show gt (st 41) (fb 4) = true by decide +kernel]; rfl⟩
  · exact ⟨rfl, rfl, rfl, rfl, rfl, by rw [show gt (st 41) (fb 5) = true by decide +kernel]; rfl⟩
  · exact ⟨rfl, rfl, rfl, rfl, rfl, by rw [show gt (st 41) (fb 6) = true by decide +kernel]; rfl⟩
  · exact ⟨rfl, rfl, rfl, rfl, rfl, by rw [show gt (st 41) (fb 7) = true by decide +kernel]; rfl⟩
end Go.Proofs.YtgnhaicogdnebaaDoor
