/-
  What each operation answers is free of the flags that it does not need.
-/
import Derived.Test.YtgnhaicogdnebaaDoorIFree0
import Derived.Test.YtgnhaicogdnebaaDoorIArr
import Derived.Test.YtgnhaicogdnebaaDoorADoH
set_option linter.unusedSimpArgs false
set_option linter.unusedVariables false
namespace Go.Proofs.YtgnhaicogdnebaaDoor
open Go.RowKit
theorem free_37 (_a x y s m : Int) : Free 37 (fun F => (nzF (m) F)) (fun _ => (m)) (fun _ => (x)) (fun _ => (y)) (fun _ => (s)) (fun _ => (m)) := by
  intro k hk _ F
  obtain rfl | rfl | rfl | rfl | rfl | rfl | rfl | rfl : k = 0 ∨ k = 1 ∨ k = 2 ∨ k = 3 ∨ k = 4 ∨ k = 5 ∨ k = 6 ∨ k = 7 := by omega
  · exact ⟨rfl, rfl, rfl, rfl, rfl, by rw [show gt (st 37) (fb 0) = false by decide +kernel]; rfl⟩
  · exact ⟨rfl, rfl, rfl, rfl, rfl, by rw [show gt (st 37) (fb 1) = true by decide +kernel]; rfl⟩
  · exact ⟨rfl, rfl, rfl, rfl, rfl, by rw [show gt (st 37) (fb 2) = false by decide +kernel]; rfl⟩
  · exact ⟨rfl, rfl, rfl, rfl, rfl, by rw [show gt (st 37) (fb 3) = false by decide +kernel]; rfl⟩
  · exact ⟨rfl, rfl, rfl, rfl, rfl, by rw [show gt (st 37) (fb 4) = false by decide +kernel]; rfl⟩
  · exact ⟨rfl, rfl, rfl, rfl, rfl, by rw [show gt (st 37) (fb 5) = false by decide +kernel]; rfl⟩
  · exact ⟨rfl, rfl, rfl, rfl, rfl, by rw [show gt (st 37) (fb 6) = false by decide +kernel]; rfl⟩
  · exact ⟨rfl, rfl, rfl, rfl, rfl, by rw [show gt (st 37) (fb 7) = true by decide +kernel]; rfl⟩
theorem free_62 (_a _x y s m : Int) : Free 62 (fun F => (nzF (m) F)) (fun _ => (m)) (fun _ => (m)) (fun _ => (y)) (fun _ => (s)) (fun _ => (m)) := by
  intro k hk _ F
  obtain rfl | rfl | rfl | rfl | rfl | rfl | rfl | rfl : k = 0 ∨ k = 1 ∨ k = 2 ∨ k = 3 ∨ k = 4 ∨ k = 5 ∨ k = 6 ∨ k = 7 := by omega
  · exact ⟨rfl, rfl, rfl, rfl, rfl, by rw [show gt (st 62) (fb 0) = false by decide +kernel]; rfl⟩
  · exact ⟨rfl, rfl, rfl, rfl, rfl, by rw [show gt (st 62) (fb 1) = true by decide +kernel]; rfl⟩
  · exact ⟨rfl, rfl, rfl, rfl, rfl, by rw [show gt (st 62) (fb 2) = false by decide +kernel]; rfl⟩
  · exact ⟨rfl, rfl, rfl, rfl, rfl, by rw [show gt (st 62) (fb 3) = false by decide +kernel]; rfl⟩
  · exact ⟨rfl, rfl, rfl, rfl, rfl, by rw [show gt (st 62) (fb 4) = false by decide +kernel]; rfl⟩
  · exact ⟨rfl, rfl, rfl, rfl, rfl, by rw [show gt (st 62) (fb 5) = false by decide +kernel]; rfl⟩
  · exact ⟨rfl, rfl, rfl, rfl, rfl, by rw [show gt (st 62) (fb 6) = false by decide +kernel]; rfl⟩
  · exact ⟨rfl, rfl, rfl, rfl, rfl, by rw [show gt (st 62) (fb 7) = true by decide +kernel]; rfl⟩
theorem free_51 (a x _y s m : Int) : Free 51 (fun F => (nzF (a) F)) (fun _ => (a)) (fun _ => (x)) (fun _ => (a)) (fun _ => (s)) (fun _ => (m)) := by
  intro k hk _ F
  obtain rfl | rfl | rfl | rfl | rfl | rfl | rfl | rfl : k = 0 ∨ k = 1 ∨ k = 2 ∨ k = 3 ∨ k = 4 ∨ k = 5 ∨ k = 6 ∨ k = 7 := by omega
  · exact ⟨rfl, rfl, rfl, rfl, rfl, by rw [show gt (st 51) (fb 0) = false by decide +kernel]; rfl⟩
  · exact ⟨rfl, rfl, rfl, rfl, rfl, by rw [show gt (st 51) (fb 1) = true by decide +kernel]; rfl⟩
  · exact ⟨rfl, rfl, rfl, rfl, rfl, by rw [show gt (st 51) (fb 2) = false by decide +kernel]; rfl⟩
  · exact ⟨rfl, rfl, rfl, rfl, rfl, by rw [show gt (st 51) (fb 3) = false by decide +kernel]; rfl⟩
  · exact ⟨rfl, rfl, rfl, rfl, rfl, by rw [show gt (st 51) (fb 4) = false by decide +kernel]; rfl⟩
  · exact ⟨rfl, rfl, rfl, rfl, rfl, by rw [show gt (st 51) (fb 5) = false by decide +kernel]; rfl⟩
  · exact ⟨rfl, rfl, rfl, rfl, rfl, by rw [show gt (st 51) (fb 6) = false by decide +kernel]; rfl⟩
  · exact ⟨rfl, rfl, rfl, rfl, rfl, by rw [show gt (st 51) (fb 7) = true by decide +kernel]; rfl⟩
theorem free_52 (a _x y s m : Int) : Free 52 (fun F => (nzF (s) F)) (fun _ => (a)) (fun _ => (s)) (fun _ => (y)) (fun _ => (s)) (fun _ => (m)) := by
  intro k hk _ F
  obtain rfl | rfl | rfl | rfl | rfl | rfl | rfl | rfl : k = 0 ∨ k = 1 ∨ k = 2 ∨ k = 3 ∨ k = 4 ∨ k = 5 ∨ k = 6 ∨ k = 7 := by omega
  · exact ⟨rfl, rfl, rfl, rfl, rfl, by rw [show gt (st 52) (fb 0) = false by decide +kernel]; rfl⟩
  · exact ⟨rfl, rfl, rfl, rfl, rfl, by rw [show gt (st 52) (fb 1) = true by decide +kernel]; rfl⟩
  · exact ⟨rfl, rfl, rfl, rfl, rfl, by rw [show gt (st 52) (fb 2) = false by decide +kernel]; rfl⟩
  · exact ⟨rfl, rfl, rfl, rfl, rfl, by rw [show gt (st 52) (fb 3) = false by decide +kernel]; rfl⟩
  · exact ⟨rfl, rfl, rfl, rfl, rfl, by rw [show gt (st 52) (fb 4) = false by decide +kernel]; rfl⟩
  · exact ⟨rfl, rfl, rfl, rfl, rfl, by rw [show gt (st 52) (fb 5) = false by decide +kernel]; rfl⟩
  · exact ⟨rfl, rfl, rfl, rfl, rfl, by rw [show gt (st 52) (fb 6) = false by decide +kernel]; rfl⟩
  · exact ⟨rfl, rfl, rfl, rfl, rfl, by rw [show gt (st 52) (fb 7) = true by decide +kernel]; rfl⟩
theorem free_35 (a x y s _m : Int) : Free 35 (fun F => (F)) (fun _ => (a)) (fun _ => (x)) (fun _ => (y)) (fun _ => (s)) (fun _ => (a)) := by
  intro k hk _ F
  obtain rfl | rfl | rfl | rfl | rfl | rfl | rfl | rfl : k = 0 ∨ k = 1 ∨ k = 2 ∨ k = 3 ∨ k = 4 ∨ k = 5 ∨ k = 6 ∨ k = 7 := by omega
  · exact ⟨rfl, rfl, rfl, rfl, rfl, by rw [show gt (st 35) (fb 0) = false by decide +kernel]; rfl⟩
  · exact ⟨rfl, rfl, rfl, rfl, rfl, by rw [show gt (st 35) (fb 1) = false by decide +kernel]; rfl⟩
  · exact ⟨rfl, rfl, rfl, rfl, rfl, by rw [show gt (st 35) (fb 2) = false by decide +kernel]; rfl⟩
  · exact ⟨rfl, rfl, rfl, rfl, rfl, by rw [show gt (st 35) (fb 3) = false by decide +kernel]; rfl⟩
  · exact ⟨rfl, rfl, rfl, rfl, rfl, by rw [show gt (st 35) (fb 4) = false by decide +kernel]; rfl⟩
  · exact ⟨rfl, rfl, rfl, rfl, rfl, by rw [show gt (st 35) (fb 5) = false by decide +kernel]; rfl⟩
  · exact ⟨rfl, rfl, rfl, rfl, rfl, by rw [show gt (st 35) (fb 6) = false by decide +kernel]; rfl⟩
  · exact ⟨rfl, rfl, rfl, rfl, rfl, by rw [show gt (st 35) (fb 7) = false by decide +kernel]; rfl⟩
theorem free_65 (a x y s _m : Int) : Free 65 (fun F => (F)) (fun _ => (a)) (fun _ => (x)) (fun _ => (y)) (fun _ => (s)) (fun _ => (bits .and .u8 a x)) := by
  intro k hk _ F
  obtain rfl | rfl | rfl | rfl | rfl | rfl | rfl | rfl : k = 0 ∨ k = 1 ∨ k = 2 ∨ k = 3 ∨ k = 4 ∨ k = 5 ∨ k = 6 ∨ k = 7 := by omega
  · exact ⟨rfl, rfl, rfl, rfl, rfl, by rw [show gt (st 65) (fb 0) = false by decide +kernel]; rfl⟩
  · exact ⟨rfl, rfl, rfl, rfl, rfl, by rw [show gt (st 65) (fb 1) = false by decide +kernel]; rfl⟩
  · exact ⟨rfl, rfl, rfl, rfl, rfl, by rw [show gt (st 65) (fb 2) = false by decide +kernel]; rfl⟩
  · exact ⟨rfl, rfl, rfl, rfl, rfl, by rw [show gt (st 65) (fb 3) = false by decide +kernel]; rfl⟩
  · exact ⟨rfl, rfl, rfl, rfl, rfl, by rw [show gt (st 65) (fb 4) = false by decide +kernel]; rfl⟩
  · exact ⟨rfl, rfl, rfl, rfl, rfl, by rw [show gt (st 65) (fb 5) = false by decide +kernel]; rfl⟩
  · exact ⟨rfl, rfl, rfl, rfl, rfl, by rw [show gt (st 65) (fb 6) = false by decide +kernel]; rfl⟩
  · exact ⟨rfl, rfl, rfl, rfl, rfl, by rw [show gt (st 65) (fb 7) = false by decide +kernel]; rfl⟩
theorem free_26 (a x y s m : Int) : Free 26 (fun F => (nzF ((y + 1) % 256) F)) (fun _ => (a)) (fun _ => (x)) (fun _ => ((y + 1) % 256)) (fun _ => (s)) (fun _ => (m)) := by
  intro k hk _ F
  obtain rfl | rfl | rfl | rfl | rfl | rfl | rfl | rfl : k = 0 ∨ k = 1 ∨ k = 2 ∨ k = 3 ∨ k = 4 ∨ k = 5 ∨ k = 6 ∨ k = 7 := by omega
  · exact ⟨rfl, rfl, rfl, rfl, rfl, by rw [show gt (st 26) (fb 0) = false by decide +kernel]; rfl⟩
  · exact ⟨rfl, rfl, rfl, rfl, rfl, by rw [show gt (st 26) (fb 1) = true by decide +kernel]; rfl⟩
  · exact ⟨rfl, rfl, rfl, rfl, rfl, by rw [show gt (st 26) (fb 2) = false by decide +kernel]; rfl⟩
  · exact ⟨rfl, rfl, rfl, rfl, rfl, by rw [show gt (st 26) (fb 3) = false by decide +kernel]; rfl⟩
  · exact ⟨rfl, rfl, rfl, rfl, rfl, by rw [show gt (st 26) (fb 4) = false by decide +kernel]; rfl⟩
  · exact ⟨rfl, rfl, rfl, rfl, rfl, by rw [show gt (st 26) (fb 5) = false by decide +kernel]; rfl⟩
  · exact ⟨rfl, rfl, rfl, rfl, rfl, by rw [show gt (st 26) (fb 6) = false by decide +kernel]; rfl⟩
  · exact ⟨rfl, rfl, rfl, rfl, rfl, by rw [show gt (st 26) (fb 7) = true by decide +kernel]; rfl⟩
theorem free_22 (a x y s m : Int) : Free 22 (fun F => (nzF ((y - 1) % 256) F)) (fun _ => (a)) (fun _ => (x)) (fun _ => ((y - 1) % 256)) (fun _ => (s)) (fun _ => (m)) := by
  intro k hk _ F
  obtain rfl | rfl | rfl | rfl | rfl | rfl | rfl | rfl : k = 0 ∨ k = 1 ∨ k = 2 ∨ k = 3 ∨ k = 4 ∨ k = 5 ∨ k = 6 ∨ k = 7 := by omega
  · exact ⟨rfl, rfl, rfl, rfl, rfl, by rw [show gt (st 22) (fb 0) = false by decide +kernel]; rfl⟩
  · exact ⟨rfl, rfl, rfl, rfl, rfl, by rw [show gt (st 22) (fb 1) = true by decide +kernel]; rfl⟩
  · exact ⟨rfl, rfl, rfl, rfl, rfl, by rw [show gt (st 22) (fb 2) = false by decide +kernel]; rfl⟩
  · exact ⟨rfl, rfl, rfl, rfl, rfl, by rw [show gt (st 22) (fb 3) = false by decide +kernel]; rfl⟩
  · exact ⟨rfl, rfl, rfl, rfl, rfl, by rw [show gt (st 22) (fb 4) = false by decide +kernel]; rfl⟩
  · exact ⟨rfl, rfl, rfl, rfl, rfl, by rw [show gt (st 22) (fb 5) = false by decide +kernel]; rfl⟩
  · exact ⟨rfl, rfl, rfl, rfl, rfl, by rw [show gt (st 22) (fb 6) = false by decide +kernel]; rfl⟩
  · exact ⟨rfl, rfl, rfl, rfl, rfl, by rw [show gt (st 22) (fb 7) = true by decide +kernel]; rfl⟩
theorem free_23 (a x y s m : Int) : Free 23 (fun F => (nzF (bits .xor .u8 a m) F)) (fun _ => (bits .xor .u8 a m)) (fun _ => (x)) (fun _ => (y)) (fun _ => (s)) (fun _ => (m)) := by
  intro k hk _ F
  obtain rfl | rfl | rfl | rfl | rfl | rfl | rfl | rfl : k = 0 ∨ k = 1 ∨ k = 2 ∨ k = 3 ∨ k = 4 ∨ k = 5 ∨ k = 6 ∨ k = 7 := by omega
  · exact ⟨rfl, rfl, rfl, rfl, rfl, by rw [show gt (st 23) (fb 0) = false by decide +kernel]; rfl⟩
  · exact ⟨rfl, rfl, rfl, rfl, rfl, by rw [show gt (st 23) (fb 1) = true by decide +kernel]; rfl⟩
  · exact ⟨rfl, rfl, rfl, rfl, rfl, by rw [show gt (st 23) (fb 2) = false by decide +kernel]; rfl⟩
  · exact ⟨rfl, rfl, rfl, rfl, rfl, by rw [show gt (st 23) (fb 3) = false by decide +kernel]; rfl⟩
  · exact ⟨rfl, rfl, rfl, rfl, rfl, by rw [show gt (st 23) (fb 4) = false by decide +kernel]; rfl⟩
  · exact ⟨rfl, rfl, rfl, rfl, rfl, by rw [show gt (st 23) (fb 5) = false by decide +kernel]; rfl⟩
  · exact ⟨rfl, rfl, rfl, rfl, rfl, by rw [show gt (st 23) (fb 6) = false by decide +kernel]; rfl⟩
  · exact ⟨rfl, rfl, rfl, rfl, rfl, by rw [show gt (st 23) (fb 7) = true by decide +kernel]; rfl⟩
theorem free_2 (a x y s m : Int) : Free 2 (fun F => (shF 2 m F)) (fun _ => (a)) (fun _ => (x)) (fun _ => (y)) (fun _ => (s)) (fun F => (shV 2 m F.c)) := by
  intro k hk _ F
  obtain rfl | rfl | rfl | rfl | rfl | rfl | rfl | rfl : k = 0 ∨ k = 1 ∨ k = 2 ∨ k = 3 ∨ k = 4 ∨ k = 5 ∨ k = 6 ∨ k = 7 := by omega
  · exact ⟨rfl, rfl, rfl, rfl, rfl, by rw [show gt (st 2) (fb 0) = true by decide +kernel]; rfl⟩
  · exact ⟨rfl, rfl, rfl, rfl, rfl, by rw [show gt (st 2) (fb 1) = true by decide +kernel]; rfl⟩
  · exact ⟨rfl, rfl, rfl, rfl, rfl, by rw [show gt (st 2) (fb 2) = false by decide +kernel]; rfl⟩
  · exact ⟨rfl, rfl, rfl, rfl, rfl, by rw [show gt (st 2) (fb 3) = false by decide +kernel]; rfl⟩
  · exact ⟨rfl, rfl, rfl, rfl, rfl, by rw [show gt (st 2) (fb 4) = false by decide +kernel]; rfl⟩
  · exact ⟨rfl, rfl, rfl, rfl, rfl, by rw [show gt (st 2) (fb 5) = false by decide +kernel]; rfl⟩
  · exact ⟨rfl, rfl, rfl, rfl, rfl, by rw [show gt (st 2) (fb 6) = false by decide +kernel]; rfl⟩
  · exact ⟨rfl, rfl, rfl, rfl, rfl, by rw [show gt (st 2) (fb 7) = true by decide +kernel]; rfl⟩
theorem free_40 (a x y s m : Int) : Free 40 (fun F => (shF 40 m F)) (fun _ => (a)) (fun _ => (x)) (fun _ => (y)) (fun _ => (s)) (fun F => (shV 40 m F.c)) := by
  intro k hk hN F
  obtain rfl | rfl | rfl | rfl | rfl | rfl | rfl | rfl : k = 0 ∨ k = 1 ∨ k = 2 ∨ k = 3 ∨ k = 4 ∨ k = 5 ∨ k = 6 ∨ k = 7 := by omega
  · exact absurd hN (by decide +kernel)
  · exact ⟨rfl, rfl, rfl, rfl, rfl, by rw [show gt (st 40) (fb 1) = true by decide +kernel]; rfl⟩
  · exact ⟨rfl, rfl, rfl, rfl, rfl, by rw [show gt (st 40) (fb 2) = false by decide +kernel]; rfl⟩
  · exact ⟨rfl, rfl, rfl, rfl, rfl, by rw [show gt (st 40) (fb 3) = false by decide +kernel]; rfl⟩
  · exact ⟨rfl, rfl, rfl, rfl, rfl, by rw [show gt (st 40) (fb 4) = false by decide +kernel]; rfl⟩
  · exact ⟨rfl, rfl, rfl, rfl, rfl, by rw [show gt (st 40) (fb 5) = false by decide +kernel]; rfl⟩
  · exact ⟨rfl, rfl, rfl, rfl, rfl, by rw [show gt (st 40) (fb 6) = false by decide +kernel]; rfl⟩
  · exact ⟨rfl, rfl, rfl, rfl, rfl, by rw [show gt (st 40) (fb 7) = true by decide +kernel]; rfl⟩
theorem free_68 (a x y s m : Int) : Free 68 (fun F => (nzF (bits .xor .u8 a (shV 32 m F.c)) (shF 32 m F))) (fun F => (bits .xor .u8 a (shV 32 m F.c))) (fun _ => (x)) (fun _ => (y)) (fun _ => (s)) (fun F => (shV 32 m F.c)) := by
  intro k hk _ F
  obtain rfl | rfl | rfl | rfl | rfl | rfl | rfl | rfl : k = 0 ∨ k = 1 ∨ k = 2 ∨ k = 3 ∨ k = 4 ∨ k = 5 ∨ k = 6 ∨ k = 7 := by omega
  · exact ⟨rfl, rfl, rfl, rfl, rfl, by rw [show gt (st 68) (fb 0) = true by decide +kernel]; rfl⟩
  · exact ⟨rfl, rfl, rfl, rfl, rfl, by rw [show gt (st 68) (fb 1) = true by decide +kernel]; rfl⟩
  · exact ⟨rfl, rfl, rfl, rfl, rfl, by rw [show gt (st 68) (fb 2) = false by decide +kernel]; rfl⟩
  · exact ⟨rfl, rfl, rfl, rfl, rfl, by rw [show gt (st 68) (fb 3) = false by decide +kernel]; rfl⟩
  · exact ⟨rfl, rfl, rfl, rfl, rfl, by rw [show gt (st 68) (fb 4) = false by decide +kernel]; rfl⟩
  · exact ⟨rfl, rfl, rfl, rfl, rfl, by rw [show gt (st 68) (fb 5) = false by decide +kernel]; rfl⟩
  · exact ⟨rfl, rfl, rfl, rfl, rfl, by rw [show gt (st 68) (fb 6) = false by decide +kernel]; rfl⟩
  · exact ⟨rfl, rfl, rfl, rfl, rfl, by rw [show gt (st 68) (fb 7) = true by decide +kernel]; rfl⟩
theorem free_17 (a x y s m : Int) : Free 17 (fun F => (nzF ((a - m) % 256) (F.put 1 (decide (m ≤ a))))) (fun _ => (a)) (fun _ => (x)) (fun _ => (y)) (fun _ => (s)) (fun _ => (m)) := by
  intro k hk _ F
  obtain rfl | rfl | rfl | rfl | rfl | rfl | rfl | rfl : k = 0 ∨ k = 1 ∨ k = 2 ∨ k = 3 ∨ k = 4 ∨ k = 5 ∨ k = 6 ∨ k = 7 := by omega
  · exact ⟨rfl, rfl, rfl, rfl, rfl, by rw [show gt (st 17) (fb 0) = true by decide +kernel]; rfl⟩
  · exact ⟨rfl, rfl, rfl, rfl, rfl, by rw [show gt (st 17) (fb 1) = true by decide +kernel]; rfl⟩
  · exact ⟨rfl, rfl, rfl, rfl, rfl, by rw [show gt (st 17) (fb 2) = false by decide +kernel]; rfl⟩
  · exact ⟨rfl, rfl, rfl, rfl, rfl, by rw [show gt (st 17) (fb 3) = false by decide +kernel]; rfl⟩
  · exact ⟨rfl, rfl, rfl, rfl, rfl, by rw [show gt (st 17) (fb 4) = false by decide +kernel]; rfl⟩
  · exact ⟨rfl, rfl, rfl, rfl, rfl, by rw [show gt (st 17) (fb 5) = false by decide +kernel]; rfl⟩
  · exact ⟨rfl, rfl, rfl, rfl, rfl, by rw [show gt (st 17) (fb 6) = false by decide +kernel]; rfl⟩
  · exact ⟨rfl, rfl, rfl, rfl, rfl, by rw [show gt (st 17) (fb 7) = true by decide +kernel]; rfl⟩
theorem free_6 (a x y s m : Int) : Free 6 (fun F => (((F.put 2 (bits .and .u8 a m == 0)).put 128 (bits .and .u8 m 128 != 0)).put 64 (bits .and .u8 m 64 != 0))) (fun _ => (a)) (fun _ => (x)) (fun _ => (y)) (fun _ => (s)) (fun _ => (m)) := by
  intro k hk _ F
  obtain rfl | rfl | rfl | rfl | rfl | rfl | rfl | rfl : k = 0 ∨ k = 1 ∨ k = 2 ∨ k = 3 ∨ k = 4 ∨ k = 5 ∨ k = 6 ∨ k = 7 := by omega
  · exact ⟨rfl, rfl, rfl, rfl, rfl, by rw [show gt (st 6) (fb 0) = false by decide +kernel]; rfl⟩
  · exact ⟨rfl, rfl, rfl, rfl, rfl, by rw [show gt (st 6) (fb 1) = true by decide +kernel]; rfl⟩
  · exact ⟨rfl, rfl, rfl, rfl, rfl, by rw [show gt (st 6) (fb 2) = false by decide +kernel]; rfl⟩
  · exact ⟨rfl, rfl, rfl, rfl, rfl, by rw [show gt (st 6) (fb 3) = false by decide +kernel]; rfl⟩
  · exact ⟨rfl, rfl, rfl, rfl, rfl, by rw [show gt (st 6) (fb 4) = false by decide +kernel]; rfl⟩
  · exact ⟨rfl, rfl, rfl, rfl, rfl, by rw [show gt (st 6) (fb 5) = false by decide +kernel]; rfl⟩
  · exact ⟨rfl, rfl, rfl, rfl, rfl, by rw [show gt (st 6) (fb 6) = true by decide +kernel]; rfl⟩
  · exact ⟨rfl, rfl, rfl, rfl, rfl, by rw [show gt (st 6) (fb 7) = true by decide +kernel]; rfl⟩
theorem free_66 (a x y s m : Int) : Free 66 (fun F => (nzF ((bits .and .u8 a x - m) % 256) (F.put 1 (decide (m ≤ bits .and .u8 a x))))) (fun _ => (a)) (fun _ => ((bits .and .u8 a x - m) % 256)) (fun _ => (y)) (fun _ => (s)) (fun _ => (m)) := by
  intro k hk _ F
  obtain rfl | rfl | rfl | rfl | rfl | rfl | rfl | rfl : k = 0 ∨ k = 1 ∨ k = 2 ∨ k = 3 ∨ k = 4 ∨ k = 5 ∨ k = 6 ∨ k = 7 := by omega
  · exact ⟨rfl, rfl, rfl, rfl, rfl, by rw [show gt (st 66) (fb 0) = true by decide +kernel]; rfl⟩
  · exact ⟨rfl, rfl, rfl, rfl, rfl, by rw [show gt (st 66) (fb 1) = true by decide +kernel]; rfl⟩
  · exact ⟨rfl, rfl, rfl, rfl, rfl, by rw [show gt (st 66) (fb 2) = false by decide +kernel]; rfl⟩
  · exact ⟨rfl, rfl, rfl, rfl, rfl, by rw [show gt (st 66) (fb 3) = false by decide +kernel]; rfl⟩
  · exact ⟨rfl, rfl, rfl, rfl, rfl, by rw [show gt (st 66) (fb 4) = false by decide +kernel]; rfl⟩
  · exact ⟨rfl, rfl, rfl, rfl, rfl, by rw [show gt (st 66) (fb 5) = false by decide +kernel]; rfl⟩
  · exact ⟨rfl, rfl, rfl, rfl, rfl, by rw [show gt (st 66) (fb 6) = false by decide +kernel]; rfl⟩
  · exact ⟨rfl, rfl, rfl, rfl, rfl, by rw [show gt (st 66) (fb 7) = true by decide +kernel]; rfl⟩
theorem free_15 (a x y s m : Int) : Free 15 (fun F => (F.put 4 false)) (fun _ => (a)) (fun _ => (x)) (fun _ => (y)) (fun _ => (s)) (fun _ => (m)) := by
  intro k hk _ F
  obtain rfl | rfl | rfl | rfl | rfl | rfl | rfl | rfl : k = 0 ∨ k = 1 ∨ k = 2 ∨ k = 3 ∨ k = 4 ∨ k = 5 ∨ k = 6 ∨ k = 7 := by omega
  · exact ⟨rfl, rfl, rfl, rfl, rfl, by rw [show gt (st 15) (fb 0) = false by decide +kernel]; rfl⟩
  · exact ⟨rfl, rfl, rfl, rfl, rfl, by rw [show gt (st 15) (fb 1) = false by decide +kernel]; rfl⟩
  · exact ⟨rfl, rfl, rfl, rfl, rfl, by rw [show gt (st 15) (fb 2) = true by decide +kernel]; rfl⟩
  · exact ⟨rfl, rfl, rfl, rfl, rfl, by rw [show gt (st 15) (fb 3) = false by decide +kernel]; rfl⟩
  · exact ⟨rfl, rfl, rfl, rfl, rfl, by rw [show gt (st 15) (fb 4) = false by decide +kernel]; rfl⟩
  · exact ⟨rfl, rfl, rfl, rfl, rfl, by rw [show gt (st 15) (fb 5) = false by decide +kernel]; rfl⟩
  · exact ⟨rfl, rfl, rfl, rfl, rfl, by rw [show gt (st 15) (fb 6) = false by decide +kernel]; rfl⟩
  · exact ⟨rfl, rfl, rfl, rfl, rfl, by rw [show gt (st 15) (fb 7) = false by decide +kernel]; rfl⟩
theorem free_45 (a x y s m : Int) : Free 45 (fun F => (F.put 8 true)) (fun _ => (a)) (fun _ => (x)) (fun _ => (y)) (fun _ => (s)) (fun _ => (m)) := by
  intro k hk _ F
  obtain rfl | rfl | rfl | rfl | rfl | rfl | rfl | rfl : k = 0 ∨ k = 1 ∨ k = 2 ∨ k = 3 ∨ k = 4 ∨ k = 5 ∨ k = 6 ∨ k = 7 := by omega
  · exact ⟨rfl, rfl, rfl, rfl, rfl, by rw [show gt (st 45) (fb 0) = false by decide +kernel]; rfl⟩
  · exact ⟨rfl, rfl, rfl, rfl, rfl, by rw [show gt (st 45) (fb 1) = false by decide +kernel]; rfl⟩
  · exact ⟨rfl, rfl, rfl, rfl, rfl, by rw [show gt (st 45) (fb 2) = false by decide +kernel]; rfl⟩
  · exact ⟨rfl, rfl, rfl, rfl, rfl, by rw [show gt (st 45) (fb 3) = true by decide +kernel]; rfl⟩
  · exact ⟨rfl, rfl, rfl, rfl, rfl, by rw [show gt (st 45) (fb 4) = false by decide +kernel]; rfl⟩
  · exact ⟨rfl, rfl, rfl, rfl, rfl, by rw [show gt (st 45) (fb 5) = false by decide +kernel]; rfl⟩
  · exact ⟨rfl, rfl, rfl, rfl, rfl, by rw [show gt (st 45) (fb 6) = false by decide +kernel]; rfl⟩
  · exact ⟨rfl, rfl, rfl, rfl, rfl, by rw [show gt (st 45) (fb 7) = false by decide +kernel]; rfl⟩
theorem free_38 (a x y s : Int) (M : Fl) : Free 38 (fun _ => ((M.put 16 false).put 32 true)) (fun _ => (a)) (fun _ => (x)) (fun _ => (y)) (fun _ => (s)) (fun _ => ((M.val : Nat))) := by
  intro k hk _ F
  obtain rfl | rfl | rfl | rfl | rfl | rfl | rfl | rfl : k = 0 ∨ k = 1 ∨ k = 2 ∨ k = 3 ∨ k = 4 ∨ k = 5 ∨ k = 6 ∨ k = 7 := by omega
  · exact ⟨rfl, rfl, rfl, rfl, rfl, by rw [show gt (st 38) (fb 0) = true by decide +kernel]; rfl⟩
  · exact ⟨rfl, rfl, rfl, rfl, rfl, by rw [show gt (st 38) (fb 1) = true by decide +kernel]; rfl⟩
  · exact ⟨rfl, rfl, rfl, rfl, rfl, by rw [show gt (st 38) (fb 2) = true by decide +kernel]; rfl⟩
  · exact ⟨rfl, rfl, rfl, rfl, rfl, by rw [show gt (st 38) (fb 3) = true by decide +kernel]; rfl⟩
  · exact ⟨rfl, rfl, rfl, rfl, rfl, by rw [show gt (st 38) (fb 4) = true by decide +kernel]; rfl⟩
  · exact ⟨rfl, rfl, rfl, rfl, rfl, by rw [show gt (st 38) (fb 5) = true by decide +kernel]; rfl⟩
  · exact ⟨rfl, rfl, rfl, rfl, rfl, by rw [show gt (st 38) (fb 6) = true by decide +kernel]; rfl⟩
  · exact ⟨rfl, rfl, rfl, rfl, rfl, by rw [show gt (st 38) (fb 7) = true by decide +kernel]; rfl⟩
end Go.Proofs.YtgnhaicogdnebaaDoor
