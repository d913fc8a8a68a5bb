/-
  Each operation keeps the flags that it does not set.
-/
import Derived.Test.YtgnhaicogdnebaaDoorIFree0
import Derived.Test.YtgnhaicogdnebaaDoorIArr
import Derived.Test.YtgnhaicogdnebaaDoorADoH
import Derived.Test.YtgnhaicogdnebaaDoorADoC
import Derived.Test.YtgnhaicogdnebaaDoorADoT
set_option linter.unusedSimpArgs false
set_option linter.unusedVariables false
namespace Go.Proofs.YtgnhaicogdnebaaDoor
open Go.RowKit
theorem keep_29 (_a _x _y _s m : Int) : Keep 29 (fun F => (nzF (m) F)) := by
  intro k hk hN F
  obtain rfl | rfl | rfl | rfl | rfl | rfl | rfl | rfl : k = 0 ∨ k = 1 ∨ k = 2 ∨ k = 3 ∨ k = 4 ∨ k = 5 ∨ k = 6 ∨ k = 7 := by omega
  · rfl
  · exact absurd hN (by decide +kernel)
  · rfl
  · rfl
  · rfl
  · rfl
  · rfl
  · exact absurd hN (by decide +kernel)
theorem keep_37 (_a _x _y _s m : Int) : Keep 37 (fun F => (nzF (m) F)) := by
  intro k hk hN F
  obtain rfl | rfl | rfl | rfl | rfl | rfl | rfl | rfl : k = 0 ∨ k = 1 ∨ k = 2 ∨ k = 3 ∨ k = 4 ∨ k = 5 ∨ k = 6 ∨ k = 7 := by omega
  · rfl
  · exact absurd hN (by decide +kernel)
  · rfl
  · rfl
  · rfl
  · rfl
  · rfl
  · exact absurd hN (by decide +kernel)
theorem keep_30 (_a _x _y _s m : Int) : Keep 30 (fun F => (nzF (m) F)) := by
  intro k hk hN F
  obtain rfl | rfl | rfl | rfl | rfl | rfl | rfl | rfl : k = 0 ∨ k = 1 ∨ k = 2 ∨ k = 3 ∨ k = 4 ∨ k = 5 ∨ k = 6 ∨ k = 7 := by omega
  · rfl
  · exact absurd hN (by decide +kernel)
  · rfl
  · rfl
  · rfl
  · rfl
  · rfl
  · exact absurd hN (by decide +kernel)
theorem keep_31 (_a _x _y _s m : Int) : Keep 31 (fun F => (nzF (m) F)) := by
  intro k hk hN F
  obtain rfl | rfl | rfl | rfl | rfl | rfl | rfl | rfl : k = 0 ∨ k = 1 ∨ k = 2 ∨ k = 3 ∨ k = 4 ∨ k = 5 ∨ k = 6 ∨ k = 7 := by omega
  · rfl
  · exact absurd hN (by decide +kernel)
  · rfl
  · rfl
  · rfl
  · rfl
  · rfl
  · exact absurd hN (by decide +kernel)
theorem keep_62 (_a _x _y _s m : Int) : Keep 62 (fun F => (nzF (m) F)) := by
  intro k hk hN F
  obtain rfl | rfl | rfl | rfl | rfl | rfl | rfl | rfl : k = 0 ∨ k = 1 ∨ k = 2 ∨ k = 3 ∨ k = 4 ∨ k = 5 ∨ k = 6 ∨ k = 7 := by omega
  · rfl
  · exact absurd hN (by decide +kernel)
  · rfl
  · rfl
  · rfl
  · rfl
  · rfl
  · exact absurd hN (by decide +kernel)
theorem keep_61 (_a _x _y s m : Int) : Keep 61 (fun F => (nzF (bits .and .u8 s m) F)) := by
  intro k hk hN F
  obtain rfl | rfl | rfl | rfl | rfl | rfl | rfl | rfl : k = 0 ∨ k = 1 ∨ k = 2 ∨ k = 3 ∨ k = 4 ∨ k = 5 ∨ k = 6 ∨ k = 7 := by omega
  · rfl
  · exact absurd hN (by decide +kernel)
  · rfl
  · rfl
  · rfl
  · rfl
  · rfl
  · exact absurd hN (by decide +kernel)
theorem keep_50 (a _x _y _s _m : Int) : Keep 50 (fun F => (nzF (a) F)) := by
  intro k hk hN F
  obtain rfl | rfl | rfl | rfl | rfl | rfl | rfl | rfl : k = 0 ∨ k = 1 ∨ k = 2 ∨ k = 3 ∨ k = 4 ∨ k = 5 ∨ k = 6 ∨ k = 7 := by omega
  · rfl
  · exact absurd hN (by decide +kernel)
  · rfl
  · rfl
  · rfl
  · rfl
  · rfl
  · exact absurd hN (by decide +kernel)
theorem keep_51 (a _x _y _s _m : Int) : Keep 51 (fun F => (nzF (a) F)) := by
  intro k hk hN F
  obtain rfl | rfl | rfl | rfl | rfl | rfl | rfl | rfl : k = 0 ∨ k = 1 ∨ k = 2 ∨ k = 3 ∨ k = 4 ∨ k = 5 ∨ k = 6 ∨ k = 7 := by omega
  · rfl
  · exact absurd hN (by decide +kernel)
  · rfl
  · rfl
  · rfl
  · rfl
  · rfl
  · exact absurd hN (by decide +kernel)
theorem keep_53 (_a x _y _s _m : Int) : Keep 53 (fun F => (nzF (x) F)) := by
  intro k hk hN F
  obtain rfl | rfl | rfl | rfl | rfl | rfl | rfl | rfl : k = 0 ∨ k = 1 ∨ k = 2 ∨ k = 3 ∨ k = 4 ∨ k = 5 ∨ k = 6 ∨ k = 7 := by omega
  · rfl
  · exact absurd hN (by decide +kernel)
  · rfl
  · rfl
  · rfl
  · rfl
  · rfl
  · exact absurd hN (by decide +kernel)
theorem keep_55 (_a _x y _s _m : Int) : Keep 55 (fun F => (nzF (y) F)) := by
  intro k hk hN F
  obtain rfl | rfl | rfl | rfl | rfl | rfl | rfl | rfl : k = 0 ∨ k = 1 ∨ k = 2 ∨ k = 3 ∨ k = 4 ∨ k = 5 ∨ k = 6 ∨ k = 7 := by omega
  · rfl
  · exact absurd hN (by decide +kernel)
  · rfl
  · rfl
  · rfl
  · rfl
  · rfl
  · exact absurd hN (by decide +kernel)
theorem keep_52 (_a _x _y s _m : Int) : Keep 52 (fun F => (nzF (s) F)) := by
  intro k hk hN F
  obtain rfl | rfl | rfl | rfl | rfl | rfl | rfl | rfl : k = 0 ∨ k = 1 ∨ k = 2 ∨ k = 3 ∨ k = 4 ∨ k = 5 ∨ k = 6 ∨ k = 7 := by omega
  · rfl
  · exact absurd hN (by decide +kernel)
  · rfl
  · rfl
  · rfl
  · rfl
  · rfl
  · exact absurd hN (by decide +kernel)
theorem keep_54 (_a _x _y _s _m : Int) : Keep 54 (fun F => (F)) := by
  intro k hk _ F
  obtain rfl | rfl | rfl | rfl | rfl | rfl | rfl | rfl : k = 0 ∨ k = 1 ∨ k = 2 ∨ k = 3 ∨ k = 4 ∨ k = 5 ∨ k = 6 ∨ k = 7 := by omega
  · rfl
  · rfl
  · rfl
  · rfl
  · rfl
  · rfl
  · rfl
  · rfl
theorem keep_47 (_a _x _y _s _m : Int) : Keep 47 (fun F => (F)) := by
  intro k hk _ F
  obtain rfl | rfl | rfl | rfl | rfl | rfl | rfl | rfl : k = 0 ∨ k = 1 ∨ k = 2 ∨ k = 3 ∨ k = 4 ∨ k = 5 ∨ k = 6 ∨ k = 7 := by omega
  · rfl
  · rfl
  · rfl
  · rfl
  · rfl
  · rfl
  · rfl
  · rfl
theorem keep_35 (_a _x _y _s _m : Int) : Keep 35 (fun F => (F)) := by
  intro k hk _ F
  obtain rfl | rfl | rfl | rfl | rfl | rfl | rfl | rfl : k = 0 ∨ k = 1 ∨ k = 2 ∨ k = 3 ∨ k = 4 ∨ k = 5 ∨ k = 6 ∨ k = 7 := by omega
  · rfl
  · rfl
  · rfl
  · rfl
  · rfl
  · rfl
  · rfl
  · rfl
theorem keep_48 (_a _x _y _s _m : Int) : Keep 48 (fun F => (F)) := by
  intro k hk _ F
  obtain rfl | rfl | rfl | rfl | rfl | rfl | rfl | rfl : k = 0 ∨ k = 1 ∨ k = 2 ∨ k = 3 ∨ k = 4 ∨ k = 5 ∨ k = 6 ∨ k = 7 := by omega
  · rfl
  · rfl
  · rfl
  · rfl
  · rfl
  · rfl
  · rfl
  · rfl
theorem keep_49 (_a _x _y _s _m : Int) : Keep 49 (fun F => (F)) := by
  intro k hk _ F
  obtain rfl | rfl | rfl | rfl | rfl | rfl | rfl | rfl : k = 0 ∨ k = 1 ∨ k = 2 ∨ k = 3 ∨ k = 4 ∨ k = 5 ∨ k = 6 ∨ k = 7 := by omega
  · rfl
  · rfl
  · rfl
  · rfl
  · rfl
  · rfl
  · rfl
  · rfl
theorem keep_65 (_a _x _y _s _m : Int) : Keep 65 (fun F => (F)) := by
  intro k hk _ F
  obtain rfl | rfl | rfl | rfl | rfl | rfl | rfl | rfl : k = 0 ∨ k = 1 ∨ k = 2 ∨ k = 3 ∨ k = 4 ∨ k = 5 ∨ k = 6 ∨ k = 7 := by omega
  · rfl
  · rfl
  · rfl
  · rfl
  · rfl
  · rfl
  · rfl
  · rfl
theorem keep_24 (_a _x _y _s m : Int) : Keep 24 (fun F => (nzF ((m + 1) % 256) F)) := by
  intro k hk hN F
  obtain rfl | rfl | rfl | rfl | rfl | rfl | rfl | rfl : k = 0 ∨ k = 1 ∨ k = 2 ∨ k = 3 ∨ k = 4 ∨ k = 5 ∨ k = 6 ∨ k = 7 := by omega
  · rfl
  · exact absurd hN (by decide +kernel)
  · rfl
  · rfl
  · rfl
  · rfl
  · rfl
  · exact absurd hN (by decide +kernel)
theorem keep_25 (_a x _y _s _m : Int) : Keep 25 (fun F => (nzF ((x + 1) % 256) F)) := by
  intro k hk hN F
  obtain rfl | rfl | rfl | rfl | rfl | rfl | rfl | rfl : k = 0 ∨ k = 1 ∨ k = 2 ∨ k = 3 ∨ k = 4 ∨ k = 5 ∨ k = 6 ∨ k = 7 := by omega
  · rfl
  · exact absurd hN (by decide +kernel)
  · rfl
  · rfl
  · rfl
  · rfl
  · rfl
  · exact absurd hN (by decide +kernel)
theorem keep_26 (_a _x y _s _m : Int) : Keep 26 (fun F => (nzF ((y + 1) % 256) F)) := by
  intro k hk hN F
  obtain rfl | rfl | rfl | rfl | rfl | rfl | rfl | rfl : k = 0 ∨ k = 1 ∨ k = 2 ∨ k = 3 ∨ k = 4 ∨ k = 5 ∨ k = 6 ∨ k = 7 := by omega
  · rfl
  · exact absurd hN (by decide +kernel)
  · rfl
  · rfl
  · rfl
  · rfl
  · rfl
  · exact absurd hN (by decide +kernel)
theorem keep_20 (_a _x _y _s m : Int) : Keep 20 (fun F => (nzF ((m - 1) % 256) F)) := by
  intro k hk hN F
  obtain rfl | rfl | rfl | rfl | rfl | rfl | rfl | rfl : k = 0 ∨ k = 1 ∨ k = 2 ∨ k = 3 ∨ k = 4 ∨ k = 5 ∨ k = 6 ∨ k = 7 := by omega
  · rfl
  · exact absurd hN (by decide +kernel)
  · rfl
  · rfl
  · rfl
  · rfl
  · rfl
  · exact absurd hN (by decide +kernel)
theorem keep_21 (_a x _y _s _m : Int) : Keep 21 (fun F => (nzF ((x - 1) % 256) F)) := by
  intro k hk hN F
  obtain rfl | rfl | rfl | rfl | rfl | rfl | rfl | rfl : k = 0 ∨ k = 1 ∨ k = 2 ∨ k = 3 ∨ k = 4 ∨ k = 5 ∨ k = 6 ∨ k = 7 := by omega
  · rfl
  · exact absurd hN (by decide +kernel)
  · rfl
  · rfl
  · rfl
  · rfl
  · rfl
  · exact absurd hN (by decide +kernel)
theorem keep_22 (_a _x y _s _m : Int) : Keep 22 (fun F => (nzF ((y - 1) % 256) F)) := by
  intro k hk hN F
  obtain rfl | rfl | rfl | rfl | rfl | rfl | rfl | rfl : k = 0 ∨ k = 1 ∨ k = 2 ∨ k = 3 ∨ k = 4 ∨ k = 5 ∨ k = 6 ∨ k = 7 := by omega
  · rfl
  · exact absurd hN (by decide +kernel)
  · rfl
  · rfl
  · rfl
  · rfl
  · rfl
  · exact absurd hN (by decide +kernel)
theorem keep_1 (a _x _y _s m : Int) : Keep 1 (fun F => (nzF (bits .and .u8 a m) F)) := by
  intro k hk hN F
  obtain rfl | rfl | rfl | rfl | rfl | rfl | rfl | rfl : k = 0 ∨ k = 1 ∨ k = 2 ∨ k = 3 ∨ k = 4 ∨ k = 5 ∨ k = 6 ∨ k = 7 := by omega
  · rfl
  · exact absurd hN (by decide +kernel)
  · rfl
  · rfl
  · rfl
  · rfl
  · rfl
  · exact absurd hN (by decide +kernel)
theorem keep_34 (a _x _y _s m : Int) : Keep 34 (fun F => (nzF (bits .or .u8 a m) F)) := by
  intro k hk hN F
  obtain rfl | rfl | rfl | rfl | rfl | rfl | rfl | rfl : k = 0 ∨ k = 1 ∨ k = 2 ∨ k = 3 ∨ k = 4 ∨ k = 5 ∨ k = 6 ∨ k = 7 := by omega
  · rfl
  · exact absurd hN (by decide +kernel)
  · rfl
  · rfl
  · rfl
  · rfl
  · rfl
  · exact absurd hN (by decide +kernel)
theorem keep_23 (a _x _y _s m : Int) : Keep 23 (fun F => (nzF (bits .xor .u8 a m) F)) := by
  intro k hk hN F
  obtain rfl | rfl | rfl | rfl | rfl | rfl | rfl | rfl : k = 0 ∨ k = 1 ∨ k = 2 ∨ k = 3 ∨ k = 4 ∨ k = 5 ∨ k = 6 ∨ k = 7 := by omega
  · rfl
  · exact absurd hN (by decide +kernel)
  · rfl
  · rfl
  · rfl
  · rfl
  · rfl
  · exact absurd hN (by decide +kernel)
theorem keep_0 (a _x _y _s m : Int) : Keep 0 (fun F => (adcF a m F)) := by
  intro k hk hN F
  obtain rfl | rfl | rfl | rfl | rfl | rfl | rfl | rfl : k = 0 ∨ k = 1 ∨ k = 2 ∨ k = 3 ∨ k = 4 ∨ k = 5 ∨ k = 6 ∨ k = 7 := by omega
  · exact absurd hN (by decide +kernel)
  · exact absurd hN (by decide +kernel)
  · obtain ⟨n, v, u, b, d, i, z, c⟩ := F
    cases d
    · rfl
    · rfl
  · obtain ⟨n, v, u, b, d, i, z, c⟩ := F
    cases d
    · rfl
    · rfl
  · obtain ⟨n, v, u, b, d, i, z, c⟩ := F
    cases d
    · rfl
    · rfl
  · obtain ⟨n, v, u, b, d, i, z, c⟩ := F
    cases d
    · rfl
    · rfl
  · exact absurd hN (by decide +kernel)
  · exact absurd hN (by decide +kernel)
theorem keep_43 (a _x _y _s m : Int) : Keep 43 (fun F => (sbcF a m F)) := by
  intro k hk hN F
  obtain rfl | rfl | rfl | rfl | rfl | rfl | rfl | rfl : k = 0 ∨ k = 1 ∨ k = 2 ∨ k = 3 ∨ k = 4 ∨ k = 5 ∨ k = 6 ∨ k = 7 := by omega
  · exact absurd hN (by decide +kernel)
  · exact absurd hN (by decide +kernel)
  · obtain ⟨n, v, u, b, d, i, z, c⟩ := F
    cases d
    · rfl
    · rfl
  · obtain ⟨n, v, u, b, d, i, z, c⟩ := F
    cases d
    · rfl
    · rfl
  · obtain ⟨n, v, u, b, d, i, z, c⟩ := F
    cases d
    · rfl
    · rfl
  · obtain ⟨n, v, u, b, d, i, z, c⟩ := F
    cases d
    · rfl
    · rfl
  · exact absurd hN (by decide +kernel)
  · exact absurd hN (by decide +kernel)
theorem keep_58 (a _x _y _s m : Int) : Keep 58 (fun F => (arrF (bits .and .u8 a m) F)) := by
  intro k hk hN F
  obtain rfl | rfl | rfl | rfl | rfl | rfl | rfl | rfl : k = 0 ∨ k = 1 ∨ k = 2 ∨ k = 3 ∨ k = 4 ∨ k = 5 ∨ k = 6 ∨ k = 7 := by omega
  · exact absurd hN (by decide +kernel)
  · exact absurd hN (by decide +kernel)
  · obtain ⟨n, v, u, b, d, i, z, c⟩ := F
    cases d
    · rfl
    · rfl
  · obtain ⟨n, v, u, b, d, i, z, c⟩ := F
    cases d
    · rfl
    · rfl
  · obtain ⟨n, v, u, b, d, i, z, c⟩ := F
    cases d
    · rfl
    · rfl
  · obtain ⟨n, v, u, b, d, i, z, c⟩ := F
    cases d
    · rfl
    · rfl
  · exact absurd hN (by decide +kernel)
  · exact absurd hN (by decide +kernel)
theorem keep_2 (_a _x _y _s m : Int) : Keep 2 (fun F => (shF 2 m F)) := by
  intro k hk hN F
  obtain rfl | rfl | rfl | rfl | rfl | rfl | rfl | rfl : k = 0 ∨ k = 1 ∨ k = 2 ∨ k = 3 ∨ k = 4 ∨ k = 5 ∨ k = 6 ∨ k = 7 := by omega
  · exact absurd hN (by decide +kernel)
  · exact absurd hN (by decide +kernel)
  · rfl
  · rfl
  · rfl
  · rfl
  · rfl
  · exact absurd hN (by decide +kernel)
theorem keep_32 (_a _x _y _s m : Int) : Keep 32 (fun F => (shF 32 m F)) := by
  intro k hk hN F
  obtain rfl | rfl | rfl | rfl | rfl | rfl | rfl | rfl : k = 0 ∨ k = 1 ∨ k = 2 ∨ k = 3 ∨ k = 4 ∨ k = 5 ∨ k = 6 ∨ k = 7 := by omega
  · exact absurd hN (by decide +kernel)
  · exact absurd hN (by decide +kernel)
  · rfl
  · rfl
  · rfl
  · rfl
  · rfl
  · exact absurd hN (by decide +kernel)
theorem keep_39 (_a _x _y _s m : Int) : Keep 39 (fun F => (shF 39 m F)) := by
  intro k hk hN F
  obtain rfl | rfl | rfl | rfl | rfl | rfl | rfl | rfl : k = 0 ∨ k = 1 ∨ k = 2 ∨ k = 3 ∨ k = 4 ∨ k = 5 ∨ k = 6 ∨ k = 7 := by omega
  · exact absurd hN (by decide +kernel)
  · exact absurd hN (by decide +kernel)
  · rfl
  · rfl
  · rfl
  · rfl
  · rfl
  · exact absurd hN (by decide +kernel)
theorem keep_40 (_a _x _y _s m : Int) : Keep 40 (fun F => (shF 40 m F)) := by
  intro k hk hN F
  obtain rfl | rfl | rfl | rfl | rfl | rfl | rfl | rfl : k = 0 ∨ k = 1 ∨ k = 2 ∨ k = 3 ∨ k = 4 ∨ k = 5 ∨ k = 6 ∨ k = 7 := by omega
  · exact absurd hN (by decide +kernel)
  · exact absurd hN (by decide +kernel)
  · rfl
  · rfl
  · rfl
  · rfl
  · rfl
  · exact absurd hN (by decide +kernel)
theorem keep_67 (a _x _y _s m : Int) : Keep 67 (fun F => (nzF (bits .or .u8 a (shV 2 m F.c)) (shF 2 m F))) := by
  intro k hk hN F
  obtain rfl | rfl | rfl | rfl | rfl | rfl | rfl | rfl : k = 0 ∨ k = 1 ∨ k = 2 ∨ k = 3 ∨ k = 4 ∨ k = 5 ∨ k = 6 ∨ k = 7 := by omega
  · exact absurd hN (by decide +kernel)
  · exact absurd hN (by decide +kernel)
  · rfl
  · rfl
  · rfl
  · rfl
  · rfl
  · exact absurd hN (by decide +kernel)
theorem keep_63 (a _x _y _s m : Int) : Keep 63 (fun F => (nzF (bits .and .u8 a (shV 39 m F.c)) (shF 39 m F))) := by
  intro k hk hN F
  obtain rfl | rfl | rfl | rfl | rfl | rfl | rfl | rfl : k = 0 ∨ k = 1 ∨ k = 2 ∨ k = 3 ∨ k = 4 ∨ k = 5 ∨ k = 6 ∨ k = 7 := by omega
  · exact absurd hN (by decide +kernel)
  · exact absurd hN (by decide +kernel)
  · rfl
  · rfl
  · rfl
  · rfl
  · rfl
  · exact absurd hN (by decide +kernel)
theorem keep_68 (a _x _y _s m : Int) : Keep 68 (fun F => (nzF (bits .xor .u8 a (shV 32 m F.c)) (shF 32 m F))) := by
  intro k hk hN F
  obtain rfl | rfl | rfl | rfl | rfl | rfl | rfl | rfl : k = 0 ∨ k = 1 ∨ k = 2 ∨ k = 3 ∨ k = 4 ∨ k = 5 ∨ k = 6 ∨ k = 7 := by omega
  · exact absurd hN (by decide +kernel)
  · exact absurd hN (by decide +kernel)
  · rfl
  · rfl
  · rfl
  · rfl
  · rfl
  · exact absurd hN (by decide +kernel)
theorem keep_64 (a _x _y _s m : Int) : Keep 64 (fun F => (adcF a (shV 40 m F.c) (shF 40 m F))) := by
  intro k hk hN F
  obtain rfl | rfl | rfl | rfl | rfl | rfl | rfl | rfl : k = 0 ∨ k = 1 ∨ k = 2 ∨ k = 3 ∨ k = 4 ∨ k = 5 ∨ k = 6 ∨ k = 7 := by omega
  · exact absurd hN (by decide +kernel)
  · exact absurd hN (by decide +kernel)
  · obtain ⟨n, v, u, b, d, i, z, c⟩ := F
    cases d
    · rfl
    · rfl
  · obtain ⟨n, v, u, b, d, i, z, c⟩ := F
    cases d
    · rfl
    · rfl
  · obtain ⟨n, v, u, b, d, i, z, c⟩ := F
    cases d
    · rfl
    · rfl
  · obtain ⟨n, v, u, b, d, i, z, c⟩ := F
    cases d
    · rfl
    · rfl
  · exact absurd hN (by decide +kernel)
  · exact absurd hN (by decide +kernel)
theorem keep_59 (a _x _y _s m : Int) : Keep 59 (fun F => (nzF ((a - (m - 1) % 256) % 256) (F.put 1 (decide ((m - 1) % 256 ≤ a))))) := by
  intro k hk hN F
  obtain rfl | rfl | rfl | rfl | rfl | rfl | rfl | rfl : k = 0 ∨ k = 1 ∨ k = 2 ∨ k = 3 ∨ k = 4 ∨ k = 5 ∨ k = 6 ∨ k = 7 := by omega
  · exact absurd hN (by decide +kernel)
  · exact absurd hN (by decide +kernel)
  · rfl
  · rfl
  · rfl
  · rfl
  · rfl
  · exact absurd hN (by decide +kernel)
theorem keep_60 (a _x _y _s m : Int) : Keep 60 (fun F => (sbcF a ((m + 1) % 256) F)) := by
  intro k hk hN F
  obtain rfl | rfl | rfl | rfl | rfl | rfl | rfl | rfl : k = 0 ∨ k = 1 ∨ k = 2 ∨ k = 3 ∨ k = 4 ∨ k = 5 ∨ k = 6 ∨ k = 7 := by omega
  · exact absurd hN (by decide +kernel)
  · exact absurd hN (by decide +kernel)
  · obtain ⟨n, v, u, b, d, i, z, c⟩ := F
    cases d
    · rfl
    · rfl
  · obtain ⟨n, v, u, b, d, i, z, c⟩ := F
    cases d
    · rfl
    · rfl
  · obtain ⟨n, v, u, b, d, i, z, c⟩ := F
    cases d
    · rfl
    · rfl
  · obtain ⟨n, v, u, b, d, i, z, c⟩ := F
    cases d
    · rfl
    · rfl
  · exact absurd hN (by decide +kernel)
  · exact absurd hN (by decide +kernel)
theorem keep_17 (a _x _y _s m : Int) : Keep 17 (fun F => (nzF ((a - m) % 256) (F.put 1 (decide (m ≤ a))))) := by
  intro k hk hN F
  obtain rfl | rfl | rfl | rfl | rfl | rfl | rfl | rfl : k = 0 ∨ k = 1 ∨ k = 2 ∨ k = 3 ∨ k = 4 ∨ k = 5 ∨ k = 6 ∨ k = 7 := by omega
  · exact absurd hN (by decide +kernel)
  · exact absurd hN (by decide +kernel)
  · rfl
  · rfl
  · rfl
  · rfl
  · rfl
  · exact absurd hN (by decide +kernel)
theorem keep_18 (_a x _y _s m : Int) : Keep 18 (fun F => (nzF ((x - m) % 256) (F.put 1 (decide (m ≤ x))))) := by
  intro k hk hN F
  obtain rfl | rfl | rfl | rfl | rfl | rfl | rfl | rfl : k = 0 ∨ k = 1 ∨ k = 2 ∨ k = 3 ∨ k = 4 ∨ k = 5 ∨ k = 6 ∨ k = 7 := by omega
  · exact absurd hN (by decide +kernel)
  · exact absurd hN (by decide +kernel)
  · rfl
  · rfl
  · rfl
  · rfl
  · rfl
  · exact absurd hN (by decide +kernel)
theorem keep_19 (_a _x y _s m : Int) : Keep 19 (fun F => (nzF ((y - m) % 256) (F.put 1 (decide (m ≤ y))))) := by
  intro k hk hN F
  obtain rfl | rfl | rfl | rfl | rfl | rfl | rfl | rfl : k = 0 ∨ k = 1 ∨ k = 2 ∨ k = 3 ∨ k = 4 ∨ k = 5 ∨ k = 6 ∨ k = 7 := by omega
  · exact absurd hN (by decide +kernel)
  · exact absurd hN (by decide +kernel)
  · rfl
  · rfl
  · rfl
  · rfl
  · rfl
  · exact absurd hN (by decide +kernel)
theorem keep_6 (a _x _y _s m : Int) : Keep 6 (fun F => (((F.put 2 (bits .and .u8 a m == 0)).put 128 (bits .and .u8 m 128 != 0)).put 64 (bits .and .u8 m 64 != 0))) := by
  intro k hk hN F
  obtain rfl | rfl | rfl | rfl | rfl | rfl | rfl | rfl : k = 0 ∨ k = 1 ∨ k = 2 ∨ k = 3 ∨ k = 4 ∨ k = 5 ∨ k = 6 ∨ k = 7 := by omega
  · rfl
  · exact absurd hN (by decide +kernel)
  · rfl
  · rfl
  · rfl
  · rfl
  · exact absurd hN (by decide +kernel)
  · exact absurd hN (by decide +kernel)
theorem keep_57 (a _x _y _s m : Int) : Keep 57 (fun F => ((nzF (bits .and .u8 a m) F).put 1 (decide (128 ≤ bits .and .u8 a m)))) := by
  intro k hk hN F
  obtain rfl | rfl | rfl | rfl | rfl | rfl | rfl | rfl : k = 0 ∨ k = 1 ∨ k = 2 ∨ k = 3 ∨ k = 4 ∨ k = 5 ∨ k = 6 ∨ k = 7 := by omega
  · exact absurd hN (by decide +kernel)
  · exact absurd hN (by decide +kernel)
  · rfl
  · rfl
  · rfl
  · rfl
  · rfl
  · exact absurd hN (by decide +kernel)
theorem keep_56 (a _x _y _s m : Int) : Keep 56 (fun F => (shF 32 (bits .and .u8 a m) F)) := by
  intro k hk hN F
  obtain rfl | rfl | rfl | rfl | rfl | rfl | rfl | rfl : k = 0 ∨ k = 1 ∨ k = 2 ∨ k = 3 ∨ k = 4 ∨ k = 5 ∨ k = 6 ∨ k = 7 := by omega
  · exact absurd hN (by decide +kernel)
  · exact absurd hN (by decide +kernel)
  · rfl
  · rfl
  · rfl
  · rfl
  · rfl
  · exact absurd hN (by decide +kernel)
theorem keep_66 (a x _y _s m : Int) : Keep 66 (fun F => (nzF ((bits .and .u8 a x - m) % 256) (F.put 1 (decide (m ≤ bits .and .u8 a x))))) := by
  intro k hk hN F
  obtain rfl | rfl | rfl | rfl | rfl | rfl | rfl | rfl : k = 0 ∨ k = 1 ∨ k = 2 ∨ k = 3 ∨ k = 4 ∨ k = 5 ∨ k = 6 ∨ k = 7 := by omega
  · exact absurd hN (by decide +kernel)
  · exact absurd hN (by decide +kernel)
  · rfl
  · rfl
  · rfl
  · rfl
  · rfl
  · exact absurd hN (by decide +kernel)
theorem keep_13 (_a _x _y _s _m : Int) : Keep 13 (fun F => (F.put 1 false)) := by
  intro k hk hN F
  obtain rfl | rfl | rfl | rfl | rfl | rfl | rfl | rfl : k = 0 ∨ k = 1 ∨ k = 2 ∨ k = 3 ∨ k = 4 ∨ k = 5 ∨ k = 6 ∨ k = 7 := by omega
  · exact absurd hN (by decide +kernel)
  · rfl
  · rfl
  · rfl
  · rfl
  · rfl
  · rfl
  · rfl
theorem keep_14 (_a _x _y _s _m : Int) : Keep 14 (fun F => (F.put 8 false)) := by
  intro k hk hN F
  obtain rfl | rfl | rfl | rfl | rfl | rfl | rfl | rfl : k = 0 ∨ k = 1 ∨ k = 2 ∨ k = 3 ∨ k = 4 ∨ k = 5 ∨ k = 6 ∨ k = 7 := by omega
  · rfl
  · rfl
  · rfl
  · exact absurd hN (by decide +kernel)
  · rfl
  · rfl
  · rfl
  · rfl
theorem keep_15 (_a _x _y _s _m : Int) : Keep 15 (fun F => (F.put 4 false)) := by
  intro k hk hN F
  obtain rfl | rfl | rfl | rfl | rfl | rfl | rfl | rfl : k = 0 ∨ k = 1 ∨ k = 2 ∨ k = 3 ∨ k = 4 ∨ k = 5 ∨ k = 6 ∨ k = 7 := by omega
  · rfl
  · rfl
  · exact absurd hN (by decide +kernel)
  · rfl
  · rfl
  · rfl
  · rfl
  · rfl
theorem keep_16 (_a _x _y _s _m : Int) : Keep 16 (fun F => (F.put 64 false)) := by
  intro k hk hN F
  obtain rfl | rfl | rfl | rfl | rfl | rfl | rfl | rfl : k = 0 ∨ k = 1 ∨ k = 2 ∨ k = 3 ∨ k = 4 ∨ k = 5 ∨ k = 6 ∨ k = 7 := by omega
  · rfl
  · rfl
  · rfl
  · rfl
  · rfl
  · rfl
  · exact absurd hN (by decide +kernel)
  · rfl
theorem keep_44 (_a _x _y _s _m : Int) : Keep 44 (fun F => (F.put 1 true)) := by
  intro k hk hN F
  obtain rfl | rfl | rfl | rfl | rfl | rfl | rfl | rfl : k = 0 ∨ k = 1 ∨ k = 2 ∨ k = 3 ∨ k = 4 ∨ k = 5 ∨ k = 6 ∨ k = 7 := by omega
  · exact absurd hN (by decide +kernel)
  · rfl
  · rfl
  · rfl
  · rfl
  · rfl
  · rfl
  · rfl
theorem keep_45 (_a _x _y _s _m : Int) : Keep 45 (fun F => (F.put 8 true)) := by
  intro k hk hN F
  obtain rfl | rfl | rfl | rfl | rfl | rfl | rfl | rfl : k = 0 ∨ k = 1 ∨ k = 2 ∨ k = 3 ∨ k = 4 ∨ k = 5 ∨ k = 6 ∨ k = 7 := by omega
  · rfl
  · rfl
  · rfl
  · exact absurd hN (by decide +kernel)
  · rfl
  · rfl
  · rfl
  · rfl
theorem keep_46 (_a _x _y _s _m : Int) : Keep 46 (fun F => (F.put 4 true)) := by
  intro k hk hN F
  obtain rfl | rfl | rfl | rfl | rfl | rfl | rfl | rfl : k = 0 ∨ k = 1 ∨ k = 2 ∨ k = 3 ∨ k = 4 ∨ k = 5 ∨ k = 6 ∨ k = 7 := by omega
  · rfl
  · rfl
  · exact absurd hN (by decide +kernel)
  · rfl
  · rfl
  · rfl
  · rfl
  · rfl
theorem keep_36 (_a _x _y _s _m : Int) : Keep 36 (fun F => (F)) := by
  intro k hk _ F
  obtain rfl | rfl | rfl | rfl | rfl | rfl | rfl | rfl : k = 0 ∨ k = 1 ∨ k = 2 ∨ k = 3 ∨ k = 4 ∨ k = 5 ∨ k = 6 ∨ k = 7 := by omega
  · rfl
  · rfl
  · rfl
  · rfl
  · rfl
  · rfl
  · rfl
  · rfl
theorem keep_38 (_a _x _y _s : Int) (M : Fl) : Keep 38 (fun _ => ((M.put 16 false).put 32 true)) := by
  intro k hk hN F
  obtain rfl | rfl | rfl | rfl | rfl | rfl | rfl | rfl : k = 0 ∨ k = 1 ∨ k = 2 ∨ k = 3 ∨ k = 4 ∨ k = 5 ∨ k = 6 ∨ k = 7 := by omega
  all_goals exact absurd hN (by decide +kernel)
theorem keep_41 (_a _x _y _s : Int) (M : Fl) : Keep 41 (fun _ => ((M.put 16 false).put 32 true)) := by
  intro k hk hN F
  obtain rfl | rfl | rfl | rfl | rfl | rfl | rfl | rfl : k = 0 ∨ k = 1 ∨ k = 2 ∨ k = 3 ∨ k = 4 ∨ k = 5 ∨ k = 6 ∨ k = 7 := by omega
  all_goals exact absurd hN (by decide +kernel)
theorem keep_10 (_a _x _y _s _m : Int) : Keep 10 (fun F => (F.put 4 true)) := by
  intro k hk hN F
  obtain rfl | rfl | rfl | rfl | rfl | rfl | rfl | rfl : k = 0 ∨ k = 1 ∨ k = 2 ∨ k = 3 ∨ k = 4 ∨ k = 5 ∨ k = 6 ∨ k = 7 := by omega
  · rfl
  · rfl
  · exact absurd hN (by decide +kernel)
  · rfl
  · rfl
  · rfl
  · rfl
  · rfl
end Go.Proofs.YtgnhaicogdnebaaDoor
