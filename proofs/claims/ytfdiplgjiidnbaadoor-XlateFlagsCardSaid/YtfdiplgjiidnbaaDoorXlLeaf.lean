/-
  The leaves of Translate of package xlate.
-/
import Derived.Test.YtfdiplgjiidnbaaDoorXlSpec
set_option linter.unusedSimpArgs false
set_option linter.unusedVariables false
namespace Go.Proofs.YtfdiplgjiidnbaaDoor
open Go.RowKit Classical
theorem beqI (a b : Int) : (a == b) = decide (a = b) := by by_cases h : a = b <;> simp [h]
theorem wrap16 (x : Int) : IntKind.u16.wrap x = x % 65536 := by simp [IntKind.wrap, IntKind.signed, IntKind.bits]
theorem wrapU (x : Int) (h0 : 0 ≤ x) (h1 : x ≤ 65535) : IntKind.u16.wrap x = x := by rw [wrap16]; omega
theorem quo16 (x : Int) (h0 : 0 ≤ x) (h1 : x ≤ 65535) : IntKind.u16.wrap (x.tdiv 256) = x / 256 := by
  rw [Int.tdiv_eq_ediv_of_nonneg h0]
  simp only [IntKind.wrap, IntKind.signed, IntKind.bits]
  simp
  omega
set_option maxRecDepth 100000 in
set_option maxHeartbeats 2000000 in
theorem ends_any (x : Int) (w : World) :
    Calls Tryd.prog 42 #[.int .i64 x] w fun e w' => e = .returned (.bool (endsI x)) ∧ w' = w := by
  go_enter Tryd.func42, Tryd.ntmps42
  go_wp2
  all_goals go_ret
  all_goals (refine ⟨?_, rfl⟩; first | (simp_all [endsI]; done) | (simp_all [endsI]; omega))
set_option maxRecDepth 100000 in
set_option maxHeartbeats 2000000 in
theorem beh_any (x : Int) (w : World) :
    Calls Tryd.prog 44 #[.int .i64 x] w fun e w' => e = .returned (.bool (behI x)) ∧ w' = w := by
  go_enter Tryd.func44, Tryd.ntmps44
  go_wp2
  all_goals go_ret
  all_goals (refine ⟨?_, rfl⟩; first | (simp_all [behI]; done) | (simp_all [behI]; omega))
set_option maxRecDepth 100000 in
set_option maxHeartbeats 2000000 in
theorem ix_any (x : Int) (w : World) :
    Calls Tryd.prog 65 #[.int .i64 x] w fun e w' => e = .returned (.bool (ixI x)) ∧ w' = w := by
  go_enter Tryd.func65, Tryd.ntmps65
  go_wp2
  all_goals go_ret
  all_goals (refine ⟨?_, rfl⟩; first | (simp_all [ixI]; done) | (simp_all [ixI]; omega))
set_option maxRecDepth 100000 in
set_option maxHeartbeats 2000000 in
theorem cross_any (a b : Int) (ha0 : 0 ≤ a) (ha1 : a ≤ 65535) (hb0 : 0 ≤ b) (hb1 : b ≤ 65535) (w : World) :
    Calls Tryd.prog 66 #[.int .u16 a, .int .u16 b] w fun e w' => e = .returned (.bool (crossI a b)) ∧ w' = w := by
  have q1 := quo16 a ha0 ha1
  have q2 := quo16 b hb0 hb1
  go_enter Tryd.func66, Tryd.ntmps66
  go_wp2
  all_goals go_ret
  all_goals (refine ⟨?_, rfl⟩; first | (simp_all [crossI]; done) | (simp_all [crossI]; omega))
set_option maxRecDepth 100000 in
set_option maxHeartbeats 2000000 in
theorem lie_any (pc tag : Int) (w : World) :
    Calls Tryd.prog 16 #[.int .u16 pc, .int .i64 tag] w fun e w' => e = .returned (.bool (lieI pc tag)) ∧ w' = w := by
  go_enter Tryd.func16, Tryd.ntmps16
  go_wp2
  all_goals go_ret
  all_goals (refine ⟨?_, rfl⟩; first | (simp_all [lieI]; done) | (simp_all [lieI]; omega))
set_option maxRecDepth 100000 in
set_option maxHeartbeats 2000000 in
theorem end_any (pc tag : Int) (hp0 : 0 ≤ pc) (hp1 : pc ≤ 65535) (w : World) :
    Calls Tryd.prog 17 #[.int .u16 pc, .int .i64 tag] w fun e w' => e = .returned (.int .i64 (endI pc tag)) ∧ w' = w := by
  go_enter Tryd.func17, Tryd.ntmps17
  go_wp2
  all_goals go_ret
  all_goals (refine ⟨?_, rfl⟩; first | (simp_all [endI, sizeI]; done) | (simp_all [endI, sizeI]; omega))
end Go.Proofs.YtfdiplgjiidnbaaDoor
