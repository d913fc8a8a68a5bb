/-
  The contract of split of package xlate, for bytes.
-/
import Derived.Test.YtfdiplgjiidnbaaDoorXlRow
set_option linter.unusedSimpArgs false
set_option linter.unusedVariables false
namespace Go.Proofs.YtfdiplgjiidnbaaDoor
open Go.RowKit Classical
set_option maxRecDepth 100000 in
set_option maxHeartbeats 2000000 in
theorem split_any (b o len cap n : Nat) (w : World) (hn : n < len) (hc : len ≤ cap) (hm : cap ≤ 9223372036854775807) :
    Calls Tryd.prog 41 #[.slice (some ⟨b, o, none⟩) len cap, .int .i64 (n : Nat)] w fun e w' => e = .returned (.tuple #[.slice (some ⟨b, o, none⟩) n cap, .slice (some ⟨b, o + n, none⟩) (len - n) (cap - n)]) ∧ Below w.heap.size w w' := by
  have q1 : (n : Int) ≤ (cap : Int) := by omega
  have q2 : (n : Int) ≤ (len : Int) := by omega
  have q3 : ¬ cap = n := by omega
  have q4 : ¬ cap = 0 := by omega
  go_enter Tryd.func41, Tryd.ntmps41
  go_upto_region 1 with fail
  go_region
  all_goals go_wp2
  all_goals exact bodyPost_ret (v := .tuple #[.slice (some ⟨b, o, none⟩) n cap, .slice (some ⟨b, o + n, none⟩) (len - n) (cap - n)]) (by simp [results, Tryd.results41, go_sem]) rfl ⟨rfl, (Below.refl _ _).drew⟩
end Go.Proofs.YtfdiplgjiidnbaaDoor
