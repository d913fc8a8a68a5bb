/-
  The race for the flag, as plain facts; no condition.
-/
import Derived.Test.YtlnpcbofebppcabQExa
set_option linter.unusedSimpArgs false
set_option linter.unusedVariables false
namespace Go.Proofs.Ytlnpcbofebppcab
open Go.RowKit Classical
theorem Rs.stat_of {r : Rs} (v : r.V) : r.stat = { r with vbl := false, hold := r.hold || decide (r.line * 341 + r.dot = 82181) } ∧ r.statV = if r.vbl = true then 128 else 0 := by
  unfold Rs.stat Rs.statV
  rw [if_pos ((Rs.valid_iff r).2 v), if_pos ((Rs.valid_iff r).2 v)]
  exact ⟨rfl, rfl⟩
theorem Rs.held_pl {r : Rs} (v : r.V) (h1 : r.line = 241) (h2 : r.dot = 0) : r.pl = 82181 := by
  have := Rs.pl_of v
  omega
theorem Rs.held_adv {r : Rs} (v : r.V) (h1 : r.line = 241) (h2 : r.dot = 0) (hv : r.vbl = false) (hh : r.hold = true) (n : Int) (n0 : 0 ≤ n) (n1 : n ≤ 29700) : (r.adv n).vbl = false := by
  by_cases hz : n = 0
  · subst hz
    rw [(Rs.adv_val v 0).1]
    exact hv
  have hp := Rs.held_pl v h1 h2
  have len2 : r.len = 89341 ∨ r.len = 89342 := by unfold Rs.len; split <;> simp
  rw [(Rs.adv_val v n).1]
  have key := Rs.vbl_near v (3 * n) (by omega) (by omega)
  rw [show (3 * n).toNat = 3 * n.toNat by omega] at key
  cases hc : (r.dn (3 * n.toNat)).vbl
  · rfl
  · exfalso
    have := key.1 hc
    rw [hv, hh, hp] at this
    simp only [if_true, reduceCtorEq, false_or] at this
    split at this <;> omega
theorem Rs.held_nx {r : Rs} (v : r.V) (h1 : r.line = 241) (h2 : r.dot = 0) (hv : r.vbl = false) (hh : r.hold = true) : r.nx = 29781 := by
  have hp := Rs.held_pl v h1 h2
  have len2 : r.len = 89341 ∨ r.len = 89342 := by unfold Rs.len; split <;> simp
  unfold Rs.nx
  rw [hv, hh]
  simp only [if_false, reduceCtorEq, and_false]
  omega
theorem Rs.free_adv {r : Rs} (v : r.V) (h1 : r.line = 241) (h2 : r.dot = 0) (hh : r.hold = false) (n : Int) (n0 : 1 ≤ n) (n1 : n ≤ 2270) : (r.adv n).vbl = true ∧ (r.adv n).hold = false ∧ (r.adv n).line * 341 + (r.adv n).dot ≠ 82181 := by
  have hp := Rs.held_pl v h1 h2
  have len2 : r.len = 89341 ∨ r.len = 89342 := by unfold Rs.len; split <;> simp
  obtain ⟨a1, a2⟩ := Rs.adv_pl v n n0
  refine ⟨?_, a2, ?_⟩
  · rw [(Rs.adv_val v n).1]
    have key := Rs.vbl_near v (3 * n) (by omega) (by omega)
    rw [show (3 * n).toNat = 3 * n.toNat by omega] at key
    apply key.2
    rw [hh, hp]
    simp only [if_false, reduceCtorEq]
    rw [if_pos (by omega)]
    omega
  · rw [Rs.at_near v _ (by omega) (by omega), if_pos (by omega)] at a1
    have := Rs.pl_of (Rs.adv_v v n)
    omega
end Go.Proofs.Ytlnpcbofebppcab
