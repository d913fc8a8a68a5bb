/-
  What Next and After work out, as plain facts; no condition.
-/
import Derived.Test.YtlnpcbofebppcabQMath4
set_option linter.unusedSimpArgs false
set_option linter.unusedVariables false
namespace Go.Proofs.Ytlnpcbofebppcab
open Go.RowKit Classical
def Rs.nextV (r : Rs) : Int := if r.valid = true then (if r.nmi = true then r.nx else 4611686018427387904) else 0
def Rs.aftV (r : Rs) (k : Int) : Int := if r.valid = true then (if r.draw = true ∧ 1 ≤ k ∧ k ≤ 1099511627776 then r.af k else 4611686018427387904) else 0
theorem cA_ub (k : Int) (h : 1 ≤ k) : cA k ≤ 371 * k + 300000 := by
  unfold cA
  split <;> omega
theorem Rs.af_per (r : Rs) (k q : Int) : r.af (k + 482 * q) = q * 59561 + r.af k := by
  unfold Rs.af
  rw [← Int.add_assoc, cA_per]
  omega
theorem Rs.cA_gt {r : Rs} (v : r.V) (k : Int) (hk : 1 ≤ k) : r.pp < cA (cT r.pp + k) := by
  have hp := Rs.pp_bd v
  have h0 := cT_nonneg r.pp hp.1
  have := cA_le (x := r.pp) (k := cT r.pp + k) hp.1 (by omega)
  omega
theorem Rs.af_le {r : Rs} (v : r.V) (hd : r.draw = true) (k : Int) (hk : 1 ≤ k) (hk2 : k ≤ 482) : r.af k ≤ 59561 := by
  have := (Rs.af_iff v hd k hk 59561).1
  apply this
  have e := Rs.ck_farD v hd 0 1 (by omega) (by omega)
  rw [show (0 + 1 * 59561 : Int).toNat = 59561 by decide, show (0 : Int).toNat = 0 by decide] at e
  rw [e]
  show k ≤ 1 * 482 + 0
  omega
end Go.Proofs.Ytlnpcbofebppcab
