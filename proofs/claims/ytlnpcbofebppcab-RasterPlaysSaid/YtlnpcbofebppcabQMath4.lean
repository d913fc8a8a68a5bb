/-
  What the document's Advance works out, as plain facts; no condition.
-/
import Derived.Test.YtlnpcbofebppcabQMath3
set_option linter.unusedSimpArgs false
set_option linter.unusedVariables false
namespace Go.Proofs.Ytlnpcbofebppcab
open Go.RowKit Classical
theorem Rs.ck_bd (r : Rs) : ∀ n : Nat, 0 ≤ r.ck n ∧ r.ck n ≤ n
  | 0 => ⟨Int.le_refl 0, Int.le_refl 0⟩
  | n + 1 => by
    have := Rs.ck_bd r n
    show 0 ≤ r.ck n + _ ∧ r.ck n + _ ≤ _
    split <;> omega
theorem Rs.dn_far {r : Rs} (v : r.V) (m q : Int) (hm : 29781 ≤ m) (hq : 0 ≤ q) : r.dn (3 * (m + q * r.pair).toNat) = r.dn (3 * m.toNat) := by
  have hp : 0 ≤ q * r.pair := by unfold Rs.pair; split <;> omega
  have e1 := Rs.dn_eq v (3 * m) (by omega)
  have e2 := Rs.dn_eq v (3 * (m + q * r.pair)) (by omega)
  rw [show (3 * m).toNat = 3 * m.toNat by omega] at e1
  rw [show (3 * (m + q * r.pair)).toNat = 3 * (m + q * r.pair).toNat by omega] at e2
  rw [e1, e2, show 3 * (m + q * r.pair) = 3 * m + (3 * q) * r.pair by rw [Int.mul_add, Int.mul_assoc]]
  exact Rs.mv_less _ _ (by omega) (by omega)
theorem Rs.dn_farD {r : Rs} (v : r.V) (hd : r.draw = true) (m q : Int) (hm : 29781 ≤ m) (hq : 0 ≤ q) : r.dn (3 * (m + q * 59561).toNat) = r.dn (3 * m.toNat) := by
  have ep : r.pair = 178683 := by unfold Rs.pair; rw [hd]; rfl
  have e1 := Rs.dn_eq v (3 * m) (by omega)
  have e2 := Rs.dn_eq v (3 * (m + q * 59561)) (by omega)
  rw [show (3 * m).toNat = 3 * m.toNat by omega] at e1
  rw [show (3 * (m + q * 59561)).toNat = 3 * (m + q * 59561).toNat by omega] at e2
  rw [e1, e2, show 3 * (m + q * 59561) = 3 * m + q * r.pair by rw [ep]; omega]
  exact Rs.mv_less _ _ (by omega) (by omega)
theorem Rs.ck_farD {r : Rs} (v : r.V) (hd : r.draw = true) (m q : Int) (hm : 0 ≤ m) (hq : 0 ≤ q) : r.ck (3 * (m + q * 59561).toNat) = q * 482 + r.ck (3 * m.toNat) := by
  rw [Rs.ck_eq v hd, Rs.ck_eq v hd, show r.pp + ((3 * (m + q * 59561).toNat : Nat) : Int) = r.pp + ((3 * m.toNat : Nat) : Int) + 178683 * q by omega, cT_per]
  omega
end Go.Proofs.Ytlnpcbofebppcab
