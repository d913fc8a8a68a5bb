/-
  What Advance works out, as plain facts; no condition.
-/
import Derived.Test.YtlnpcbofebppcabQMath2
set_option linter.unusedSimpArgs false
set_option linter.unusedVariables false
namespace Go.Proofs.Ytlnpcbofebppcab
open Go.RowKit Classical
theorem cT_bd (x : Int) (h0 : 0 ≤ x) : 0 ≤ cT x ∧ cT x ≤ x + 482 := by
  refine ⟨cT_nonneg x h0, ?_⟩
  unfold cT
  have hF := cF_bd (x % 178683 % 89342) (by omega) (by omega)
  have h1 : x % 178683 / 89342 * 241 ≤ 241 := by omega
  have h2 : x / 178683 * 482 ≤ x := by omega
  have h3 : x / 178683 * 482 + 241 * (x % 178683 / 89342) ≤ x + 241 := by omega
  omega
/-- Whole rounds may be left out, as long as one stays. -/
theorem Rs.mv_less {r : Rs} (d q : Int) (hd : 89342 ≤ d) (hq : 0 ≤ q) : r.mv (d + q * r.pair) = r.mv d := by
  have e : r.at_ (d + q * r.pair) = r.at_ d := by
    unfold Rs.at_ Rs.pair
    split <;> omega
  have hb : 0 ≤ r.at_ d % 89342 ∧ r.at_ d % 89342 < 89342 := by omega
  have hp : 0 ≤ q * r.pair := by unfold Rs.pair; split <;> omega
  unfold Rs.mv
  rw [e, Rs.mk.injEq]
  refine ⟨rfl, rfl, rfl, ?_, rfl, rfl, rfl⟩
  have h1 : decide ((if r.hold = true then 2 else 1) ≤ d + q * r.pair - (r.at_ d % 89342 - 82182)) = true := decide_eq_true (by split <;> omega)
  have h2 : decide ((if r.hold = true then 2 else 1) ≤ d - (r.at_ d % 89342 - 82182)) = true := decide_eq_true (by split <;> omega)
  rw [h1, h2]
/-- n cycles, some rounds of them left out. -/
theorem Rs.adv_code {r : Rs} (v : r.V) (n R : Int) (hn : 1 ≤ n) (hR : 0 ≤ R) (h : R = 0 ∨ r.pair ≤ n - R * r.pair) : r.mv (3 * (n - R * r.pair)) = r.dn (3 * n.toNat) := by
  have hq : r.pair = 178683 ∨ r.pair = 178684 := by unfold Rs.pair; split <;> simp
  have e1 : r.dn (3 * n.toNat) = r.mv (3 * n) := by
    have := Rs.dn_eq v (3 * n) (by omega)
    rwa [show (3 * n).toNat = 3 * n.toNat by omega] at this
  rw [e1]
  rcases h with rfl | h
  · rw [show 3 * (n - 0 * r.pair) = 3 * n by omega]
  · have e2 : 3 * n = 3 * (n - R * r.pair) + (3 * R) * r.pair := by
      rcases hq with hq | hq <;> rw [hq] <;> omega
    conv => rhs; rw [e2]
    exact (Rs.mv_less _ (3 * R) (by rcases hq with hq | hq <;> rw [hq] at h ⊢ <;> omega) (by omega)).symm
theorem Rs.advK_code {r : Rs} (v : r.V) (hd : r.draw = true) (n R : Int) (hn : 1 ≤ n) : R * 3 * 482 + cT (r.pp + 3 * (n - R * 178683)) - cT r.pp = r.ck (3 * n.toNat) := by
  rw [Rs.ck_eq v hd]
  have e : r.pp + ((3 * n.toNat : Nat) : Int) = r.pp + 3 * (n - R * 178683) + 178683 * (3 * R) := by omega
  rw [e, cT_per]
  omega
end Go.Proofs.Ytlnpcbofebppcab
