/-
  Cycles add up, as plain facts; no condition.
-/
import Derived.Test.YtlnpcbofebppcabQFrm
set_option linter.unusedSimpArgs false
set_option linter.unusedVariables false
namespace Go.Proofs.Ytlnpcbofebppcab
open Go.RowKit Classical
theorem Rs.kn_bd {r : Rs} (v : r.V) : ∀ n : Nat, 0 ≤ r.ck (3 * n) ∧ r.ck (3 * n) ≤ n
  | 0 => ⟨Int.le_refl 0, Int.le_refl 0⟩
  | n + 1 => by
    have h1 := Rs.kn_bd v n
    have h2 := Rs.ck_three (Rs.dn_v v (3 * n))
    have e : r.ck (3 * (n + 1)) = r.ck (3 * n) + (r.dn (3 * n)).ck 3 := Rs.ck_add r (3 * n) 3
    rw [e]
    omega
theorem Rs.adv_val {r : Rs} (v : r.V) (n : Int) : r.adv n = r.dn (3 * n.toNat) ∧ r.advK n = r.ck (3 * n.toNat) := by
  have h := (Rs.valid_iff r).2 v
  unfold Rs.adv Rs.advK
  rw [if_pos h, if_pos h]
  exact ⟨rfl, rfl⟩
theorem Rs.adv_v {r : Rs} (v : r.V) (n : Int) : (r.adv n).V := by rw [(Rs.adv_val v n).1]; exact Rs.dn_v v _
theorem Rs.adv_add {r : Rs} (v : r.V) (a b : Int) (ha : 0 ≤ a) (hb : 0 ≤ b) : (r.adv a).adv b = r.adv (a + b) ∧ r.advK a + (r.adv a).advK b = r.advK (a + b) := by
  have e : 3 * (a + b).toNat = 3 * a.toNat + 3 * b.toNat := by omega
  obtain ⟨h1, h2⟩ := Rs.adv_val v a
  obtain ⟨h3, h4⟩ := Rs.adv_val (Rs.adv_v v a) b
  obtain ⟨h5, h6⟩ := Rs.adv_val v (a + b)
  rw [h3, h4, h5, h6, h1, h2, e]
  exact ⟨(Rs.dn_add _ _ _).symm, (Rs.ck_add _ _ _).symm⟩
theorem Rs.advK_bd {r : Rs} (v : r.V) (n : Int) (h : 0 ≤ n) : 0 ≤ r.advK n ∧ r.advK n ≤ n := by
  have := Rs.kn_bd v n.toNat
  rw [(Rs.adv_val v n).2]
  omega
theorem Rs.moves {r : Rs} (v : r.V) : (r.adv 1).line = r.line → (r.adv 1).dot ≠ r.dot := by
  have e : r.adv 1 = r.mv 3 := Rs.adv_mv v 1 (by omega)
  obtain ⟨f1, f2, -, -⟩ := Rs.mv_fields r 3
  have hl := Rs.pl_bd v
  have len2 : r.len = 89341 ∨ r.len = 89342 := by unfold Rs.len; split <;> simp
  have hn := Rs.at_near v 3 (by omega) (by omega)
  have h0 := Rs.pl_of v
  obtain ⟨h1, h2, h3, h4, -, -⟩ := v
  rw [e, f1, f2, hn]
  intro h5 h6
  split at h5 <;> omega
theorem Rs.dots_three {r : Rs} (v : r.V) : r.dotV = r.dn 1 ∧ r.dotC = (r.dn 1).clk ∧ (r.dn 1).dotV = r.dn 2 ∧ (r.dn 1).dotC = (r.dn 2).clk ∧ (r.dn 2).dotV = r.dn 3 ∧ (r.dn 2).dotC = (r.dn 3).clk ∧ r.adv 1 = r.dn 3 ∧ r.advK 1 = (if (r.dn 1).clk = true then 1 else 0) + (if (r.dn 2).clk = true then 1 else 0) + (if (r.dn 3).clk = true then 1 else 0) := by
  have h1 := (Rs.valid_iff r).2 v
  have h2 := (Rs.valid_iff _).2 (Rs.dn_v v 1)
  have h3 := (Rs.valid_iff _).2 (Rs.dn_v v 2)
  refine ⟨?_, ?_, ?_, ?_, ?_, ?_, (Rs.adv_val v 1).1, ?_⟩
  · unfold Rs.dotV; rw [if_pos h1]; rfl
  · unfold Rs.dotC; rw [h1]; rfl
  · unfold Rs.dotV; rw [if_pos h2]; rfl
  · unfold Rs.dotC; rw [h2]; rfl
  · unfold Rs.dotV; rw [if_pos h3]; rfl
  · unfold Rs.dotC; rw [h3]; rfl
  · rw [(Rs.adv_val v 1).2]
    show 0 + (if (r.dn 1).clk = true then 1 else 0) + (if (r.dn 2).clk = true then 1 else 0) + (if (r.dn 3).clk = true then 1 else 0) = (_ : Int)
    omega
end Go.Proofs.Ytlnpcbofebppcab
