/-
  A vertical blank's length, as plain facts; no condition.
-/
import Derived.Test.YtlnpcbofebppcabQAdds
set_option linter.unusedSimpArgs false
set_option linter.unusedVariables false
namespace Go.Proofs.Ytlnpcbofebppcab
open Go.RowKit Classical
theorem Rs.adv_nx {r : Rs} (v : r.V) : (r.adv r.nx).vbl = !r.vbl ∧ (r.adv r.nx).nmi = r.nmi ∧ (r.adv r.nx).draw = r.draw := by
  rw [(Rs.adv_val v _).1]
  exact ⟨Rs.nx_at v, (Rs.dn_draw r _).2, (Rs.dn_draw r _).1⟩
theorem Rs.adv_pl {r : Rs} (v : r.V) (n : Int) (h : 1 ≤ n) : (r.adv n).pl = r.at_ (3 * n) % 89342 ∧ (r.adv n).hold = false := by
  rw [Rs.adv_mv v n h]
  exact ⟨(Rs.mv_pl r _).1, rfl⟩
theorem Rs.rise {r : Rs} (v : r.V) (hv : r.vbl = false) : 82182 ≤ (r.adv r.nx).pl ∧ (r.adv r.nx).pl ≤ 82184 := by
  have hp := Rs.nx_pos v
  have hl := Rs.pl_bd v
  obtain ⟨-, hh⟩ := v.pl_vbl
  have len2 : r.len = 89341 ∨ r.len = 89342 := by unfold Rs.len; split <;> simp
  have hx : (3 * r.nx) < 89341 + (r.len - r.pl) := by
    unfold Rs.nx
    rw [hv]
    simp only [if_false, reduceCtorEq]
    split <;> omega
  rw [(Rs.adv_pl v _ hp.1).1, Rs.at_near v _ (by omega) hx]
  unfold Rs.nx
  rw [hv]
  simp only [if_false, reduceCtorEq]
  cases h8 : r.hold <;> simp only [h8, and_true, and_false, if_false, reduceCtorEq, forall_const, false_implies] at hh ⊢
  · split <;> split <;> omega
  · split <;> omega
theorem Rs.fall {r : Rs} (v : r.V) (hv : r.vbl = true) (h0 : 82182 ≤ r.pl) (h1 : r.pl ≤ 82184) : (r.nx = 2273 ∨ r.nx = 2274) ∧ (r.nx + (r.adv r.nx).nx = 29780 ∨ r.nx + (r.adv r.nx).nx = 29781) := by
  have en : r.nx = (89002 - r.pl + 2) / 3 := by unfold Rs.nx; rw [if_pos hv]
  have h2 : r.nx = 2273 ∨ r.nx = 2274 := by omega
  refine ⟨h2, ?_⟩
  have hl := Rs.pl_bd v
  have len2 : r.len = 89341 ∨ r.len = 89342 := by unfold Rs.len; split <;> simp
  obtain ⟨ap, ah⟩ := Rs.adv_pl v r.nx (by omega)
  rw [Rs.at_near v _ (by omega) (by omega), if_pos (by omega)] at ap
  obtain ⟨av, -, -⟩ := Rs.adv_nx v
  rw [hv] at av
  have vs := Rs.adv_v v r.nx
  generalize r.adv r.nx = s at *
  have lens : s.len = 89341 ∨ s.len = 89342 := by unfold Rs.len; split <;> simp
  have es : s.nx = (s.len - s.pl + 82182 + 2) / 3 := by
    unfold Rs.nx
    rw [av]
    simp only [Bool.not_true, if_false, reduceCtorEq]
    rw [if_neg (by omega)]
  omega
theorem Rs.nextV_on {r : Rs} (v : r.V) (h : r.nmi = true) : r.nextV = r.nx := by unfold Rs.nextV; rw [if_pos ((Rs.valid_iff r).2 v), if_pos h]
theorem Rs.nmiL_on {r : Rs} (v : r.V) (h : r.nmi = true) : r.nmiL = r.vbl := by unfold Rs.nmiL; rw [(Rs.valid_iff r).2 v, h]; simp
end Go.Proofs.Ytlnpcbofebppcab
