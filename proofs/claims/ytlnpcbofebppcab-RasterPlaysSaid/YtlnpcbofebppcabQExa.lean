/-
  Next and After to the very cycle, as plain facts; no condition.
-/
import Derived.Test.YtlnpcbofebppcabQLin
set_option linter.unusedSimpArgs false
set_option linter.unusedVariables false
namespace Go.Proofs.Ytlnpcbofebppcab
open Go.RowKit Classical
theorem Rs.adv_succ {r : Rs} (v : r.V) (n : Int) (h : 1 ≤ n) : (r.adv (n - 1)).adv 1 = r.adv n ∧ r.advK (n - 1) + (r.adv (n - 1)).advK 1 = r.advK n := by
  have := Rs.adv_add v (n - 1) 1 (by omega) (by omega)
  rwa [show n - 1 + 1 = n by omega] at this
theorem Rs.adv_keeps {r : Rs} (v : r.V) (n : Int) : (r.adv n).nmi = r.nmi ∧ (r.adv n).draw = r.draw := by
  rw [(Rs.adv_val v n).1]
  exact ⟨(Rs.dn_draw r _).2, (Rs.dn_draw r _).1⟩
theorem Rs.nx_less {r : Rs} (v : r.V) : (r.adv (r.nx - 1)).vbl = r.vbl := by
  have hp := Rs.nx_pos v
  rw [(Rs.adv_val v _).1]
  exact Rs.nx_before v _ (by omega)
theorem Rs.af_exact {r : Rs} (v : r.V) (hd : r.draw = true) (k : Int) (hk : 1 ≤ k) : r.advK (r.af k - 1) = k - 1 ∧ (r.adv (r.af k - 1)).advK 1 = 1 := by
  have hp := Rs.af_pos v hd k hk
  obtain ⟨e1, e2⟩ := Rs.adv_succ v (r.af k) hp
  have h1 := Rs.af_iff v hd k hk (r.af k).toNat
  have h2 := Rs.af_iff v hd k hk (r.af k - 1).toNat
  rw [← (Rs.adv_val v (r.af k)).2] at h1
  rw [← (Rs.adv_val v (r.af k - 1)).2] at h2
  have h3 := Rs.advK_bd (Rs.adv_v v (r.af k - 1)) 1 (by omega)
  omega
theorem Rs.af_ub {r : Rs} (v : r.V) (hd : r.draw = true) (k : Int) (hk : 1 ≤ k) (hk2 : k ≤ 1073741824) : r.af k ≤ 200000000000 := by
  have hp := Rs.pp_bd v
  have ep : r.pair = 178683 := by unfold Rs.pair; rw [hd]; rfl
  rw [ep] at hp
  have hc := cT_bd r.pp hp.1
  have := cA_ub (cT r.pp + k) (by omega)
  unfold Rs.af
  omega
end Go.Proofs.Ytlnpcbofebppcab
