/-
  What two and three frames come to, as plain facts; no condition.
-/
import Derived.Test.YtlnpcbofebppcabQMath5
set_option linter.unusedSimpArgs false
set_option linter.unusedVariables false
namespace Go.Proofs.Ytlnpcbofebppcab
open Go.RowKit Classical
theorem Rs.V.alter {r s : Rs} (v : r.V) (h1 : s.line = r.line) (h2 : s.dot = r.dot) (h3 : s.vbl = r.vbl) (h4 : s.hold = r.hold) : s.V :=
  ⟨h1 ▸ v.l0, h1 ▸ v.l1, h2 ▸ v.d0, h2 ▸ v.d1, fun h => by rw [h1, h2]; exact v.vbl (h3 ▸ h), fun h => by rw [h1, h2]; exact v.hold (h4 ▸ h)⟩
theorem Rs.adv_mv {r : Rs} (v : r.V) (n : Int) (h : 1 ≤ n) : r.adv n = r.mv (3 * n) := by
  unfold Rs.adv
  rw [if_pos ((Rs.valid_iff r).2 v)]
  have := Rs.dn_eq v (3 * n) (by omega)
  rwa [show (3 * n).toNat = 3 * n.toNat by omega] at this
theorem Rs.mv_fields (r : Rs) (n : Int) : (r.mv n).line = r.at_ n % 89342 / 341 ∧ (r.mv n).dot = r.at_ n % 89342 % 341 ∧ (r.mv n).odd = decide (89342 ≤ r.at_ n) ∧ (r.mv n).draw = r.draw := ⟨rfl, rfl, rfl, rfl⟩
theorem Rs.frames_drawn {r : Rs} (v : r.V) (hd : r.draw = true) (ho : r.line = 261 → r.dot = 340 → r.odd = false) : (r.adv 59561).line = r.line ∧ (r.adv 59561).dot = r.dot ∧ (r.adv 59561).odd = r.odd ∧ (r.adv 59561).draw = true ∧ r.advK 59561 = 482 := by
  have hp := Rs.pp_bd v
  have hl := Rs.pl_bd v
  have h0 := Rs.pl_of v
  have ep : r.pair = 178683 := by unfold Rs.pair; rw [hd]; rfl
  obtain ⟨h1, h2, h3, h4, -, -⟩ := id v
  have e : r.pl = r.line * 341 + r.dot := by
    rcases h0 with h | ⟨a, b, c, -, -⟩
    · exact h
    · rw [ho a b] at c; cases c
  have len2 : r.len = 89341 ∨ r.len = 89342 := by unfold Rs.len; split <;> simp
  have ea : r.at_ (3 * 59561) = r.pp := by unfold Rs.at_; rw [ep] at hp ⊢; omega
  rw [Rs.adv_mv v _ (by omega)]
  obtain ⟨f1, f2, f3, f4⟩ := Rs.mv_fields r (3 * 59561)
  rw [f1, f2, f3, f4, ea]
  unfold Rs.pp at *
  refine ⟨?_, ?_, ?_, hd, ?_⟩
  · cases h : r.odd <;> simp only [h, if_true, if_false, reduceCtorEq] at hp ⊢ <;> omega
  · cases h : r.odd <;> simp only [h, if_true, if_false, reduceCtorEq] at hp ⊢ <;> omega
  · cases h : r.odd <;> simp only [h, if_true, if_false, reduceCtorEq] at hp ⊢
    · exact decide_eq_false (by omega)
    · exact decide_eq_true (by omega)
  · unfold Rs.advK
    rw [if_pos ((Rs.valid_iff r).2 v)]
    have := Rs.ck_farD v hd 0 1 (by omega) (by omega)
    rw [show (0 + 1 * 59561 : Int) = 59561 by omega] at this
    rw [this]
    show 1 * 482 + 0 = (482 : Int)
    omega
theorem Rs.frames_blank {r : Rs} (v : r.V) (hd : r.draw = false) : (r.adv 89342).line = r.line ∧ (r.adv 89342).dot = r.dot ∧ (r.adv 89342).odd = !r.odd ∧ r.advK 89342 = 0 ∧ ((r.adv 59561).line = r.line → (r.adv 59561).dot ≠ r.dot) := by
  have hp := Rs.pp_bd v
  have hl := Rs.pl_bd v
  have h0 := Rs.pl_of v
  have ep : r.pair = 178684 := by unfold Rs.pair; rw [hd]; rfl
  have el : r.len = 89342 := by unfold Rs.len; rw [if_neg (by simp [hd])]
  obtain ⟨h1, h2, h3, h4, -, -⟩ := id v
  have e : r.pl = r.line * 341 + r.dot := by
    rcases h0 with h | ⟨a, b, c, d, -⟩
    · exact h
    · rw [hd] at d; cases d
  rw [Rs.adv_mv v 89342 (by omega), Rs.adv_mv v 59561 (by omega)]
  obtain ⟨f1, f2, f3, f4⟩ := Rs.mv_fields r (3 * 89342)
  obtain ⟨g1, g2, -, -⟩ := Rs.mv_fields r (3 * 59561)
  rw [f1, f2, f3, g1, g2]
  unfold Rs.at_
  rw [ep] at hp ⊢
  rw [el] at hl
  unfold Rs.pp at *
  refine ⟨?_, ?_, ?_, ?_, ?_⟩
  · cases h : r.odd <;> simp only [h, if_true, if_false, reduceCtorEq] at hp ⊢ <;> omega
  · cases h : r.odd <;> simp only [h, if_true, if_false, reduceCtorEq] at hp ⊢ <;> omega
  · cases h : r.odd <;> simp only [h, if_true, if_false, reduceCtorEq, Bool.not_true, Bool.not_false] at hp ⊢
    · exact decide_eq_true (by omega)
    · exact decide_eq_false (by omega)
  · unfold Rs.advK
    rw [if_pos ((Rs.valid_iff r).2 v)]
    exact Rs.ck_no hd _
  · intro h5 h6
    cases h : r.odd <;> simp only [h, if_true, if_false, reduceCtorEq] at hp h5 h6
    · generalize hA : (r.pl + 3 * 59561) % 178684 % 89342 = A at h5 h6
      have : A = r.pl := by omega
      omega
    · generalize hA : (89342 + r.pl + 3 * 59561) % 178684 % 89342 = A at h5 h6
      have : A = r.pl := by omega
      omega
end Go.Proofs.Ytlnpcbofebppcab
