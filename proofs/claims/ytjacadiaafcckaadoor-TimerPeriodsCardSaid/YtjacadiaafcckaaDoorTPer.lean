/-
  A timer that has been started: its periods.
-/
import Derived.Test.YtjacadiaafcckaaDoorTStarted
import Derived.Test.YtjacadiaafcckaaDoorTAdv
import Derived.Test.YtjacadiaafcckaaDoorTIrq
set_option linter.unusedSimpArgs false
set_option linter.unusedVariables false
namespace Go.Proofs.YtjacadiaafcckaaDoor
open Go.RowKit Classical
theorem stC_dv (latch p : Int) (hp : 0 ≤ p ∧ p ≤ 3) : dv (stC latch p false).ctl = dv (8 * p) := by
  obtain ⟨h0, h1⟩ := hp
  rcases (show p = 0 ∨ p = 1 ∨ p = 2 ∨ p = 3 by omega) with rfl | rfl | rfl | rfl <;> rfl
theorem stC_ok (latch p : Int) (hl : 0 ≤ latch ∧ latch ≤ 65535) (hp : 0 ≤ p ∧ p ≤ 3) : (stC latch p false).Ok :=
  ⟨hl, hl, by show (0:Int) ≤ 0 ∧ (0:Int) ≤ 65535; decide, by show (0:Int) ≤ 0 ∧ (0:Int) ≤ 255; decide, by show 0 ≤ 3 + 8 * p + 0 ∧ 3 + 8 * p + 0 ≤ 255; omega, by show (0:Int) ≤ 0 ∧ (0:Int) ≤ 65535; decide, by show (0:Int) ≤ 0 ∧ (0:Int) ≤ 255; decide, by show (0:Int) ≤ 0 ∧ (0:Int) ≤ 255; decide⟩
theorem stC_valid (latch p : Int) (hp : 0 ≤ p ∧ p ≤ 3) : (stC latch p false).valid = true := by
  rw [Ck.valid_iff]
  exact ⟨by show 3 + 8 * p + 0 ≤ 31; omega, by show (0 : Int) < dv (stC latch p false).ctl; have := dv_pos (stC latch p false).ctl; omega, by show (0:Int) ≤ 37281; decide, by show (0:Int) ≤ 4; decide, by show (0:Int) ≤ 63; decide, fun h => Bool.noConfusion h, fun h => Bool.noConfusion h⟩
/-- What the timer's fields are behind k periods and j cycles. -/
structure Per (c : Ck) (latch p d k j : Int) : Prop where
  la : c.latch = latch
  co : c.count = latch - j / d
  pr : c.pre = j % d
  ct : c.ctl = 3 + 8 * p
  fg : c.flag = decide (1 ≤ k)
  ov : c.over = decide (2 ≤ k)
theorem per_advT (latch p d k j : Int) (hl : 0 ≤ latch ∧ latch ≤ 65535) (hp : 0 ≤ p ∧ p ≤ 3) (hd : d = dv (8 * p)) (k0 : 0 ≤ k) (j0 : 0 ≤ j) (j1 : j < (latch + 1) * d) :
    Per ((stC latch p false).advT (k * ((latch + 1) * d) + j)) latch p d k j := by
  have e := stC_dv latch p hp
  rw [← hd] at e
  obtain ⟨s, hs⟩ : ∃ s, s = stC latch p false := ⟨_, rfl⟩
  rw [← hs] at e ⊢
  have c0 : s.ctl = 3 + 8 * p := by rw [hs]; show 3 + 8 * p + 0 = _; omega
  have cc : s.count = latch := by rw [hs]; rfl
  have cl : s.latch = latch := by rw [hs]; rfl
  have cp : s.pre = 0 := by rw [hs]; rfl
  have cf : s.flag = false := by rw [hs]; rfl
  have co : s.over = false := by rw [hs]; rfl
  have hr : s.run = (latch + 1) * d := by unfold Ck.run; rw [e, cc, cp]; omega
  generalize hP : (latch + 1) * d = P at *
  have s0 : ({ s with pre := 0 } : Ck) = s := by apply Ck.ext <;> simp [cp]
  have so : s.out.ctl = s.ctl := by unfold Ck.out; rw [if_neg (by rw [c0]; omega)]
  have sr : s.out.run = P := by unfold Ck.run; rw [so, e, show s.out.count = latch from cl, show s.out.pre = 0 from cp]; omega
  have sor : s.out.out.ctl = s.ctl := by unfold Ck.out; simp only; rw [if_neg (by rw [if_neg (by rw [c0]; omega), c0]; omega), if_neg (by rw [c0]; omega)]
  unfold Ck.advT
  rw [if_neg (by rw [c0]; omega), hr, s0, so, sr]
  have dd : ∀ x : Ck, x.ctl = s.ctl → x.count = latch → x.pre = 0 → (x.down j).count = latch - j / d ∧ (x.down j).pre = j % d := fun x h1 h2 h3 => by
    unfold Ck.down
    simp only
    rw [h1, h2, h3, e, Int.zero_add]
    exact ⟨rfl, rfl⟩
  by_cases hk0 : k = 0
  · subst hk0
    rw [if_pos (by omega), Int.zero_mul, Int.zero_add]
    have q := dd s rfl cc cp
    exact ⟨cl, q.1, q.2, c0, by rw [show (s.down j).flag = s.flag from rfl, cf]; rfl, by rw [show (s.down j).over = s.over from rfl, co]; rfl⟩
  have hPp : 0 < P := by omega
  have hk1 : P ≤ k * P := by
    have : 1 * P ≤ k * P := Int.mul_le_mul_of_nonneg_right (by omega) (by omega)
    omega
  rw [if_neg (by omega), if_neg (by rw [c0]; omega)]
  have hm : (k * P + j - P) % P = j := by
    rw [show k * P + j - P = j + (k - 1) * P by rw [Int.sub_mul, Int.one_mul]; omega, Int.add_mul_emod_self_right, Int.emod_eq_of_lt j0 j1]
  rw [hm]
  by_cases hk2 : k = 1
  · subst hk2
    rw [if_neg (by omega)]
    have q := dd s.out so cl cp
    exact ⟨cl, q.1, q.2, so.trans c0, rfl, by rw [show (s.out.down j).over = (s.over || s.flag) from rfl, co, cf]; rfl⟩
  · have : 2 * P ≤ k * P := Int.mul_le_mul_of_nonneg_right (by omega) (by omega)
    rw [if_pos (by omega)]
    have q := dd s.out.out sor cl cp
    refine ⟨cl, q.1, q.2, sor.trans c0, by rw [decide_eq_true (by omega)]; rfl, by rw [show (s.out.out.down j).over = ((s.over || s.flag) || true) from rfl, decide_eq_true (by omega), Bool.or_true]⟩
theorem per_adv (latch p d k j : Int) (hl : 0 ≤ latch ∧ latch ≤ 65535) (hp : 0 ≤ p ∧ p ≤ 3) (hd : d = dv (8 * p)) (k0 : 0 ≤ k) (j0 : 0 ≤ j) (j1 : j < (latch + 1) * d) :
    Per ((stC latch p false).adv (k * ((latch + 1) * d) + j)) latch p d k j ∧ (1 ≤ k → ((stC latch p false).adv (k * ((latch + 1) * d) + j)).irq = true) := by
  have h := per_advT latch p d k j hl hp hd k0 j0 j1
  have hv := stC_valid latch p hp
  have o := stC_ok latch p hl hp
  have hPk : 0 ≤ k * ((latch + 1) * d) := Int.mul_nonneg k0 (by omega)
  generalize hn : k * ((latch + 1) * d) + j = n at *
  have n0 : 0 ≤ n := by omega
  have hP : Per ((stC latch p false).adv n) latch p d k j := by
    by_cases hz : n = 0
    · subst hz
      rw [Ck.advT_zero o ((Ck.valid_iff _).1 hv)] at h
      rw [Ck.adv_none (Int.le_refl 0)]
      exact h
    · have e : (stC latch p false).adv n = ((stC latch p false).advT n).advS n := by unfold Ck.adv; rw [if_pos ⟨by omega, hv⟩]
      rw [e]
      exact ⟨h.la, h.co, h.pr, h.ct, h.fg, h.ov⟩
  refine ⟨hP, fun hk => ?_⟩
  unfold Ck.irq
  rw [(Ck.adv_ok o n).2, hv, hP.fg, hP.ct, decide_eq_true hk, decide_eq_true (show (3 + 8 * p) / 2 % 2 = 1 by omega)]
  simp
end Go.Proofs.YtjacadiaafcckaaDoor
