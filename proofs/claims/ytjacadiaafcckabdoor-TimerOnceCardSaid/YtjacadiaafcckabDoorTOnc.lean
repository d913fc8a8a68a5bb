/-
  A timer that has been started with ONCE.
-/
import Derived.Test.YtjacadiaafcckabDoorTStartedT
import Derived.Test.YtjacadiaafcckabDoorTAdv
import Derived.Test.YtjacadiaafcckabDoorTIrq
set_option linter.unusedSimpArgs false
set_option linter.unusedVariables false
namespace Go.Proofs.YtjacadiaafcckabDoor
open Go.RowKit Classical
theorem stT_dv (latch p : Int) (hp : 0 ≤ p ∧ p ≤ 3) : dv (stC latch p true).ctl = dv (8 * p) := by
  obtain ⟨h0, h1⟩ := hp
  rcases (show p = 0 ∨ p = 1 ∨ p = 2 ∨ p = 3 by omega) with rfl | rfl | rfl | rfl <;> rfl
theorem stT_ok (latch p : Int) (hl : 0 ≤ latch ∧ latch ≤ 65535) (hp : 0 ≤ p ∧ p ≤ 3) : (stC latch p true).Ok :=
  ⟨hl, hl, by show (0:Int) ≤ 0 ∧ (0:Int) ≤ 65535; decide, by show (0:Int) ≤ 0 ∧ (0:Int) ≤ 255; decide, by show 0 ≤ 3 + 8 * p + 4 ∧ 3 + 8 * p + 4 ≤ 255; omega, by show (0:Int) ≤ 0 ∧ (0:Int) ≤ 65535; decide, by show (0:Int) ≤ 0 ∧ (0:Int) ≤ 255; decide, by show (0:Int) ≤ 0 ∧ (0:Int) ≤ 255; decide⟩
theorem stT_valid (latch p : Int) (hp : 0 ≤ p ∧ p ≤ 3) : (stC latch p true).valid = true := by
  rw [Ck.valid_iff]
  exact ⟨by show 3 + 8 * p + 4 ≤ 31; omega, by show (0 : Int) < dv (stC latch p true).ctl; have := dv_pos (stC latch p true).ctl; omega, by show (0:Int) ≤ 37281; decide, by show (0:Int) ≤ 4; decide, by show (0:Int) ≤ 63; decide, fun h => Bool.noConfusion h, fun h => Bool.noConfusion h⟩
/-- What the timer's fields are. -/
structure Onc (c : Ck) (count pre ctl : Int) (flag : Bool) : Prop where
  co : c.count = count
  pr : c.pre = pre
  ct : c.ctl = ctl
  fg : c.flag = flag
  ov : c.over = false
theorem onc_advT (latch p d n : Int) (hp : 0 ≤ p ∧ p ≤ 3) (hd : d = dv (8 * p)) :
    (n < (latch + 1) * d → Onc ((stC latch p true).advT n) (latch - n / d) (n % d) (7 + 8 * p) false) ∧ (¬ n < (latch + 1) * d → Onc ((stC latch p true).advT n) latch 0 (6 + 8 * p) true) := by
  have e := stT_dv latch p hp
  rw [← hd] at e
  obtain ⟨s, hs⟩ : ∃ s, s = stC latch p true := ⟨_, rfl⟩
  rw [← hs] at e ⊢
  have c0 : s.ctl = 7 + 8 * p := by rw [hs]; show 3 + 8 * p + 4 = _; omega
  have cc : s.count = latch := by rw [hs]; rfl
  have cl : s.latch = latch := by rw [hs]; rfl
  have cp : s.pre = 0 := by rw [hs]; rfl
  have cf : s.flag = false := by rw [hs]; rfl
  have co : s.over = false := by rw [hs]; rfl
  have hr : s.run = (latch + 1) * d := by unfold Ck.run; rw [e, cc, cp]; omega
  have s0 : ({ s with pre := 0 } : Ck) = s := by apply Ck.ext <;> simp [cp]
  have so : s.out.ctl = 6 + 8 * p := by unfold Ck.out; simp only; rw [if_pos (by rw [c0]; omega), c0]; omega
  unfold Ck.advT
  rw [if_neg (by rw [c0]; omega), hr, s0]
  refine ⟨fun h => ?_, fun h => ?_⟩
  · rw [if_pos h]
    exact ⟨by show s.count - (s.pre + n) / dv s.ctl = _; rw [cc, cp, e, Int.zero_add], by show (s.pre + n) % dv s.ctl = _; rw [cp, e, Int.zero_add], c0, cf, co⟩
  · rw [if_neg h, if_pos (by rw [so]; omega)]
    exact ⟨cl, cp, so, rfl, by show (s.over || s.flag) = false; rw [co, cf]; rfl⟩
theorem onc_adv (latch p d n : Int) (hl : 0 ≤ latch ∧ latch ≤ 65535) (hp : 0 ≤ p ∧ p ≤ 3) (hd : d = dv (8 * p)) (n0 : 0 ≤ n) :
    (n < (latch + 1) * d → Onc ((stC latch p true).adv n) (latch - n / d) (n % d) (7 + 8 * p) false) ∧ (¬ n < (latch + 1) * d → Onc ((stC latch p true).adv n) latch 0 (6 + 8 * p) true ∧ ((stC latch p true).adv n).irq = true) := by
  have h := onc_advT latch p d n hp hd
  have hv := stT_valid latch p hp
  have o := stT_ok latch p hl hp
  have hE : ∀ a b c f, Onc ((stC latch p true).advT n) a b c f → Onc ((stC latch p true).adv n) a b c f := fun a b c f q => by
    by_cases hz : n = 0
    · subst hz
      rw [Ck.advT_zero o ((Ck.valid_iff _).1 hv)] at q
      rw [Ck.adv_none (Int.le_refl 0)]
      exact q
    · have e : (stC latch p true).adv n = ((stC latch p true).advT n).advS n := by unfold Ck.adv; rw [if_pos ⟨by omega, hv⟩]
      rw [e]
      exact ⟨q.co, q.pr, q.ct, q.fg, q.ov⟩
  refine ⟨fun q => hE _ _ _ _ (h.1 q), fun q => ⟨hE _ _ _ _ (h.2 q), ?_⟩⟩
  have r := hE _ _ _ _ (h.2 q)
  unfold Ck.irq
  rw [(Ck.adv_ok o n).2, hv, r.fg, r.ct, decide_eq_true (show (6 + 8 * p) / 2 % 2 = 1 by omega)]
  simp
end Go.Proofs.YtjacadiaafcckabDoor
