/-
  When a clock asks: Irq behind n cycles, by Next.
-/
import Derived.Test.YtjacadiaafcckabDoorTNext
import Derived.Test.YtjacadiaafcckabDoorTLawP
set_option linter.unusedSimpArgs false
set_option linter.unusedVariables false
namespace Go.Proofs.YtjacadiaafcckabDoor
open Go.RowKit Classical
theorem out_ask (c : Ck) : c.out.ctl / 2 % 2 = c.ctl / 2 % 2 := by
  unfold Ck.out; simp only; split <;> omega
theorem advT_ask (c : Ck) (m : Int) : (c.advT m).ctl / 2 % 2 = c.ctl / 2 % 2 := by
  have h := out_ask { c with pre := 0 }
  have h2 := out_ask (Ck.out { c with pre := 0 })
  simp only at h
  unfold Ck.advT
  split
  · rfl
  split
  · rfl
  split
  · exact h
  split
  · exact h2.trans h
  · exact h
theorem advT_flag (c : Ck) (m : Int) : (c.advT m).flag = (c.flag || (decide (c.ctl % 2 = 1) && decide (c.run ≤ m))) := by
  unfold Ck.advT
  by_cases h0 : c.ctl % 2 = 0
  · rw [if_pos h0, decide_eq_false (show ¬ c.ctl % 2 = 1 by omega), Bool.false_and, Bool.or_false]
  rw [if_neg h0, decide_eq_true (show c.ctl % 2 = 1 by omega), Bool.true_and]
  by_cases h1 : m < c.run
  · rw [if_pos h1, decide_eq_false (by omega), Bool.or_false]; rfl
  rw [if_neg h1, decide_eq_true (by omega), Bool.or_true]
  split
  · rfl
  split <;> rfl
/-- Whether the timer, the sequencer asks by then. -/
def Ck.tA (c : Ck) (m : Int) : Bool := decide (c.ctl % 2 = 1) && decide (c.ctl / 2 % 2 = 1) && decide (c.run ≤ m)
def Ck.sA (c : Ck) (m : Int) : Bool := c.asks && decide (c.toF ≤ m)
theorem irq_adv {c : Ck} (o : c.Ok) (hv : c.valid = true) (m : Int) (hm : 0 ≤ m) : (c.adv m).irq = (c.irq || (c.tA m || c.sA m)) := by
  have v := (Ck.valid_iff c).1 hv
  have hr := Ck.run_pos o.count.1 v.pre
  have ht := toF_bd c o
  by_cases h0 : m = 0
  · subst h0
    rw [Ck.adv_none (Int.le_refl 0)]
    unfold Ck.tA Ck.sA
    rw [decide_eq_false (show ¬ c.run ≤ 0 by omega), decide_eq_false (show ¬ c.toF ≤ 0 by omega)]
    simp
  · have e : c.adv m = (c.advT m).advS m := by unfold Ck.adv; rw [if_pos ⟨by omega, hv⟩]
    have hv' : ((c.advT m).advS m).valid = true := by rw [← e, (Ck.adv_ok o m).2, hv]
    rw [e]
    unfold Ck.irq
    rw [hv', hv]
    have e1 : ((c.advT m).advS m).frame = (c.frame || (c.asks && decide (c.toF ≤ m))) := by
      have q : (c.advT m).frame = c.frame ∧ (c.advT m).asks = c.asks ∧ (c.advT m).toF = c.toF := by
        unfold Ck.advT
        split
        · exact ⟨rfl, rfl, rfl⟩
        split
        · exact ⟨rfl, rfl, rfl⟩
        split
        · exact ⟨rfl, rfl, rfl⟩
        split <;> exact ⟨rfl, rfl, rfl⟩
      show ((c.advT m).frame || ((c.advT m).asks && decide ((c.advT m).toF ≤ m))) = _
      rw [q.1, q.2.1, q.2.2]
    have e2 : ((c.advT m).advS m).flag = (c.flag || (decide (c.ctl % 2 = 1) && decide (c.run ≤ m))) := advT_flag c m
    have e3 : ((c.advT m).advS m).ctl / 2 % 2 = c.ctl / 2 % 2 := advT_ask c m
    rw [e1, e2, e3]
    unfold Ck.tA Ck.sA
    cases c.frame <;> cases c.flag <;> cases c.asks <;> cases decide (c.ctl / 2 % 2 = 1) <;> cases decide (c.ctl % 2 = 1) <;> cases decide (c.run ≤ m) <;> cases decide (c.toF ≤ m) <;> rfl
theorem irq_invalid {c : Ck} (hv : c.valid = false) : c.irq = false := by unfold Ck.irq; rw [hv]; rfl
theorem adv_invalid {c : Ck} (hv : c.valid = false) (m : Int) : c.adv m = c := by unfold Ck.adv; rw [if_neg (by rw [hv]; simp)]
/-- What Next tells. -/
theorem nxt_never {c : Ck} (o : c.Ok) (h : c.nxt = 4611686018427387904) : c.irq = false ∧ ∀ m, 0 ≤ m → (c.adv m).irq = false := by
  cases hv : c.valid
  · exact ⟨irq_invalid hv, fun m _ => by rw [adv_invalid hv]; exact irq_invalid hv⟩
  have ht := toF_bd c o
  have hr := run_le c o
  unfold Ck.nxt at h
  rw [if_neg (by rw [hv]; decide)] at h
  cases hi : c.irq
  · rw [if_neg (by rw [hi]; decide)] at h
    refine ⟨rfl, fun m hm => ?_⟩
    rw [irq_adv o hv m hm, hi]
    unfold Ck.nT Ck.nS at h
    unfold Ck.tA Ck.sA
    by_cases h1 : c.ctl % 2 = 1 ∧ c.ctl / 2 % 2 = 1
    · rw [if_pos h1] at h; split at h <;> omega
    rw [if_neg h1] at h
    by_cases h2 : c.asks = true
    · rw [if_pos h2] at h; omega
    have h3 : (decide (c.ctl % 2 = 1) && decide (c.ctl / 2 % 2 = 1)) = false := by
      rw [← Bool.decide_and]; exact decide_eq_false h1
    rw [h3, show c.asks = false by cases hq : c.asks <;> simp_all]
    rfl
  · rw [if_pos hi] at h; omega
theorem nxt_some {c : Ck} (o : c.Ok) (h : ¬ c.nxt = 4611686018427387904) : c.valid = true ∧ 0 ≤ c.nxt ∧ c.nxt ≤ 16777216 ∧ (∀ m, c.nxt ≤ m → (c.adv m).irq = true) ∧ ∀ m, 0 ≤ m → m < c.nxt → (c.adv m).irq = false := by
  cases hv : c.valid
  · exact absurd (by unfold Ck.nxt; rw [if_pos hv]) h
  have v := (Ck.valid_iff c).1 hv
  have hrp := Ck.run_pos o.count.1 v.pre
  have ht := toF_bd c o
  have hr := run_le c o
  unfold Ck.nxt at h ⊢
  rw [if_neg (by rw [hv]; decide)] at h ⊢
  rcases (show c.irq = false ∨ c.irq = true by cases c.irq <;> simp) with hi | hi
  · rw [if_neg (by rw [hi]; decide)] at h ⊢
    unfold Ck.nT Ck.nS at h ⊢
    by_cases h1 : c.ctl % 2 = 1 ∧ c.ctl / 2 % 2 = 1
    · rw [if_pos h1] at h ⊢
      by_cases h2 : c.asks = true
      · rw [if_pos h2] at h ⊢
        refine ⟨rfl, by omega, by omega, fun m hm => ?_, fun m h0 hm => ?_⟩
        · rw [irq_adv o hv m (by omega), hi]
          unfold Ck.tA Ck.sA
          rw [decide_eq_true h1.1, decide_eq_true h1.2, h2]
          by_cases q : c.run ≤ m
          · rw [decide_eq_true q]; rfl
          · rw [decide_eq_true (show c.toF ≤ m by omega)]; simp
        · rw [irq_adv o hv m h0, hi]
          unfold Ck.tA Ck.sA
          rw [decide_eq_false (show ¬ c.run ≤ m by omega), decide_eq_false (show ¬ c.toF ≤ m by omega)]
          simp
      · rw [if_neg h2] at h ⊢
        have h2' : c.asks = false := by cases hq : c.asks <;> simp_all
        refine ⟨rfl, by omega, by omega, fun m hm => ?_, fun m h0 hm => ?_⟩
        · rw [irq_adv o hv m (by omega), hi]
          unfold Ck.tA Ck.sA
          rw [decide_eq_true h1.1, decide_eq_true h1.2, decide_eq_true (show c.run ≤ m by omega)]; rfl
        · rw [irq_adv o hv m h0, hi]
          unfold Ck.tA Ck.sA
          rw [decide_eq_false (show ¬ c.run ≤ m by omega), h2']
          simp
    · rw [if_neg h1] at h ⊢
      have h3 : (decide (c.ctl % 2 = 1) && decide (c.ctl / 2 % 2 = 1)) = false := by
        rw [← Bool.decide_and]; exact decide_eq_false h1
      by_cases h2 : c.asks = true
      · rw [if_pos h2] at h ⊢
        refine ⟨rfl, by omega, by omega, fun m hm => ?_, fun m h0 hm => ?_⟩
        · rw [irq_adv o hv m (by omega), hi]
          unfold Ck.tA Ck.sA
          rw [h3, h2, decide_eq_true (show c.toF ≤ m by omega)]; rfl
        · rw [irq_adv o hv m h0, hi]
          unfold Ck.tA Ck.sA
          rw [h3, decide_eq_false (show ¬ c.toF ≤ m by omega)]
          simp
      · rw [if_neg h2] at h
        exact absurd (by omega) h
  · rw [if_pos hi]
    refine ⟨rfl, by omega, by omega, fun m hm => ?_, fun m h0 hm => by omega⟩
    rw [irq_adv o hv m hm, hi]; rfl
end Go.Proofs.YtjacadiaafcckabDoor
