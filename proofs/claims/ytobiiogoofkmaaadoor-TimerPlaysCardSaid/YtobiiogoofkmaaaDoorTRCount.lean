/-
  The document's count; conditions: the numbers fit their kinds.
-/
import Derived.Test.YtobiiogoofkmaaaDoorTRead0
import Derived.Test.YtobiiogoofkmaaaDoorTRef
import Derived.Test.YtobiiogoofkmaaaDoorTIrq
set_option linter.unusedSimpArgs false
set_option linter.unusedVariables false
namespace Go.Proofs.YtobiiogoofkmaaaDoor
open Go.RowKit Classical
set_option maxHeartbeats 4000000 in
theorem rcount_0 (c : Ck) (w : World) (o : c.Ok) (v : c.V) (h1 : c.ctl % 2 = 0) :
    Calls Tryd.prog 40 #[.agg c.cells] w fun e w' => e = .returned (.agg (c).cells) ∧ Below w.heap.size w w' := by
  have o3 := o.pre
  have o5 := o.ctl
  have o2 := o.count
  have q0 := o2.1
  have q1 := o2.2
  have p0 := o3.1
  have p1 : c.pre ≤ 255 := by have := v.pre; have := dv_pos c.ctl; omega
  clear v
  obtain ⟨latch, count, pre, hold, ctl, flag, over, five, inh, frame, at_, wait, beats⟩ := c
  unfold Ck.cells
  simp only at *
  go_enter Tryd.func40, Tryd.ntmps40
  go_wp2
  refine bodyPost_ret (by simp [results, Tryd.results40, go_sem]) rfl ⟨rfl, ?_⟩
  exact below_a2 _ _ _
set_option maxHeartbeats 4000000 in
theorem rcount_1 (c : Ck) (w : World) (o : c.Ok) (v : c.V) (h1 : ¬ c.ctl % 2 = 0) (h2 : c.pre + 1 < dv c.ctl) :
    Calls Tryd.prog 40 #[.agg c.cells] w fun e w' => e = .returned (.agg ({ c with pre := c.pre + 1 }).cells) ∧ Below w.heap.size w w' := by
  have o3 := o.pre
  have o5 := o.ctl
  have o2 := o.count
  have q0 := o2.1
  have q1 := o2.2
  have p0 := o3.1
  have p1 : c.pre ≤ 255 := by have := v.pre; have := dv_pos c.ctl; omega
  clear v
  obtain ⟨latch, count, pre, hold, ctl, flag, over, five, inh, frame, at_, wait, beats⟩ := c
  unfold Ck.cells
  simp only at *
  go_enter Tryd.func40, Tryd.ntmps40
  go_wp2
  go_quiet ((go_at_call 30; exact Calls.quiet_of_same (rdiv_any _ _ o5.1 o5.2)))
  rw [drewN_alloc, drewN_alloc]; have b2 : Below w.heap.size w (w.drewN nq) := below_draws (Below.refl _ _) nq; have z2 : w.heap.size ≤ (w.drewN nq).heap.size := Nat.le_refl _; rw [drewN_size w nq]; generalize w.drewN nq = w3 at *
  go_wp2
  refine bodyPost_ret (by simp [results, Tryd.results40, go_sem]) rfl ⟨rfl, ?_⟩
  exact below_c2 b2 z2 _ _
set_option maxHeartbeats 4000000 in
theorem rcount_2 (c : Ck) (w : World) (o : c.Ok) (v : c.V) (h1 : ¬ c.ctl % 2 = 0) (h2 : ¬ c.pre + 1 < dv c.ctl) (h3 : 0 < c.count) :
    Calls Tryd.prog 40 #[.agg c.cells] w fun e w' => e = .returned (.agg ({ c with pre := 0, count := c.count - 1 }).cells) ∧ Below w.heap.size w w' := by
  have o3 := o.pre
  have o5 := o.ctl
  have o2 := o.count
  have q0 := o2.1
  have q1 := o2.2
  have p0 := o3.1
  have p1 : c.pre ≤ 255 := by have := v.pre; have := dv_pos c.ctl; omega
  clear v
  obtain ⟨latch, count, pre, hold, ctl, flag, over, five, inh, frame, at_, wait, beats⟩ := c
  unfold Ck.cells
  simp only at *
  go_enter Tryd.func40, Tryd.ntmps40
  go_wp2
  go_quiet ((go_at_call 30; exact Calls.quiet_of_same (rdiv_any _ _ o5.1 o5.2)))
  rw [drewN_alloc, drewN_alloc]; have b2 : Below w.heap.size w (w.drewN nq) := below_draws (Below.refl _ _) nq; have z2 : w.heap.size ≤ (w.drewN nq).heap.size := Nat.le_refl _; rw [drewN_size w nq]; generalize w.drewN nq = w3 at *
  go_wp2
  refine bodyPost_ret (by simp [results, Tryd.results40, go_sem]) rfl ⟨rfl, ?_⟩
  exact below_c2 b2 z2 _ _
set_option maxHeartbeats 4000000 in
theorem rcount_3t1 (c : Ck) (w : World) (o : c.Ok) (v : c.V) (h1 : ¬ c.ctl % 2 = 0) (h2 : ¬ c.pre + 1 < dv c.ctl) (h3 : c.count = 0) (hf : c.flag = true) (h4 : c.ctl / 4 % 2 = 1) :
    Calls Tryd.prog 40 #[.agg c.cells] w fun e w' => e = .returned (.agg ({ c with pre := 0, over := true, flag := true, count := c.latch, ctl := c.ctl - 1 }).cells) ∧ Below w.heap.size w w' := by
  have o3 := o.pre
  have o5 := o.ctl
  have o2 := o.count
  have q0 := o2.1
  have q1 := o2.2
  have p0 := o3.1
  have p1 : c.pre ≤ 255 := by have := v.pre; have := dv_pos c.ctl; omega
  clear v
  obtain ⟨latch, count, pre, hold, ctl, flag, over, five, inh, frame, at_, wait, beats⟩ := c
  unfold Ck.cells
  simp only at *
  subst hf h3
  go_enter Tryd.func40, Tryd.ntmps40
  go_wp2
  go_quiet ((go_at_call 30; exact Calls.quiet_of_same (rdiv_any _ _ o5.1 o5.2)))
  rw [drewN_alloc, drewN_alloc]; have b2 : Below w.heap.size w (w.drewN nq) := below_draws (Below.refl _ _) nq; have z2 : w.heap.size ≤ (w.drewN nq).heap.size := Nat.le_refl _; rw [drewN_size w nq]; generalize w.drewN nq = w3 at *
  go_wp2
  refine bodyPost_ret (by simp [results, Tryd.results40, go_sem]) rfl ⟨rfl, ?_⟩
  exact below_c2 b2 z2 _ _
set_option maxHeartbeats 4000000 in
theorem rcount_3t0 (c : Ck) (w : World) (o : c.Ok) (v : c.V) (h1 : ¬ c.ctl % 2 = 0) (h2 : ¬ c.pre + 1 < dv c.ctl) (h3 : c.count = 0) (hf : c.flag = true) (h4 : ¬ c.ctl / 4 % 2 = 1) :
    Calls Tryd.prog 40 #[.agg c.cells] w fun e w' => e = .returned (.agg ({ c with pre := 0, over := true, flag := true, count := c.latch }).cells) ∧ Below w.heap.size w w' := by
  have o3 := o.pre
  have o5 := o.ctl
  have o2 := o.count
  have q0 := o2.1
  have q1 := o2.2
  have p0 := o3.1
  have p1 : c.pre ≤ 255 := by have := v.pre; have := dv_pos c.ctl; omega
  clear v
  obtain ⟨latch, count, pre, hold, ctl, flag, over, five, inh, frame, at_, wait, beats⟩ := c
  unfold Ck.cells
  simp only at *
  subst hf h3
  go_enter Tryd.func40, Tryd.ntmps40
  go_wp2
  go_quiet ((go_at_call 30; exact Calls.quiet_of_same (rdiv_any _ _ o5.1 o5.2)))
  rw [drewN_alloc, drewN_alloc]; have b2 : Below w.heap.size w (w.drewN nq) := below_draws (Below.refl _ _) nq; have z2 : w.heap.size ≤ (w.drewN nq).heap.size := Nat.le_refl _; rw [drewN_size w nq]; generalize w.drewN nq = w3 at *
  go_wp2
  refine bodyPost_ret (by simp [results, Tryd.results40, go_sem]) rfl ⟨rfl, ?_⟩
  exact below_c2 b2 z2 _ _
set_option maxHeartbeats 4000000 in
theorem rcount_3f1 (c : Ck) (w : World) (o : c.Ok) (v : c.V) (h1 : ¬ c.ctl % 2 = 0) (h2 : ¬ c.pre + 1 < dv c.ctl) (h3 : c.count = 0) (hf : c.flag = false) (h4 : c.ctl / 4 % 2 = 1) :
    Calls Tryd.prog 40 #[.agg c.cells] w fun e w' => e = .returned (.agg ({ c with pre := 0, flag := true, count := c.latch, ctl := c.ctl - 1 }).cells) ∧ Below w.heap.size w w' := by
  have o3 := o.pre
  have o5 := o.ctl
  have o2 := o.count
  have q0 := o2.1
  have q1 := o2.2
  have p0 := o3.1
  have p1 : c.pre ≤ 255 := by have := v.pre; have := dv_pos c.ctl; omega
  clear v
  obtain ⟨latch, count, pre, hold, ctl, flag, over, five, inh, frame, at_, wait, beats⟩ := c
  unfold Ck.cells
  simp only at *
  subst hf h3
  go_enter Tryd.func40, Tryd.ntmps40
  go_wp2
  go_quiet ((go_at_call 30; exact Calls.quiet_of_same (rdiv_any _ _ o5.1 o5.2)))
  rw [drewN_alloc, drewN_alloc]; have b2 : Below w.heap.size w (w.drewN nq) := below_draws (Below.refl _ _) nq; have z2 : w.heap.size ≤ (w.drewN nq).heap.size := Nat.le_refl _; rw [drewN_size w nq]; generalize w.drewN nq = w3 at *
  go_wp2
  refine bodyPost_ret (by simp [results, Tryd.results40, go_sem]) rfl ⟨rfl, ?_⟩
  exact below_c2 b2 z2 _ _
set_option maxHeartbeats 4000000 in
theorem rcount_3f0 (c : Ck) (w : World) (o : c.Ok) (v : c.V) (h1 : ¬ c.ctl % 2 = 0) (h2 : ¬ c.pre + 1 < dv c.ctl) (h3 : c.count = 0) (hf : c.flag = false) (h4 : ¬ c.ctl / 4 % 2 = 1) :
    Calls Tryd.prog 40 #[.agg c.cells] w fun e w' => e = .returned (.agg ({ c with pre := 0, flag := true, count := c.latch }).cells) ∧ Below w.heap.size w w' := by
  have o3 := o.pre
  have o5 := o.ctl
  have o2 := o.count
  have q0 := o2.1
  have q1 := o2.2
  have p0 := o3.1
  have p1 : c.pre ≤ 255 := by have := v.pre; have := dv_pos c.ctl; omega
  clear v
  obtain ⟨latch, count, pre, hold, ctl, flag, over, five, inh, frame, at_, wait, beats⟩ := c
  unfold Ck.cells
  simp only at *
  subst hf h3
  go_enter Tryd.func40, Tryd.ntmps40
  go_wp2
  go_quiet ((go_at_call 30; exact Calls.quiet_of_same (rdiv_any _ _ o5.1 o5.2)))
  rw [drewN_alloc, drewN_alloc]; have b2 : Below w.heap.size w (w.drewN nq) := below_draws (Below.refl _ _) nq; have z2 : w.heap.size ≤ (w.drewN nq).heap.size := Nat.le_refl _; rw [drewN_size w nq]; generalize w.drewN nq = w3 at *
  go_wp2
  refine bodyPost_ret (by simp [results, Tryd.results40, go_sem]) rfl ⟨rfl, ?_⟩
  exact below_c2 b2 z2 _ _
theorem rcount_any (c : Ck) (w : World) (o : c.Ok) (v : c.V) :
    Calls Tryd.prog 40 #[.agg c.cells] w fun e w' => e = .returned (.agg c.tickT.cells) ∧ Below w.heap.size w w' := by
  unfold Ck.tickT
  by_cases h1 : c.ctl % 2 = 0
  · rw [if_pos h1]; exact rcount_0 c w o v h1
  rw [if_neg h1]
  by_cases h2 : c.pre + 1 < dv c.ctl
  · rw [if_pos h2]; exact rcount_1 c w o v h1 h2
  rw [if_neg h2]
  by_cases h3 : 0 < c.count
  · rw [if_pos h3]; exact rcount_2 c w o v h1 h2 h3
  rw [if_neg h3]
  have h3' : c.count = 0 := by have := o.count; omega
  rcases (show c.flag = false ∨ c.flag = true by cases c.flag <;> simp) with hf | hf
  · by_cases h4 : c.ctl / 4 % 2 = 1
    · rw [show Ck.out { c with pre := 0 } = { c with pre := 0, flag := true, count := c.latch, ctl := c.ctl - 1 } by unfold Ck.out; simp only; rw [if_pos h4, hf, Bool.or_false, show c.ctl % 2 = 1 by omega]]; exact rcount_3f1 c w o v h1 h2 h3' hf h4
    · rw [show Ck.out { c with pre := 0 } = { c with pre := 0, flag := true, count := c.latch } by unfold Ck.out; simp only; rw [if_neg h4, hf, Bool.or_false]]; exact rcount_3f0 c w o v h1 h2 h3' hf h4
  · by_cases h4 : c.ctl / 4 % 2 = 1
    · rw [show Ck.out { c with pre := 0 } = { c with pre := 0, over := true, flag := true, count := c.latch, ctl := c.ctl - 1 } by unfold Ck.out; simp only; rw [if_pos h4, hf, Bool.or_true, show c.ctl % 2 = 1 by omega]]; exact rcount_3t1 c w o v h1 h2 h3' hf h4
    · rw [show Ck.out { c with pre := 0 } = { c with pre := 0, over := true, flag := true, count := c.latch } by unfold Ck.out; simp only; rw [if_neg h4, hf, Bool.or_true]]; exact rcount_3t0 c w o v h1 h2 h3' hf h4
end Go.Proofs.YtobiiogoofkmaaaDoor
