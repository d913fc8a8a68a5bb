/-
  The contract of Read; conditions: the table of the dividers lies in its variable, the numbers fit their kinds.
  The contract of Read; conditions: the table of the dividers lies in its variable, the numbers fit their kinds.
  The contract of Read; conditions: the table of the dividers lies in its variable, the numbers fit their kinds.
  The contract of Read; conditions: the table of the dividers lies in its variable, the numbers fit their kinds.
  The contract of Read; conditions: the table of the dividers lies in its variable, the numbers fit their kinds.
  The contract of Read; conditions: the table of the dividers lies in its variable, the numbers fit their kinds.
  The contract of Read; conditions: the table of the dividers lies in its variable, the numbers fit their kinds.
  The contract of Read; conditions: the table of the dividers lies in its variable, the numbers fit their kinds.
-/
import Derived.Test.YtobiiogoofkmaaaDoorTRead0
set_option linter.unusedSimpArgs false
set_option linter.unusedVariables false
namespace Go.Proofs.YtobiiogoofkmaaaDoor
open Go.RowKit Classical
set_option maxHeartbeats 8000000 in
theorem read_15 (c : Ck) (w : World) (o : c.Ok) (T : DTab w) (hv : c.valid = true) :
    Calls Tryd.prog 6 #[.agg c.cells, .int .u16 16405] w fun e w' => e = .returned (.tuple #[.int .u8 (fl c.flag 128 + fl c.frame 64), .int .u8 192, .agg ({ c with frame := false }).cells]) ∧ Below w.heap.size w w' := by
  have V : ∀ W, DTab W → Calls Tryd.prog 5 #[.agg c.cells] W fun e w' => e = .returned (.bool true) ∧ ∃ n, w' = (W.alloc (.cells c.cells 24)).drewN n := fun W hW => by
    have := valid_ex c W o hW
    rwa [hv] at this
  clear hv
  obtain ⟨latch, count, pre, hold, ctl, flag, over, five, inh, frame, at_, wait, beats⟩ := c
  have VH : Hid _ := V
  clear V
  unfold Ck.cells
  simp only [Ck.ack]
  have e1 : bits .or .u8 128 64 = 192 := by decide
  have e2 : bits .or .u8 128 0 = 128 := by decide
  have e3 : bits .or .u8 0 64 = 64 := by decide
  have e4 : bits .or .u8 0 0 = 0 := by decide
  cases flag <;> cases frame
  all_goals
    simp only [fl, Bool.false_eq_true, if_false, if_true]
    go_enter Tryd.func6, Tryd.ntmps6
    go_wp2_with (go_at_call 5; refine (VH.out _ (T.on (below_a2 _ _ _))).mono ?_; rintro e w2 ⟨rfl, n, rfl⟩; rw [drewN_alloc, drewN_alloc, drewN_alloc]; have b1 : Below w.heap.size w (w.drewN n) := below_draws (Below.refl _ _) n; have z1 : w.heap.size ≤ (w.drewN n).heap.size := Nat.le_refl _; rw [drewN_size w n]; generalize w.drewN n = w1 at *)
    go_quiet ((go_at_call 18; exact Calls.quiet_of_same (when_any _ _ _)))
    rw [drewN_alloc, drewN_alloc, drewN_alloc]; have b2 : Below w.heap.size w (w1.drewN nq) := below_draws b1 nq; have z2 : w.heap.size ≤ (w1.drewN nq).heap.size := z1; rw [drewN_size w1 nq]; generalize w1.drewN nq = w3 at *
    go_wp2
    go_region
    go_wp2
    refine bodyPost_ret (by simp [results, Tryd.results6, go_sem]) rfl ⟨rfl, ?_⟩
    exact (below_c3 b2 z2 _ _ _).drew
end Go.Proofs.YtobiiogoofkmaaaDoor
namespace Go.Proofs.YtobiiogoofkmaaaDoor
open Go.RowKit Classical
set_option maxHeartbeats 8000000 in
theorem read_18 (c : Ck) (w : World) (o : c.Ok) (T : DTab w) (hv : c.valid = true) :
    Calls Tryd.prog 6 #[.agg c.cells, .int .u16 16408] w fun e w' => e = .returned (.tuple #[.int .u8 (c.count % 256), .int .u8 255, .agg ({ c with hold := c.count / 256 }).cells]) ∧ Below w.heap.size w w' := by
  have V : ∀ W, DTab W → Calls Tryd.prog 5 #[.agg c.cells] W fun e w' => e = .returned (.bool true) ∧ ∃ n, w' = (W.alloc (.cells c.cells 24)).drewN n := fun W hW => by
    have := valid_ex c W o hW
    rwa [hv] at this
  have hc := o.count
  clear hv
  obtain ⟨latch, count, pre, hold, ctl, flag, over, five, inh, frame, at_, wait, beats⟩ := c
  have VH : Hid _ := V
  clear V
  unfold Ck.cells
  simp only [Ck.ack]
  simp only at hc
  go_enter Tryd.func6, Tryd.ntmps6
  go_wp2_with (go_at_call 5; refine (VH.out _ (T.on (below_a2 _ _ _))).mono ?_; rintro e w2 ⟨rfl, n, rfl⟩; rw [drewN_alloc, drewN_alloc, drewN_alloc]; have b1 : Below w.heap.size w (w.drewN n) := below_draws (Below.refl _ _) n; have z1 : w.heap.size ≤ (w.drewN n).heap.size := Nat.le_refl _; rw [drewN_size w n]; generalize w.drewN n = w1 at *)
  go_region
  go_wp2
  refine bodyPost_ret (by simp [results, Tryd.results6, go_sem]) rfl ⟨rfl, ?_⟩
  exact (below_c3 b1 z1 _ _ _).drew
end Go.Proofs.YtobiiogoofkmaaaDoor
namespace Go.Proofs.YtobiiogoofkmaaaDoor
open Go.RowKit Classical
set_option maxHeartbeats 8000000 in
theorem read_19 (c : Ck) (w : World) (o : c.Ok) (T : DTab w) (hv : c.valid = true) :
    Calls Tryd.prog 6 #[.agg c.cells, .int .u16 16409] w fun e w' => e = .returned (.tuple #[.int .u8 (c.hold), .int .u8 255, .agg (c).cells]) ∧ Below w.heap.size w w' := by
  have V : ∀ W, DTab W → Calls Tryd.prog 5 #[.agg c.cells] W fun e w' => e = .returned (.bool true) ∧ ∃ n, w' = (W.alloc (.cells c.cells 24)).drewN n := fun W hW => by
    have := valid_ex c W o hW
    rwa [hv] at this
  clear hv
  obtain ⟨latch, count, pre, hold, ctl, flag, over, five, inh, frame, at_, wait, beats⟩ := c
  have VH : Hid _ := V
  clear V
  unfold Ck.cells
  simp only [Ck.ack]
  go_enter Tryd.func6, Tryd.ntmps6
  go_wp2_with (go_at_call 5; refine (VH.out _ (T.on (below_a2 _ _ _))).mono ?_; rintro e w2 ⟨rfl, n, rfl⟩; rw [drewN_alloc, drewN_alloc, drewN_alloc]; have b1 : Below w.heap.size w (w.drewN n) := below_draws (Below.refl _ _) n; have z1 : w.heap.size ≤ (w.drewN n).heap.size := Nat.le_refl _; rw [drewN_size w n]; generalize w.drewN n = w1 at *)
  go_region
  go_wp2
  refine bodyPost_ret (by simp [results, Tryd.results6, go_sem]) rfl ⟨rfl, ?_⟩
  exact (below_c3 b1 z1 _ _ _).drew
end Go.Proofs.YtobiiogoofkmaaaDoor
namespace Go.Proofs.YtobiiogoofkmaaaDoor
open Go.RowKit Classical
set_option maxHeartbeats 8000000 in
theorem read_1a (c : Ck) (w : World) (o : c.Ok) (T : DTab w) (hv : c.valid = true) :
    Calls Tryd.prog 6 #[.agg c.cells, .int .u16 16410] w fun e w' => e = .returned (.tuple #[.int .u8 (c.ctl + fl c.flag 128), .int .u8 159, .agg (c).cells]) ∧ Below w.heap.size w w' := by
  have V : ∀ W, DTab W → Calls Tryd.prog 5 #[.agg c.cells] W fun e w' => e = .returned (.bool true) ∧ ∃ n, w' = (W.alloc (.cells c.cells 24)).drewN n := fun W hW => by
    have := valid_ex c W o hW
    rwa [hv] at this
  have hk := ((Ck.valid_iff c).1 hv).ctl
  have e1 : bits .or .u8 c.ctl 0 = c.ctl := by simpa using orc 0 c.ctl (by omega) o.ctl.1 hk
  have e2 : bits .or .u8 c.ctl 128 = c.ctl + 128 := orc 128 c.ctl (by omega) o.ctl.1 hk
  clear hv
  obtain ⟨latch, count, pre, hold, ctl, flag, over, five, inh, frame, at_, wait, beats⟩ := c
  have VH : Hid _ := V
  clear V
  unfold Ck.cells
  simp only [Ck.ack]
  simp only at hk e1 e2
  cases flag
  all_goals
    simp only [fl, Bool.false_eq_true, if_false, if_true]
    go_enter Tryd.func6, Tryd.ntmps6
    go_wp2_with (go_at_call 5; refine (VH.out _ (T.on (below_a2 _ _ _))).mono ?_; rintro e w2 ⟨rfl, n, rfl⟩; rw [drewN_alloc, drewN_alloc, drewN_alloc]; have b1 : Below w.heap.size w (w.drewN n) := below_draws (Below.refl _ _) n; have z1 : w.heap.size ≤ (w.drewN n).heap.size := Nat.le_refl _; rw [drewN_size w n]; generalize w.drewN n = w1 at *)
    go_region_with (go_at_call 18; refine (when_any _ _ _).mono ?_; rintro e w2 ⟨rfl, rfl⟩)
    all_goals go_wp2
    all_goals refine bodyPost_ret (by simp [results, Tryd.results6, go_sem]) rfl ⟨rfl, ?_⟩
    all_goals
      exact (below_c3 b1 z1 _ _ _).drew
end Go.Proofs.YtobiiogoofkmaaaDoor
namespace Go.Proofs.YtobiiogoofkmaaaDoor
open Go.RowKit Classical
set_option maxHeartbeats 8000000 in
theorem read_1b (c : Ck) (w : World) (o : c.Ok) (T : DTab w) (hv : c.valid = true) :
    Calls Tryd.prog 6 #[.agg c.cells, .int .u16 16411] w fun e w' => e = .returned (.tuple #[.int .u8 (fl c.flag 128 + fl c.over 64 + c.beats), .int .u8 255, .agg (c.ack).cells]) ∧ Below w.heap.size w w' := by
  have V : ∀ W, DTab W → Calls Tryd.prog 5 #[.agg c.cells] W fun e w' => e = .returned (.bool true) ∧ ∃ n, w' = (W.alloc (.cells c.cells 24)).drewN n := fun W hW => by
    have := valid_ex c W o hW
    rwa [hv] at this
  have hk := ((Ck.valid_iff c).1 hv).beats
  have e1 : bits .or .u8 0 c.beats = c.beats := by simpa using orb 0 c.beats (by omega) o.beats.1 hk
  have e2 : bits .or .u8 64 c.beats = 64 + c.beats := orb 64 c.beats (by omega) o.beats.1 hk
  have e3 : bits .or .u8 128 c.beats = 128 + c.beats := orb 128 c.beats (by omega) o.beats.1 hk
  have e4 : bits .or .u8 192 c.beats = 192 + c.beats := orb 192 c.beats (by omega) o.beats.1 hk
  clear hv
  obtain ⟨latch, count, pre, hold, ctl, flag, over, five, inh, frame, at_, wait, beats⟩ := c
  have VH : Hid _ := V
  clear V
  unfold Ck.cells
  simp only [Ck.ack]
  simp only at hk e1 e2 e3 e4
  have f1 : bits .or .u8 128 64 = 192 := by decide
  have f2 : bits .or .u8 128 0 = 128 := by decide
  have f3 : bits .or .u8 0 64 = 64 := by decide
  have f4 : bits .or .u8 0 0 = 0 := by decide
  cases flag <;> cases over
  all_goals
    simp only [fl, Bool.false_eq_true, if_false, if_true]
    go_enter Tryd.func6, Tryd.ntmps6
    go_wp2_with (go_at_call 5; refine (VH.out _ (T.on (below_a2 _ _ _))).mono ?_; rintro e w2 ⟨rfl, n, rfl⟩; rw [drewN_alloc, drewN_alloc, drewN_alloc]; have b1 : Below w.heap.size w (w.drewN n) := below_draws (Below.refl _ _) n; have z1 : w.heap.size ≤ (w.drewN n).heap.size := Nat.le_refl _; rw [drewN_size w n]; generalize w.drewN n = w1 at *)
    go_quiet ((go_at_call 18; exact Calls.quiet_of_same (when_any _ _ _)))
    rw [drewN_alloc, drewN_alloc, drewN_alloc]; have b2 : Below w.heap.size w (w1.drewN nq) := below_draws b1 nq; have z2 : w.heap.size ≤ (w1.drewN nq).heap.size := z1; rw [drewN_size w1 nq]; generalize w1.drewN nq = w3 at *
    go_wp2_with (go_at_call 19; refine (ack_any ⟨latch, count, pre, hold, ctl, _, _, five, inh, frame, at_, wait, beats⟩ _).mono ?_; rintro e w2 ⟨rfl, rfl⟩; simp only [Ck.ack, Ck.cells])
    refine bodyPost_ret (by simp [results, Tryd.results6, go_sem]) rfl ⟨rfl, ?_⟩
    exact below_c5 b2 z2 _ _ _ _ _
end Go.Proofs.YtobiiogoofkmaaaDoor
namespace Go.Proofs.YtobiiogoofkmaaaDoor
open Go.RowKit Classical
set_option maxHeartbeats 8000000 in
theorem read_no (c : Ck) (w : World) (o : c.Ok) (T : DTab w) (hv : c.valid = false) (a : Int) :
    Calls Tryd.prog 6 #[.agg c.cells, .int .u16 a] w fun e w' => e = .returned (.tuple #[.int .u8 (0), .int .u8 0, .agg (c).cells]) ∧ Below w.heap.size w w' := by
  have V : ∀ W, DTab W → Calls Tryd.prog 5 #[.agg c.cells] W fun e w' => e = .returned (.bool false) ∧ ∃ n, w' = (W.alloc (.cells c.cells 24)).drewN n := fun W hW => by
    have := valid_ex c W o hW
    rwa [hv] at this
  clear hv
  obtain ⟨latch, count, pre, hold, ctl, flag, over, five, inh, frame, at_, wait, beats⟩ := c
  have VH : Hid _ := V
  clear V
  unfold Ck.cells
  simp only [Ck.ack]
  go_enter Tryd.func6, Tryd.ntmps6
  go_wp2_with (go_at_call 5; refine (VH.out _ (T.on (below_a2 _ _ _))).mono ?_; rintro e w2 ⟨rfl, n, rfl⟩; rw [drewN_alloc, drewN_alloc, drewN_alloc]; have b1 : Below w.heap.size w (w.drewN n) := below_draws (Below.refl _ _) n; have z1 : w.heap.size ≤ (w.drewN n).heap.size := Nat.le_refl _; rw [drewN_size w n]; generalize w.drewN n = w1 at *)
  go_region
  go_wp2
  refine bodyPost_ret (by simp [results, Tryd.results6, go_sem]) rfl ⟨rfl, ?_⟩
  exact (below_c3 b1 z1 _ _ _).drew
end Go.Proofs.YtobiiogoofkmaaaDoor
namespace Go.Proofs.YtobiiogoofkmaaaDoor
open Go.RowKit Classical
set_option maxHeartbeats 8000000 in
theorem read_other (c : Ck) (w : World) (o : c.Ok) (T : DTab w) (hv : c.valid = true) (a : Int) (n15 : (a == 16405) = false) (n18 : (a == 16408) = false) (n19 : (a == 16409) = false) (n1a : (a == 16410) = false) (n1b : (a == 16411) = false) :
    Calls Tryd.prog 6 #[.agg c.cells, .int .u16 a] w fun e w' => e = .returned (.tuple #[.int .u8 (0), .int .u8 0, .agg (c).cells]) ∧ Below w.heap.size w w' := by
  have V : ∀ W, DTab W → Calls Tryd.prog 5 #[.agg c.cells] W fun e w' => e = .returned (.bool true) ∧ ∃ n, w' = (W.alloc (.cells c.cells 24)).drewN n := fun W hW => by
    have := valid_ex c W o hW
    rwa [hv] at this
  clear hv
  obtain ⟨latch, count, pre, hold, ctl, flag, over, five, inh, frame, at_, wait, beats⟩ := c
  have VH : Hid _ := V
  clear V
  unfold Ck.cells
  simp only [Ck.ack]
  go_enter Tryd.func6, Tryd.ntmps6
  go_wp2_with (go_at_call 5; refine (VH.out _ (T.on (below_a2 _ _ _))).mono ?_; rintro e w2 ⟨rfl, n, rfl⟩; rw [drewN_alloc, drewN_alloc, drewN_alloc]; have b1 : Below w.heap.size w (w.drewN n) := below_draws (Below.refl _ _) n; have z1 : w.heap.size ≤ (w.drewN n).heap.size := Nat.le_refl _; rw [drewN_size w n]; generalize w.drewN n = w1 at *)
  go_region
  go_wp2
  refine bodyPost_ret (by simp [results, Tryd.results6, go_sem]) rfl ⟨rfl, ?_⟩
  exact (below_c3 b1 z1 _ _ _).drew
end Go.Proofs.YtobiiogoofkmaaaDoor
namespace Go.Proofs.YtobiiogoofkmaaaDoor
open Go.RowKit Classical
theorem read_any (c : Ck) (w : World) (a : Int) (o : c.Ok) (T : DTab w) :
    Calls Tryd.prog 6 #[.agg c.cells, .int .u16 a] w fun e w' => e = .returned (.tuple #[.int .u8 (c.rV a), .int .u8 (c.rM a), .agg (c.rC a).cells]) ∧ Below w.heap.size w w' := by
  cases hv : c.valid
  · rw [show c.rV a = 0 by simp [Ck.rV, hv], show c.rM a = 0 by simp [Ck.rM, hv], show c.rC a = c by simp [Ck.rC, hv]]; exact read_no c w o T hv a
  by_cases h1 : a = 16405
  · subst h1; rw [show c.rV 16405 = fl c.flag 128 + fl c.frame 64 by simp [Ck.rV, hv], show c.rM 16405 = 192 by simp [Ck.rM, hv], show c.rC 16405 = { c with frame := false } by simp [Ck.rC, hv]]; exact read_15 c w o T hv
  by_cases h2 : a = 16408
  · subst h2; rw [show c.rV 16408 = c.count % 256 by simp [Ck.rV, hv], show c.rM 16408 = 255 by simp [Ck.rM, hv], show c.rC 16408 = { c with hold := c.count / 256 } by simp [Ck.rC, hv]]; exact read_18 c w o T hv
  by_cases h3 : a = 16409
  · subst h3; rw [show c.rV 16409 = c.hold by simp [Ck.rV, hv], show c.rM 16409 = 255 by simp [Ck.rM, hv], show c.rC 16409 = c by simp [Ck.rC, hv]]; exact read_19 c w o T hv
  by_cases h4 : a = 16410
  · subst h4; rw [show c.rV 16410 = c.ctl + fl c.flag 128 by simp [Ck.rV, hv], show c.rM 16410 = 159 by simp [Ck.rM, hv], show c.rC 16410 = c by simp [Ck.rC, hv]]; exact read_1a c w o T hv
  by_cases h5 : a = 16411
  · subst h5; rw [show c.rV 16411 = fl c.flag 128 + fl c.over 64 + c.beats by simp [Ck.rV, hv], show c.rM 16411 = 255 by simp [Ck.rM, hv], show c.rC 16411 = c.ack by simp [Ck.rC, hv]]; exact read_1b c w o T hv
  rw [show c.rV a = 0 by simp [Ck.rV, h1, h2, h3, h4, h5], show c.rM a = 0 by simp [Ck.rM, h1, h2, h3, h4, h5], show c.rC a = c by simp [Ck.rC, h1, h2, h5]]
  exact read_other c w o T hv a (by simpa using h1) (by simpa using h2) (by simpa using h3) (by simpa using h4) (by simpa using h5)
end Go.Proofs.YtobiiogoofkmaaaDoor
