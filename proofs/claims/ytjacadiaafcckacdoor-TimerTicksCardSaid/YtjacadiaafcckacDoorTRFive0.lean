/-
  The document's five, way by way; conditions: the numbers fit their kinds.
-/
import Derived.Test.YtjacadiaafcckacDoorTRFour0
set_option linter.unusedSimpArgs false
set_option linter.unusedVariables false
namespace Go.Proofs.YtjacadiaafcckacDoor
open Go.RowKit Classical
set_option maxHeartbeats 4000000 in
theorem five_7457 (c : Ck) (w : World) (b0 : 0 ≤ c.beats) (b1 : c.beats ≤ 63) (a0 : 0 ≤ c.at_) (a1 : c.at_ ≤ 65535) (h : c.at_ = 7457) :
    Calls Tryd.prog 24 #[.agg c.cells] w fun e w' => e = .returned (.agg ({ c with beats := (c.beats + 1) % 64 }).cells) ∧ Below w.heap.size w w' := by
  obtain ⟨latch, count, pre, hold, ctl, flag, over, five, inh, frame, at_, wait, beats⟩ := c
  simp only at h
  subst h
  unfold Ck.cells
  simp only at *
  go_enter Tryd.func24, Tryd.ntmps24
  go_wp2_with (go_at_call 26; refine (rbeat_ex ⟨latch, count, pre, hold, ctl, flag, over, five, inh, frame, 7457, wait, beats⟩ _ b0 b1).mono ?_; rintro e w2 ⟨rfl, rfl⟩; simp only [Ck.cells])
  refine bodyPost_ret (by simp [results, Tryd.results24, go_sem]) rfl ⟨rfl, ?_⟩
  exact below_c4 (Below.refl _ _) (Nat.le_refl _) _ _ _ _
set_option maxHeartbeats 4000000 in
theorem five_14913 (c : Ck) (w : World) (b0 : 0 ≤ c.beats) (b1 : c.beats ≤ 63) (a0 : 0 ≤ c.at_) (a1 : c.at_ ≤ 65535) (h : c.at_ = 14913) :
    Calls Tryd.prog 24 #[.agg c.cells] w fun e w' => e = .returned (.agg ({ c with beats := (c.beats + 1) % 64 }).cells) ∧ Below w.heap.size w w' := by
  obtain ⟨latch, count, pre, hold, ctl, flag, over, five, inh, frame, at_, wait, beats⟩ := c
  simp only at h
  subst h
  unfold Ck.cells
  simp only at *
  go_enter Tryd.func24, Tryd.ntmps24
  go_wp2_with (go_at_call 26; refine (rbeat_ex ⟨latch, count, pre, hold, ctl, flag, over, five, inh, frame, 14913, wait, beats⟩ _ b0 b1).mono ?_; rintro e w2 ⟨rfl, rfl⟩; simp only [Ck.cells])
  refine bodyPost_ret (by simp [results, Tryd.results24, go_sem]) rfl ⟨rfl, ?_⟩
  exact below_c4 (Below.refl _ _) (Nat.le_refl _) _ _ _ _
set_option maxHeartbeats 4000000 in
theorem five_22371 (c : Ck) (w : World) (b0 : 0 ≤ c.beats) (b1 : c.beats ≤ 63) (a0 : 0 ≤ c.at_) (a1 : c.at_ ≤ 65535) (h : c.at_ = 22371) :
    Calls Tryd.prog 24 #[.agg c.cells] w fun e w' => e = .returned (.agg ({ c with beats := (c.beats + 1) % 64 }).cells) ∧ Below w.heap.size w w' := by
  obtain ⟨latch, count, pre, hold, ctl, flag, over, five, inh, frame, at_, wait, beats⟩ := c
  simp only at h
  subst h
  unfold Ck.cells
  simp only at *
  go_enter Tryd.func24, Tryd.ntmps24
  go_wp2_with (go_at_call 26; refine (rbeat_ex ⟨latch, count, pre, hold, ctl, flag, over, five, inh, frame, 22371, wait, beats⟩ _ b0 b1).mono ?_; rintro e w2 ⟨rfl, rfl⟩; simp only [Ck.cells])
  refine bodyPost_ret (by simp [results, Tryd.results24, go_sem]) rfl ⟨rfl, ?_⟩
  exact below_c4 (Below.refl _ _) (Nat.le_refl _) _ _ _ _
set_option maxHeartbeats 4000000 in
theorem five_37281 (c : Ck) (w : World) (b0 : 0 ≤ c.beats) (b1 : c.beats ≤ 63) (a0 : 0 ≤ c.at_) (a1 : c.at_ ≤ 65535) (h : c.at_ = 37281) :
    Calls Tryd.prog 24 #[.agg c.cells] w fun e w' => e = .returned (.agg ({ c with beats := (c.beats + 1) % 64 }).cells) ∧ Below w.heap.size w w' := by
  obtain ⟨latch, count, pre, hold, ctl, flag, over, five, inh, frame, at_, wait, beats⟩ := c
  simp only at h
  subst h
  unfold Ck.cells
  simp only at *
  go_enter Tryd.func24, Tryd.ntmps24
  go_wp2_with (go_at_call 26; refine (rbeat_ex ⟨latch, count, pre, hold, ctl, flag, over, five, inh, frame, 37281, wait, beats⟩ _ b0 b1).mono ?_; rintro e w2 ⟨rfl, rfl⟩; simp only [Ck.cells])
  refine bodyPost_ret (by simp [results, Tryd.results24, go_sem]) rfl ⟨rfl, ?_⟩
  exact below_c4 (Below.refl _ _) (Nat.le_refl _) _ _ _ _
set_option maxHeartbeats 4000000 in
theorem five_lt (c : Ck) (w : World) (b0 : 0 ≤ c.beats) (b1 : c.beats ≤ 63) (a0 : 0 ≤ c.at_) (a1 : c.at_ ≤ 65535) (n0 : (c.at_ == 7457) = false) (n1 : (c.at_ == 14913) = false) (n2 : (c.at_ == 22371) = false) (n3 : (c.at_ == 37281) = false) (h : c.at_ < 37282) :
    Calls Tryd.prog 24 #[.agg c.cells] w fun e w' => e = .returned (.agg (c).cells) ∧ Below w.heap.size w w' := by
  obtain ⟨latch, count, pre, hold, ctl, flag, over, five, inh, frame, at_, wait, beats⟩ := c
  unfold Ck.cells
  simp only at *
  go_enter Tryd.func24, Tryd.ntmps24
  go_wp2
  refine bodyPost_ret (by simp [results, Tryd.results24, go_sem]) rfl ⟨rfl, ?_⟩
  exact below_a2 _ _ _
set_option maxHeartbeats 4000000 in
theorem five_gt (c : Ck) (w : World) (b0 : 0 ≤ c.beats) (b1 : c.beats ≤ 63) (a0 : 0 ≤ c.at_) (a1 : c.at_ ≤ 65535) (n0 : (c.at_ == 7457) = false) (n1 : (c.at_ == 14913) = false) (n2 : (c.at_ == 22371) = false) (n3 : (c.at_ == 37281) = false) (h : ¬ c.at_ < 37282) :
    Calls Tryd.prog 24 #[.agg c.cells] w fun e w' => e = .returned (.agg ({ c with at_ := 0 }).cells) ∧ Below w.heap.size w w' := by
  obtain ⟨latch, count, pre, hold, ctl, flag, over, five, inh, frame, at_, wait, beats⟩ := c
  unfold Ck.cells
  simp only at *
  go_enter Tryd.func24, Tryd.ntmps24
  go_wp2
  refine bodyPost_ret (by simp [results, Tryd.results24, go_sem]) rfl ⟨rfl, ?_⟩
  exact below_a2 _ _ _
end Go.Proofs.YtjacadiaafcckacDoor
