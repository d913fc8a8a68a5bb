/-
  The document's four, way by way; conditions: the numbers fit their kinds.
-/
import Derived.Test.YtjacadiaafcckacDoorTRBeat
set_option linter.unusedSimpArgs false
set_option linter.unusedVariables false
namespace Go.Proofs.YtjacadiaafcckacDoor
open Go.RowKit Classical
theorem below_c4 {B : Nat} {a w : World} (h : Below B a w) (hB : B ≤ w.heap.size) (o1 o2 o3 o4 : Obj) : Below B a ((((w.alloc o1).alloc o2).alloc o3).alloc o4) := (((h.alloc hB _).alloc (by simp; omega) _).alloc (by simp; omega) _).alloc (by simp; omega) _
set_option maxHeartbeats 4000000 in
theorem four_7457 (c : Ck) (w : World) (b0 : 0 ≤ c.beats) (b1 : c.beats ≤ 63) (a0 : 0 ≤ c.at_) (a1 : c.at_ ≤ 65535) (h : c.at_ = 7457) :
    Calls Tryd.prog 25 #[.agg c.cells] w fun e w' => e = .returned (.agg ({ c with beats := (c.beats + 1) % 64 }).cells) ∧ Below w.heap.size w w' := by
  obtain ⟨latch, count, pre, hold, ctl, flag, over, five, inh, frame, at_, wait, beats⟩ := c
  simp only at h
  subst h
  unfold Ck.cells
  simp only at *
  go_enter Tryd.func25, Tryd.ntmps25
  go_wp2_with (go_at_call 26; refine (rbeat_ex ⟨latch, count, pre, hold, ctl, flag, over, five, inh, frame, 7457, wait, beats⟩ _ b0 b1).mono ?_; rintro e w2 ⟨rfl, rfl⟩; simp only [Ck.cells])
  refine bodyPost_ret (by simp [results, Tryd.results25, go_sem]) rfl ⟨rfl, ?_⟩
  exact below_c4 (Below.refl _ _) (Nat.le_refl _) _ _ _ _
set_option maxHeartbeats 4000000 in
theorem four_14913 (c : Ck) (w : World) (b0 : 0 ≤ c.beats) (b1 : c.beats ≤ 63) (a0 : 0 ≤ c.at_) (a1 : c.at_ ≤ 65535) (h : c.at_ = 14913) :
    Calls Tryd.prog 25 #[.agg c.cells] w fun e w' => e = .returned (.agg ({ c with beats := (c.beats + 1) % 64 }).cells) ∧ Below w.heap.size w w' := by
  obtain ⟨latch, count, pre, hold, ctl, flag, over, five, inh, frame, at_, wait, beats⟩ := c
  simp only at h
  subst h
  unfold Ck.cells
  simp only at *
  go_enter Tryd.func25, Tryd.ntmps25
  go_wp2_with (go_at_call 26; refine (rbeat_ex ⟨latch, count, pre, hold, ctl, flag, over, five, inh, frame, 14913, wait, beats⟩ _ b0 b1).mono ?_; rintro e w2 ⟨rfl, rfl⟩; simp only [Ck.cells])
  refine bodyPost_ret (by simp [results, Tryd.results25, go_sem]) rfl ⟨rfl, ?_⟩
  exact below_c4 (Below.refl _ _) (Nat.le_refl _) _ _ _ _
set_option maxHeartbeats 4000000 in
theorem four_22371 (c : Ck) (w : World) (b0 : 0 ≤ c.beats) (b1 : c.beats ≤ 63) (a0 : 0 ≤ c.at_) (a1 : c.at_ ≤ 65535) (h : c.at_ = 22371) :
    Calls Tryd.prog 25 #[.agg c.cells] w fun e w' => e = .returned (.agg ({ c with beats := (c.beats + 1) % 64 }).cells) ∧ Below w.heap.size w w' := by
  obtain ⟨latch, count, pre, hold, ctl, flag, over, five, inh, frame, at_, wait, beats⟩ := c
  simp only at h
  subst h
  unfold Ck.cells
  simp only at *
  go_enter Tryd.func25, Tryd.ntmps25
  go_wp2_with (go_at_call 26; refine (rbeat_ex ⟨latch, count, pre, hold, ctl, flag, over, five, inh, frame, 22371, wait, beats⟩ _ b0 b1).mono ?_; rintro e w2 ⟨rfl, rfl⟩; simp only [Ck.cells])
  refine bodyPost_ret (by simp [results, Tryd.results25, go_sem]) rfl ⟨rfl, ?_⟩
  exact below_c4 (Below.refl _ _) (Nat.le_refl _) _ _ _ _
set_option maxHeartbeats 4000000 in
theorem four_28_true (c : Ck) (w : World) (b0 : 0 ≤ c.beats) (b1 : c.beats ≤ 63) (a0 : 0 ≤ c.at_) (a1 : c.at_ ≤ 65535) (h : c.at_ = 29828) (hi : c.inh = true) :
    Calls Tryd.prog 25 #[.agg c.cells] w fun e w' => e = .returned (.agg (c).cells) ∧ Below w.heap.size w w' := by
  obtain ⟨latch, count, pre, hold, ctl, flag, over, five, inh, frame, at_, wait, beats⟩ := c
  simp only at h hi
  subst h hi
  unfold Ck.cells
  simp only at *
  go_enter Tryd.func25, Tryd.ntmps25
  go_wp2
  refine bodyPost_ret (by simp [results, Tryd.results25, go_sem]) rfl ⟨rfl, ?_⟩
  exact below_a2 _ _ _
set_option maxHeartbeats 4000000 in
theorem four_29_true (c : Ck) (w : World) (b0 : 0 ≤ c.beats) (b1 : c.beats ≤ 63) (a0 : 0 ≤ c.at_) (a1 : c.at_ ≤ 65535) (h : c.at_ = 29829) (hi : c.inh = true) :
    Calls Tryd.prog 25 #[.agg c.cells] w fun e w' => e = .returned (.agg ({ c with beats := (c.beats + 1) % 64 }).cells) ∧ Below w.heap.size w w' := by
  obtain ⟨latch, count, pre, hold, ctl, flag, over, five, inh, frame, at_, wait, beats⟩ := c
  simp only at h hi
  subst h hi
  unfold Ck.cells
  simp only at *
  go_enter Tryd.func25, Tryd.ntmps25
  go_wp2_with (go_at_call 26; refine (rbeat_ex ⟨latch, count, pre, hold, ctl, flag, over, five, true, frame, 29829, wait, beats⟩ _ b0 b1).mono ?_; rintro e w2 ⟨rfl, rfl⟩; simp only [Ck.cells])
  refine bodyPost_ret (by simp [results, Tryd.results25, go_sem]) rfl ⟨rfl, ?_⟩
  exact below_c4 (Below.refl _ _) (Nat.le_refl _) _ _ _ _
set_option maxHeartbeats 4000000 in
theorem four_30_true (c : Ck) (w : World) (b0 : 0 ≤ c.beats) (b1 : c.beats ≤ 63) (a0 : 0 ≤ c.at_) (a1 : c.at_ ≤ 65535) (h : c.at_ = 29830) (hi : c.inh = true) :
    Calls Tryd.prog 25 #[.agg c.cells] w fun e w' => e = .returned (.agg ({ c with at_ := 0 }).cells) ∧ Below w.heap.size w w' := by
  obtain ⟨latch, count, pre, hold, ctl, flag, over, five, inh, frame, at_, wait, beats⟩ := c
  simp only at h hi
  subst h hi
  unfold Ck.cells
  simp only at *
  go_enter Tryd.func25, Tryd.ntmps25
  go_wp2
  refine bodyPost_ret (by simp [results, Tryd.results25, go_sem]) rfl ⟨rfl, ?_⟩
  exact below_a2 _ _ _
set_option maxHeartbeats 4000000 in
theorem four_28_false (c : Ck) (w : World) (b0 : 0 ≤ c.beats) (b1 : c.beats ≤ 63) (a0 : 0 ≤ c.at_) (a1 : c.at_ ≤ 65535) (h : c.at_ = 29828) (hi : c.inh = false) :
    Calls Tryd.prog 25 #[.agg c.cells] w fun e w' => e = .returned (.agg ({ c with frame := true }).cells) ∧ Below w.heap.size w w' := by
  obtain ⟨latch, count, pre, hold, ctl, flag, over, five, inh, frame, at_, wait, beats⟩ := c
  simp only at h hi
  subst h hi
  unfold Ck.cells
  simp only at *
  go_enter Tryd.func25, Tryd.ntmps25
  go_wp2
  refine bodyPost_ret (by simp [results, Tryd.results25, go_sem]) rfl ⟨rfl, ?_⟩
  exact below_a2 _ _ _
set_option maxHeartbeats 4000000 in
theorem four_29_false (c : Ck) (w : World) (b0 : 0 ≤ c.beats) (b1 : c.beats ≤ 63) (a0 : 0 ≤ c.at_) (a1 : c.at_ ≤ 65535) (h : c.at_ = 29829) (hi : c.inh = false) :
    Calls Tryd.prog 25 #[.agg c.cells] w fun e w' => e = .returned (.agg ({ c with beats := (c.beats + 1) % 64, frame := true }).cells) ∧ Below w.heap.size w w' := by
  obtain ⟨latch, count, pre, hold, ctl, flag, over, five, inh, frame, at_, wait, beats⟩ := c
  simp only at h hi
  subst h hi
  unfold Ck.cells
  simp only at *
  go_enter Tryd.func25, Tryd.ntmps25
  go_wp2_with (go_at_call 26; refine (rbeat_ex ⟨latch, count, pre, hold, ctl, flag, over, five, false, frame, 29829, wait, beats⟩ _ b0 b1).mono ?_; rintro e w2 ⟨rfl, rfl⟩; simp only [Ck.cells])
  refine bodyPost_ret (by simp [results, Tryd.results25, go_sem]) rfl ⟨rfl, ?_⟩
  exact below_c4 (Below.refl _ _) (Nat.le_refl _) _ _ _ _
set_option maxHeartbeats 4000000 in
theorem four_30_false (c : Ck) (w : World) (b0 : 0 ≤ c.beats) (b1 : c.beats ≤ 63) (a0 : 0 ≤ c.at_) (a1 : c.at_ ≤ 65535) (h : c.at_ = 29830) (hi : c.inh = false) :
    Calls Tryd.prog 25 #[.agg c.cells] w fun e w' => e = .returned (.agg ({ c with at_ := 0, frame := true }).cells) ∧ Below w.heap.size w w' := by
  obtain ⟨latch, count, pre, hold, ctl, flag, over, five, inh, frame, at_, wait, beats⟩ := c
  simp only at h hi
  subst h hi
  unfold Ck.cells
  simp only at *
  go_enter Tryd.func25, Tryd.ntmps25
  go_wp2
  refine bodyPost_ret (by simp [results, Tryd.results25, go_sem]) rfl ⟨rfl, ?_⟩
  exact below_a2 _ _ _
set_option maxHeartbeats 4000000 in
theorem four_lt (c : Ck) (w : World) (b0 : 0 ≤ c.beats) (b1 : c.beats ≤ 63) (a0 : 0 ≤ c.at_) (a1 : c.at_ ≤ 65535) (n0 : (c.at_ == 7457) = false) (n1 : (c.at_ == 14913) = false) (n2 : (c.at_ == 22371) = false) (n3 : (c.at_ == 29829) = false) (h : c.at_ < 29828) :
    Calls Tryd.prog 25 #[.agg c.cells] w fun e w' => e = .returned (.agg (c).cells) ∧ Below w.heap.size w w' := by
  obtain ⟨latch, count, pre, hold, ctl, flag, over, five, inh, frame, at_, wait, beats⟩ := c
  unfold Ck.cells
  simp only at *
  go_enter Tryd.func25, Tryd.ntmps25
  go_wp2
  refine bodyPost_ret (by simp [results, Tryd.results25, go_sem]) rfl ⟨rfl, ?_⟩
  exact below_a2 _ _ _
set_option maxHeartbeats 4000000 in
theorem four_gt (c : Ck) (w : World) (b0 : 0 ≤ c.beats) (b1 : c.beats ≤ 63) (a0 : 0 ≤ c.at_) (a1 : c.at_ ≤ 65535) (n0 : (c.at_ == 7457) = false) (n1 : (c.at_ == 14913) = false) (n2 : (c.at_ == 22371) = false) (n3 : (c.at_ == 29829) = false) (h : 29830 < c.at_) :
    Calls Tryd.prog 25 #[.agg c.cells] w fun e w' => e = .returned (.agg ({ c with at_ := 0 }).cells) ∧ Below w.heap.size w w' := by
  obtain ⟨latch, count, pre, hold, ctl, flag, over, five, inh, frame, at_, wait, beats⟩ := c
  unfold Ck.cells
  simp only at *
  go_enter Tryd.func25, Tryd.ntmps25
  go_wp2
  refine bodyPost_ret (by simp [results, Tryd.results25, go_sem]) rfl ⟨rfl, ?_⟩
  exact below_a2 _ _ _
end Go.Proofs.YtjacadiaafcckacDoor
