/-
  The document's four, way by way; conditions: the numbers fit their kinds.
  The document's four; conditions: the numbers fit their kinds.
  The document's five, way by way; conditions: the numbers fit their kinds.
  The document's five; conditions: the numbers fit their kinds.
-/
import Derived.Test.YtobiiogoofkmaaaDoorTRBeat
set_option linter.unusedSimpArgs false
set_option linter.unusedVariables false
namespace Go.Proofs.YtobiiogoofkmaaaDoor
open Go.RowKit Classical
theorem below_c4 {B : Nat} {a w : World} (h : Below B a w) (hB : B ≤ w.heap.size) (o1 o2 o3 o4 : Obj) : Below B a ((((w.alloc o1).alloc o2).alloc o3).alloc o4) := (((h.alloc hB _).alloc (by simp; omega) _).alloc (by simp; omega) _).alloc (by simp; omega) _
set_option maxHeartbeats 4000000 in
theorem four_7457 (c : Ck) (w : World) (b0 : 0 ≤ c.beats) (b1 : c.beats ≤ 63) (a0 : 0 ≤ c.at_) (a1 : c.at_ ≤ 65535) (h : c.at_ = 7457) :
    Calls Tryd.prog 42 #[.agg c.cells] w fun e w' => e = .returned (.agg ({ c with beats := (c.beats + 1) % 64 }).cells) ∧ Below w.heap.size w w' := by
  obtain ⟨latch, count, pre, hold, ctl, flag, over, five, inh, frame, at_, wait, beats⟩ := c
  simp only at h
  subst h
  unfold Ck.cells
  simp only at *
  go_enter Tryd.func42, Tryd.ntmps42
  go_wp2_with (go_at_call 43; refine (rbeat_ex ⟨latch, count, pre, hold, ctl, flag, over, five, inh, frame, 7457, wait, beats⟩ _ b0 b1).mono ?_; rintro e w2 ⟨rfl, rfl⟩; simp only [Ck.cells])
  refine bodyPost_ret (by simp [results, Tryd.results42, go_sem]) rfl ⟨rfl, ?_⟩
  exact below_c4 (Below.refl _ _) (Nat.le_refl _) _ _ _ _
set_option maxHeartbeats 4000000 in
theorem four_14913 (c : Ck) (w : World) (b0 : 0 ≤ c.beats) (b1 : c.beats ≤ 63) (a0 : 0 ≤ c.at_) (a1 : c.at_ ≤ 65535) (h : c.at_ = 14913) :
    Calls Tryd.prog 42 #[.agg c.cells] w fun e w' => e = .returned (.agg ({ c with beats := (c.beats + 1) % 64 }).cells) ∧ Below w.heap.size w w' := by
  obtain ⟨latch, count, pre, hold, ctl, flag, over, five, inh, frame, at_, wait, beats⟩ := c
  simp only at h
  subst h
  unfold Ck.cells
  simp only at *
  go_enter Tryd.func42, Tryd.ntmps42
  go_wp2_with (go_at_call 43; refine (rbeat_ex ⟨latch, count, pre, hold, ctl, flag, over, five, inh, frame, 14913, wait, beats⟩ _ b0 b1).mono ?_; rintro e w2 ⟨rfl, rfl⟩; simp only [Ck.cells])
  refine bodyPost_ret (by simp [results, Tryd.results42, go_sem]) rfl ⟨rfl, ?_⟩
  exact below_c4 (Below.refl _ _) (Nat.le_refl _) _ _ _ _
set_option maxHeartbeats 4000000 in
theorem four_22371 (c : Ck) (w : World) (b0 : 0 ≤ c.beats) (b1 : c.beats ≤ 63) (a0 : 0 ≤ c.at_) (a1 : c.at_ ≤ 65535) (h : c.at_ = 22371) :
    Calls Tryd.prog 42 #[.agg c.cells] w fun e w' => e = .returned (.agg ({ c with beats := (c.beats + 1) % 64 }).cells) ∧ Below w.heap.size w w' := by
  obtain ⟨latch, count, pre, hold, ctl, flag, over, five, inh, frame, at_, wait, beats⟩ := c
  simp only at h
  subst h
  unfold Ck.cells
  simp only at *
  go_enter Tryd.func42, Tryd.ntmps42
  go_wp2_with (go_at_call 43; refine (rbeat_ex ⟨latch, count, pre, hold, ctl, flag, over, five, inh, frame, 22371, wait, beats⟩ _ b0 b1).mono ?_; rintro e w2 ⟨rfl, rfl⟩; simp only [Ck.cells])
  refine bodyPost_ret (by simp [results, Tryd.results42, go_sem]) rfl ⟨rfl, ?_⟩
  exact below_c4 (Below.refl _ _) (Nat.le_refl _) _ _ _ _
set_option maxHeartbeats 4000000 in
theorem four_28_true (c : Ck) (w : World) (b0 : 0 ≤ c.beats) (b1 : c.beats ≤ 63) (a0 : 0 ≤ c.at_) (a1 : c.at_ ≤ 65535) (h : c.at_ = 29828) (hi : c.inh = true) :
    Calls Tryd.prog 42 #[.agg c.cells] w fun e w' => e = .returned (.agg (c).cells) ∧ Below w.heap.size w w' := by
  obtain ⟨latch, count, pre, hold, ctl, flag, over, five, inh, frame, at_, wait, beats⟩ := c
  simp only at h hi
  subst h hi
  unfold Ck.cells
  simp only at *
  go_enter Tryd.func42, Tryd.ntmps42
  go_wp2
  refine bodyPost_ret (by simp [results, Tryd.results42, go_sem]) rfl ⟨rfl, ?_⟩
  exact below_a2 _ _ _
set_option maxHeartbeats 4000000 in
theorem four_29_true (c : Ck) (w : World) (b0 : 0 ≤ c.beats) (b1 : c.beats ≤ 63) (a0 : 0 ≤ c.at_) (a1 : c.at_ ≤ 65535) (h : c.at_ = 29829) (hi : c.inh = true) :
    Calls Tryd.prog 42 #[.agg c.cells] w fun e w' => e = .returned (.agg ({ c with beats := (c.beats + 1) % 64 }).cells) ∧ Below w.heap.size w w' := by
  obtain ⟨latch, count, pre, hold, ctl, flag, over, five, inh, frame, at_, wait, beats⟩ := c
  simp only at h hi
  subst h hi
  unfold Ck.cells
  simp only at *
  go_enter Tryd.func42, Tryd.ntmps42
  go_wp2_with (go_at_call 43; refine (rbeat_ex ⟨latch, count, pre, hold, ctl, flag, over, five, true, frame, 29829, wait, beats⟩ _ b0 b1).mono ?_; rintro e w2 ⟨rfl, rfl⟩; simp only [Ck.cells])
  refine bodyPost_ret (by simp [results, Tryd.results42, go_sem]) rfl ⟨rfl, ?_⟩
  exact below_c4 (Below.refl _ _) (Nat.le_refl _) _ _ _ _
set_option maxHeartbeats 4000000 in
theorem four_30_true (c : Ck) (w : World) (b0 : 0 ≤ c.beats) (b1 : c.beats ≤ 63) (a0 : 0 ≤ c.at_) (a1 : c.at_ ≤ 65535) (h : c.at_ = 29830) (hi : c.inh = true) :
    Calls Tryd.prog 42 #[.agg c.cells] w fun e w' => e = .returned (.agg ({ c with at_ := 0 }).cells) ∧ Below w.heap.size w w' := by
  obtain ⟨latch, count, pre, hold, ctl, flag, over, five, inh, frame, at_, wait, beats⟩ := c
  simp only at h hi
  subst h hi
  unfold Ck.cells
  simp only at *
  go_enter Tryd.func42, Tryd.ntmps42
  go_wp2
  refine bodyPost_ret (by simp [results, Tryd.results42, go_sem]) rfl ⟨rfl, ?_⟩
  exact below_a2 _ _ _
set_option maxHeartbeats 4000000 in
theorem four_28_false (c : Ck) (w : World) (b0 : 0 ≤ c.beats) (b1 : c.beats ≤ 63) (a0 : 0 ≤ c.at_) (a1 : c.at_ ≤ 65535) (h : c.at_ = 29828) (hi : c.inh = false) :
    Calls Tryd.prog 42 #[.agg c.cells] w fun e w' => e = .returned (.agg ({ c with frame := true }).cells) ∧ Below w.heap.size w w' := by
  obtain ⟨latch, count, pre, hold, ctl, flag, over, five, inh, frame, at_, wait, beats⟩ := c
  simp only at h hi
  subst h hi
  unfold Ck.cells
  simp only at *
  go_enter Tryd.func42, Tryd.ntmps42
  go_wp2
  refine bodyPost_ret (by simp [results, Tryd.results42, go_sem]) rfl ⟨rfl, ?_⟩
  exact below_a2 _ _ _
set_option maxHeartbeats 4000000 in
theorem four_29_false (c : Ck) (w : World) (b0 : 0 ≤ c.beats) (b1 : c.beats ≤ 63) (a0 : 0 ≤ c.at_) (a1 : c.at_ ≤ 65535) (h : c.at_ = 29829) (hi : c.inh = false) :
    Calls Tryd.prog 42 #[.agg c.cells] w fun e w' => e = .returned (.agg ({ c with beats := (c.beats + 1) % 64, frame := true }).cells) ∧ Below w.heap.size w w' := by
  obtain ⟨latch, count, pre, hold, ctl, flag, over, five, inh, frame, at_, wait, beats⟩ := c
  simp only at h hi
  subst h hi
  unfold Ck.cells
  simp only at *
  go_enter Tryd.func42, Tryd.ntmps42
  go_wp2_with (go_at_call 43; refine (rbeat_ex ⟨latch, count, pre, hold, ctl, flag, over, five, false, frame, 29829, wait, beats⟩ _ b0 b1).mono ?_; rintro e w2 ⟨rfl, rfl⟩; simp only [Ck.cells])
  refine bodyPost_ret (by simp [results, Tryd.results42, go_sem]) rfl ⟨rfl, ?_⟩
  exact below_c4 (Below.refl _ _) (Nat.le_refl _) _ _ _ _
set_option maxHeartbeats 4000000 in
theorem four_30_false (c : Ck) (w : World) (b0 : 0 ≤ c.beats) (b1 : c.beats ≤ 63) (a0 : 0 ≤ c.at_) (a1 : c.at_ ≤ 65535) (h : c.at_ = 29830) (hi : c.inh = false) :
    Calls Tryd.prog 42 #[.agg c.cells] w fun e w' => e = .returned (.agg ({ c with at_ := 0, frame := true }).cells) ∧ Below w.heap.size w w' := by
  obtain ⟨latch, count, pre, hold, ctl, flag, over, five, inh, frame, at_, wait, beats⟩ := c
  simp only at h hi
  subst h hi
  unfold Ck.cells
  simp only at *
  go_enter Tryd.func42, Tryd.ntmps42
  go_wp2
  refine bodyPost_ret (by simp [results, Tryd.results42, go_sem]) rfl ⟨rfl, ?_⟩
  exact below_a2 _ _ _
set_option maxHeartbeats 4000000 in
theorem four_lt (c : Ck) (w : World) (b0 : 0 ≤ c.beats) (b1 : c.beats ≤ 63) (a0 : 0 ≤ c.at_) (a1 : c.at_ ≤ 65535) (n0 : (c.at_ == 7457) = false) (n1 : (c.at_ == 14913) = false) (n2 : (c.at_ == 22371) = false) (n3 : (c.at_ == 29829) = false) (h : c.at_ < 29828) :
    Calls Tryd.prog 42 #[.agg c.cells] w fun e w' => e = .returned (.agg (c).cells) ∧ Below w.heap.size w w' := by
  obtain ⟨latch, count, pre, hold, ctl, flag, over, five, inh, frame, at_, wait, beats⟩ := c
  unfold Ck.cells
  simp only at *
  go_enter Tryd.func42, Tryd.ntmps42
  go_wp2
  refine bodyPost_ret (by simp [results, Tryd.results42, go_sem]) rfl ⟨rfl, ?_⟩
  exact below_a2 _ _ _
set_option maxHeartbeats 4000000 in
theorem four_gt (c : Ck) (w : World) (b0 : 0 ≤ c.beats) (b1 : c.beats ≤ 63) (a0 : 0 ≤ c.at_) (a1 : c.at_ ≤ 65535) (n0 : (c.at_ == 7457) = false) (n1 : (c.at_ == 14913) = false) (n2 : (c.at_ == 22371) = false) (n3 : (c.at_ == 29829) = false) (h : 29830 < c.at_) :
    Calls Tryd.prog 42 #[.agg c.cells] w fun e w' => e = .returned (.agg ({ c with at_ := 0 }).cells) ∧ Below w.heap.size w w' := by
  obtain ⟨latch, count, pre, hold, ctl, flag, over, five, inh, frame, at_, wait, beats⟩ := c
  unfold Ck.cells
  simp only at *
  go_enter Tryd.func42, Tryd.ntmps42
  go_wp2
  refine bodyPost_ret (by simp [results, Tryd.results42, go_sem]) rfl ⟨rfl, ?_⟩
  exact below_a2 _ _ _
end Go.Proofs.YtobiiogoofkmaaaDoor
namespace Go.Proofs.YtobiiogoofkmaaaDoor
open Go.RowKit Classical
/-- The document's four, as a plain function. -/
def Ck.four (c : Ck) : Ck := { c with beats := (c.beats + bt false c.at_) % 64, frame := c.frame || (!c.inh && decide (29828 ≤ c.at_ ∧ c.at_ ≤ 29830)), at_ := if 29830 ≤ c.at_ then 0 else c.at_ }
theorem four_any (c : Ck) (w : World) (b0 : 0 ≤ c.beats) (b1 : c.beats ≤ 63) (a0 : 0 ≤ c.at_) (a1 : c.at_ ≤ 65535) :
    Calls Tryd.prog 42 #[.agg c.cells] w fun e w' => e = .returned (.agg c.four.cells) ∧ Below w.heap.size w w' := by
  by_cases h0 : c.at_ = 7457
  · have e : c.four = { c with beats := (c.beats + 1) % 64 } := by
      unfold Ck.four
      rw [show bt false c.at_ = 1 by rw [h0]; rfl, decide_eq_false (by omega), if_neg (by omega), Bool.and_false, Bool.or_false]
    rw [e]; exact four_7457 c w b0 b1 a0 a1 h0
  by_cases h1 : c.at_ = 14913
  · have e : c.four = { c with beats := (c.beats + 1) % 64 } := by
      unfold Ck.four
      rw [show bt false c.at_ = 1 by rw [h1]; rfl, decide_eq_false (by omega), if_neg (by omega), Bool.and_false, Bool.or_false]
    rw [e]; exact four_14913 c w b0 b1 a0 a1 h1
  by_cases h2 : c.at_ = 22371
  · have e : c.four = { c with beats := (c.beats + 1) % 64 } := by
      unfold Ck.four
      rw [show bt false c.at_ = 1 by rw [h2]; rfl, decide_eq_false (by omega), if_neg (by omega), Bool.and_false, Bool.or_false]
    rw [e]; exact four_22371 c w b0 b1 a0 a1 h2
  by_cases g28 : c.at_ = 29828
  · rcases (show c.inh = false ∨ c.inh = true by cases c.inh <;> simp) with hi | hi
    · have e : c.four = { c with frame := true } := by
        unfold Ck.four
        rw [show bt false c.at_ = 0 by rw [g28]; rfl, show (!c.inh && decide (29828 ≤ c.at_ ∧ c.at_ ≤ 29830)) = true by rw [hi, decide_eq_true (by omega)]; rfl, Bool.or_true, if_neg (by omega), Int.add_zero, Int.emod_eq_of_lt b0 (by omega)]
      rw [e]; exact four_28_false c w b0 b1 a0 a1 g28 hi
    · have e : c.four = c := by
        unfold Ck.four
        rw [show bt false c.at_ = 0 by rw [g28]; rfl, show (!c.inh && decide (29828 ≤ c.at_ ∧ c.at_ ≤ 29830)) = false by rw [hi]; rfl, Bool.or_false, if_neg (by omega), Int.add_zero, Int.emod_eq_of_lt b0 (by omega)]
      rw [e]; exact four_28_true c w b0 b1 a0 a1 g28 hi
  by_cases g29 : c.at_ = 29829
  · rcases (show c.inh = false ∨ c.inh = true by cases c.inh <;> simp) with hi | hi
    · have e : c.four = { c with beats := (c.beats + 1) % 64, frame := true } := by
        unfold Ck.four
        rw [show bt false c.at_ = 1 by rw [g29]; rfl, show (!c.inh && decide (29828 ≤ c.at_ ∧ c.at_ ≤ 29830)) = true by rw [hi, decide_eq_true (by omega)]; rfl, Bool.or_true, if_neg (by omega)]
      rw [e]; exact four_29_false c w b0 b1 a0 a1 g29 hi
    · have e : c.four = { c with beats := (c.beats + 1) % 64 } := by
        unfold Ck.four
        rw [show bt false c.at_ = 1 by rw [g29]; rfl, show (!c.inh && decide (29828 ≤ c.at_ ∧ c.at_ ≤ 29830)) = false by rw [hi]; rfl, Bool.or_false, if_neg (by omega)]
      rw [e]; exact four_29_true c w b0 b1 a0 a1 g29 hi
  by_cases g30 : c.at_ = 29830
  · rcases (show c.inh = false ∨ c.inh = true by cases c.inh <;> simp) with hi | hi
    · have e : c.four = { c with at_ := 0, frame := true } := by
        unfold Ck.four
        rw [show bt false c.at_ = 0 by rw [g30]; rfl, show (!c.inh && decide (29828 ≤ c.at_ ∧ c.at_ ≤ 29830)) = true by rw [hi, decide_eq_true (by omega)]; rfl, Bool.or_true, if_pos (by omega), Int.add_zero, Int.emod_eq_of_lt b0 (by omega)]
      rw [e]; exact four_30_false c w b0 b1 a0 a1 g30 hi
    · have e : c.four = { c with at_ := 0 } := by
        unfold Ck.four
        rw [show bt false c.at_ = 0 by rw [g30]; rfl, show (!c.inh && decide (29828 ≤ c.at_ ∧ c.at_ ≤ 29830)) = false by rw [hi]; rfl, Bool.or_false, if_pos (by omega), Int.add_zero, Int.emod_eq_of_lt b0 (by omega)]
      rw [e]; exact four_30_true c w b0 b1 a0 a1 g30 hi
  have hb : bt false c.at_ = 0 := by unfold bt; rw [if_neg (by simp only [lastM, Bool.false_eq_true, if_false]; omega)]
  have n0 : (c.at_ == 7457) = false := by simpa using h0
  have n1 : (c.at_ == 14913) = false := by simpa using h1
  have n2 : (c.at_ == 22371) = false := by simpa using h2
  have n3 : (c.at_ == 29829) = false := by simpa using g29
  by_cases hl : c.at_ < 29828
  · have e : c.four = c := by
      unfold Ck.four
      rw [hb, decide_eq_false (by omega), if_neg (by omega), Bool.and_false, Bool.or_false, Int.add_zero, Int.emod_eq_of_lt b0 (by omega)]
    rw [e]; exact four_lt c w b0 b1 a0 a1 n0 n1 n2 n3 hl
  · have e : c.four = { c with at_ := 0 } := by
      unfold Ck.four
      rw [hb, decide_eq_false (by omega), if_pos (by omega), Bool.and_false, Bool.or_false, Int.add_zero, Int.emod_eq_of_lt b0 (by omega)]
    rw [e]; exact four_gt c w b0 b1 a0 a1 n0 n1 n2 n3 (by omega)
end Go.Proofs.YtobiiogoofkmaaaDoor
namespace Go.Proofs.YtobiiogoofkmaaaDoor
open Go.RowKit Classical
set_option maxHeartbeats 4000000 in
theorem five_7457 (c : Ck) (w : World) (b0 : 0 ≤ c.beats) (b1 : c.beats ≤ 63) (a0 : 0 ≤ c.at_) (a1 : c.at_ ≤ 65535) (h : c.at_ = 7457) :
    Calls Tryd.prog 41 #[.agg c.cells] w fun e w' => e = .returned (.agg ({ c with beats := (c.beats + 1) % 64 }).cells) ∧ Below w.heap.size w w' := by
  obtain ⟨latch, count, pre, hold, ctl, flag, over, five, inh, frame, at_, wait, beats⟩ := c
  simp only at h
  subst h
  unfold Ck.cells
  simp only at *
  go_enter Tryd.func41, Tryd.ntmps41
  go_wp2_with (go_at_call 43; refine (rbeat_ex ⟨latch, count, pre, hold, ctl, flag, over, five, inh, frame, 7457, wait, beats⟩ _ b0 b1).mono ?_; rintro e w2 ⟨rfl, rfl⟩; simp only [Ck.cells])
  refine bodyPost_ret (by simp [results, Tryd.results41, go_sem]) rfl ⟨rfl, ?_⟩
  exact below_c4 (Below.refl _ _) (Nat.le_refl _) _ _ _ _
set_option maxHeartbeats 4000000 in
theorem five_14913 (c : Ck) (w : World) (b0 : 0 ≤ c.beats) (b1 : c.beats ≤ 63) (a0 : 0 ≤ c.at_) (a1 : c.at_ ≤ 65535) (h : c.at_ = 14913) :
    Calls Tryd.prog 41 #[.agg c.cells] w fun e w' => e = .returned (.agg ({ c with beats := (c.beats + 1) % 64 }).cells) ∧ Below w.heap.size w w' := by
  obtain ⟨latch, count, pre, hold, ctl, flag, over, five, inh, frame, at_, wait, beats⟩ := c
  simp only at h
  subst h
  unfold Ck.cells
  simp only at *
  go_enter Tryd.func41, Tryd.ntmps41
  go_wp2_with (go_at_call 43; refine (rbeat_ex ⟨latch, count, pre, hold, ctl, flag, over, five, inh, frame, 14913, wait, beats⟩ _ b0 b1).mono ?_; rintro e w2 ⟨rfl, rfl⟩; simp only [Ck.cells])
  refine bodyPost_ret (by simp [results, Tryd.results41, go_sem]) rfl ⟨rfl, ?_⟩
  exact below_c4 (Below.refl _ _) (Nat.le_refl _) _ _ _ _
set_option maxHeartbeats 4000000 in
theorem five_22371 (c : Ck) (w : World) (b0 : 0 ≤ c.beats) (b1 : c.beats ≤ 63) (a0 : 0 ≤ c.at_) (a1 : c.at_ ≤ 65535) (h : c.at_ = 22371) :
    Calls Tryd.prog 41 #[.agg c.cells] w fun e w' => e = .returned (.agg ({ c with beats := (c.beats + 1) % 64 }).cells) ∧ Below w.heap.size w w' := by
  obtain ⟨latch, count, pre, hold, ctl, flag, over, five, inh, frame, at_, wait, beats⟩ := c
  simp only at h
  subst h
  unfold Ck.cells
  simp only at *
  go_enter Tryd.func41, Tryd.ntmps41
  go_wp2_with (go_at_call 43; refine (rbeat_ex ⟨latch, count, pre, hold, ctl, flag, over, five, inh, frame, 22371, wait, beats⟩ _ b0 b1).mono ?_; rintro e w2 ⟨rfl, rfl⟩; simp only [Ck.cells])
  refine bodyPost_ret (by simp [results, Tryd.results41, go_sem]) rfl ⟨rfl, ?_⟩
  exact below_c4 (Below.refl _ _) (Nat.le_refl _) _ _ _ _
set_option maxHeartbeats 4000000 in
theorem five_37281 (c : Ck) (w : World) (b0 : 0 ≤ c.beats) (b1 : c.beats ≤ 63) (a0 : 0 ≤ c.at_) (a1 : c.at_ ≤ 65535) (h : c.at_ = 37281) :
    Calls Tryd.prog 41 #[.agg c.cells] w fun e w' => e = .returned (.agg ({ c with beats := (c.beats + 1) % 64 }).cells) ∧ Below w.heap.size w w' := by
  obtain ⟨latch, count, pre, hold, ctl, flag, over, five, inh, frame, at_, wait, beats⟩ := c
  simp only at h
  subst h
  unfold Ck.cells
  simp only at *
  go_enter Tryd.func41, Tryd.ntmps41
  go_wp2_with (go_at_call 43; refine (rbeat_ex ⟨latch, count, pre, hold, ctl, flag, over, five, inh, frame, 37281, wait, beats⟩ _ b0 b1).mono ?_; rintro e w2 ⟨rfl, rfl⟩; simp only [Ck.cells])
  refine bodyPost_ret (by simp [results, Tryd.results41, go_sem]) rfl ⟨rfl, ?_⟩
  exact below_c4 (Below.refl _ _) (Nat.le_refl _) _ _ _ _
set_option maxHeartbeats 4000000 in
theorem five_lt (c : Ck) (w : World) (b0 : 0 ≤ c.beats) (b1 : c.beats ≤ 63) (a0 : 0 ≤ c.at_) (a1 : c.at_ ≤ 65535) (n0 : (c.at_ == 7457) = false) (n1 : (c.at_ == 14913) = false) (n2 : (c.at_ == 22371) = false) (n3 : (c.at_ == 37281) = false) (h : c.at_ < 37282) :
    Calls Tryd.prog 41 #[.agg c.cells] w fun e w' => e = .returned (.agg (c).cells) ∧ Below w.heap.size w w' := by
  obtain ⟨latch, count, pre, hold, ctl, flag, over, five, inh, frame, at_, wait, beats⟩ := c
  unfold Ck.cells
  simp only at *
  go_enter Tryd.func41, Tryd.ntmps41
  go_wp2
  refine bodyPost_ret (by simp [results, Tryd.results41, go_sem]) rfl ⟨rfl, ?_⟩
  exact below_a2 _ _ _
set_option maxHeartbeats 4000000 in
theorem five_gt (c : Ck) (w : World) (b0 : 0 ≤ c.beats) (b1 : c.beats ≤ 63) (a0 : 0 ≤ c.at_) (a1 : c.at_ ≤ 65535) (n0 : (c.at_ == 7457) = false) (n1 : (c.at_ == 14913) = false) (n2 : (c.at_ == 22371) = false) (n3 : (c.at_ == 37281) = false) (h : ¬ c.at_ < 37282) :
    Calls Tryd.prog 41 #[.agg c.cells] w fun e w' => e = .returned (.agg ({ c with at_ := 0 }).cells) ∧ Below w.heap.size w w' := by
  obtain ⟨latch, count, pre, hold, ctl, flag, over, five, inh, frame, at_, wait, beats⟩ := c
  unfold Ck.cells
  simp only at *
  go_enter Tryd.func41, Tryd.ntmps41
  go_wp2
  refine bodyPost_ret (by simp [results, Tryd.results41, go_sem]) rfl ⟨rfl, ?_⟩
  exact below_a2 _ _ _
end Go.Proofs.YtobiiogoofkmaaaDoor
namespace Go.Proofs.YtobiiogoofkmaaaDoor
open Go.RowKit Classical
/-- The document's five, as a plain function. -/
def Ck.fiveF (c : Ck) : Ck := { c with beats := (c.beats + bt true c.at_) % 64, at_ := if 37282 ≤ c.at_ then 0 else c.at_ }
theorem five_any (c : Ck) (w : World) (b0 : 0 ≤ c.beats) (b1 : c.beats ≤ 63) (a0 : 0 ≤ c.at_) (a1 : c.at_ ≤ 65535) :
    Calls Tryd.prog 41 #[.agg c.cells] w fun e w' => e = .returned (.agg c.fiveF.cells) ∧ Below w.heap.size w w' := by
  by_cases h0 : c.at_ = 7457
  · have e : c.fiveF = { c with beats := (c.beats + 1) % 64 } := by
      unfold Ck.fiveF
      rw [show bt true c.at_ = 1 by rw [h0]; rfl, if_neg (by omega)]
    rw [e]; exact five_7457 c w b0 b1 a0 a1 h0
  by_cases h1 : c.at_ = 14913
  · have e : c.fiveF = { c with beats := (c.beats + 1) % 64 } := by
      unfold Ck.fiveF
      rw [show bt true c.at_ = 1 by rw [h1]; rfl, if_neg (by omega)]
    rw [e]; exact five_14913 c w b0 b1 a0 a1 h1
  by_cases h2 : c.at_ = 22371
  · have e : c.fiveF = { c with beats := (c.beats + 1) % 64 } := by
      unfold Ck.fiveF
      rw [show bt true c.at_ = 1 by rw [h2]; rfl, if_neg (by omega)]
    rw [e]; exact five_22371 c w b0 b1 a0 a1 h2
  by_cases h3 : c.at_ = 37281
  · have e : c.fiveF = { c with beats := (c.beats + 1) % 64 } := by
      unfold Ck.fiveF
      rw [show bt true c.at_ = 1 by rw [h3]; rfl, if_neg (by omega)]
    rw [e]; exact five_37281 c w b0 b1 a0 a1 h3
  have hb : bt true c.at_ = 0 := by unfold bt; rw [if_neg (by simp only [lastM, if_true]; omega)]
  have n0 : (c.at_ == 7457) = false := by simpa using h0
  have n1 : (c.at_ == 14913) = false := by simpa using h1
  have n2 : (c.at_ == 22371) = false := by simpa using h2
  have n3 : (c.at_ == 37281) = false := by simpa using h3
  by_cases hl : c.at_ < 37282
  · have e : c.fiveF = c := by
      unfold Ck.fiveF
      rw [hb, if_neg (by omega), Int.add_zero, Int.emod_eq_of_lt b0 (by omega)]
    rw [e]; exact five_lt c w b0 b1 a0 a1 n0 n1 n2 n3 hl
  · have e : c.fiveF = { c with at_ := 0 } := by
      unfold Ck.fiveF
      rw [hb, if_pos (by omega), Int.add_zero, Int.emod_eq_of_lt b0 (by omega)]
    rw [e]; exact five_gt c w b0 b1 a0 a1 n0 n1 n2 n3 hl
end Go.Proofs.YtobiiogoofkmaaaDoor
