/-
  The document's Write; conditions: the numbers fit their kinds.
  The document's Write; conditions: the numbers fit their kinds.
  The document's Write; conditions: the numbers fit their kinds.
  The document's Write; conditions: the numbers fit their kinds.
  The document's Write; conditions: the numbers fit their kinds.
  The document's Write; conditions: the numbers fit their kinds.
  The document's Write; conditions: the numbers fit their kinds.
-/
import Derived.Test.YtobiiogoofkmaaaDoorTWrite0
import Derived.Test.YtobiiogoofkmaaaDoorTRValid
import Derived.Test.YtobiiogoofkmaaaDoorTQuo
set_option linter.unusedSimpArgs false
set_option linter.unusedVariables false
namespace Go.Proofs.YtobiiogoofkmaaaDoor
open Go.RowKit Classical
set_option maxHeartbeats 2000000 in
theorem rwrite_no (c : Ck) (w : World) (v cycle : Int) (o : c.Ok) (hv : c.valid = false) (v0 : 0 ≤ v) (v1 : v ≤ 255) (a : Int) :
    Calls Tryd.prog 13 #[.agg c.cells, .int .u16 a, .int .u8 v, .int .i64 cycle] w fun e w' => e = .returned (.agg (c).cells) ∧ Below w.heap.size w w' := by
  have V : ∀ W, Calls Tryd.prog 28 #[.agg c.cells] W fun e w' => e = .returned (.bool false) ∧ ∃ n, w' = (W.alloc (.cells c.cells 24)).drewN n := fun W => by
    have := rvalid_ex c W o
    rwa [hv] at this
  clear hv
  obtain ⟨latch, count, pre, hold, ctl, flag, over, five, inh, frame, at_, wait, beats⟩ := c
  have VH : Hid _ := V
  clear V
  unfold Ck.cells
  simp only [Ck.ack, Ck.seq]
  go_enter Tryd.func13, Tryd.ntmps13
  go_wp2_with (go_at_call 28; refine (VH.out _).mono ?_; rintro e w2 ⟨rfl, n, rfl⟩; rw [drewN_alloc, drewN_alloc, drewN_alloc]; have b1 : Below w.heap.size w (w.drewN n) := below_draws (Below.refl _ _) n; have z1 : w.heap.size ≤ (w.drewN n).heap.size := Nat.le_refl _; rw [drewN_size w n]; generalize w.drewN n = w1 at *)
  refine bodyPost_ret (by simp [results, Tryd.results13, go_sem]) rfl ⟨rfl, ?_⟩
  exact below_c3 b1 z1 _ _ _
set_option maxHeartbeats 2000000 in
theorem rwrite_other (c : Ck) (w : World) (v cycle : Int) (o : c.Ok) (hv : c.valid = true) (v0 : 0 ≤ v) (v1 : v ≤ 255) (a : Int) (n17 : (a == 16407) = false) (n18 : (a == 16408) = false) (n19 : (a == 16409) = false) (n1a : (a == 16410) = false) (n1b : (a == 16411) = false) :
    Calls Tryd.prog 13 #[.agg c.cells, .int .u16 a, .int .u8 v, .int .i64 cycle] w fun e w' => e = .returned (.agg (c).cells) ∧ Below w.heap.size w w' := by
  have V : ∀ W, Calls Tryd.prog 28 #[.agg c.cells] W fun e w' => e = .returned (.bool true) ∧ ∃ n, w' = (W.alloc (.cells c.cells 24)).drewN n := fun W => by
    have := rvalid_ex c W o
    rwa [hv] at this
  clear hv
  obtain ⟨latch, count, pre, hold, ctl, flag, over, five, inh, frame, at_, wait, beats⟩ := c
  have VH : Hid _ := V
  clear V
  unfold Ck.cells
  simp only [Ck.ack, Ck.seq]
  go_enter Tryd.func13, Tryd.ntmps13
  go_wp2_with (go_at_call 28; refine (VH.out _).mono ?_; rintro e w2 ⟨rfl, n, rfl⟩; rw [drewN_alloc, drewN_alloc, drewN_alloc]; have b1 : Below w.heap.size w (w.drewN n) := below_draws (Below.refl _ _) n; have z1 : w.heap.size ≤ (w.drewN n).heap.size := Nat.le_refl _; rw [drewN_size w n]; generalize w.drewN n = w1 at *)
  refine bodyPost_ret (by simp [results, Tryd.results13, go_sem]) rfl ⟨rfl, ?_⟩
  exact below_c3 b1 z1 _ _ _
end Go.Proofs.YtobiiogoofkmaaaDoor
namespace Go.Proofs.YtobiiogoofkmaaaDoor
open Go.RowKit Classical
set_option maxHeartbeats 2000000 in
theorem rwrite_18 (c : Ck) (w : World) (v cycle : Int) (o : c.Ok) (hv : c.valid = true) (v0 : 0 ≤ v) (v1 : v ≤ 255) :
    Calls Tryd.prog 13 #[.agg c.cells, .int .u16 16408, .int .u8 v, .int .i64 cycle] w fun e w' => e = .returned (.agg ({ c with latch := c.latch / 256 * 256 + v }).cells) ∧ Below w.heap.size w w' := by
  have V : ∀ W, Calls Tryd.prog 28 #[.agg c.cells] W fun e w' => e = .returned (.bool true) ∧ ∃ n, w' = (W.alloc (.cells c.cells 24)).drewN n := fun W => by
    have := rvalid_ex c W o
    rwa [hv] at this
  have l0 := quo16 c.latch o.latch.1 o.latch.2
  have l1 := mul16 c.latch o.latch.1 o.latch.2
  have l2 := add16 c.latch v o.latch.1 o.latch.2 v0 v1
  clear hv
  obtain ⟨latch, count, pre, hold, ctl, flag, over, five, inh, frame, at_, wait, beats⟩ := c
  have VH : Hid _ := V
  clear V
  unfold Ck.cells
  simp only [Ck.ack, Ck.seq]
  simp only at l0 l1 l2
  go_enter Tryd.func13, Tryd.ntmps13
  go_wp2_with (go_at_call 28; refine (VH.out _).mono ?_; rintro e w2 ⟨rfl, n, rfl⟩; rw [drewN_alloc, drewN_alloc, drewN_alloc]; have b1 : Below w.heap.size w (w.drewN n) := below_draws (Below.refl _ _) n; have z1 : w.heap.size ≤ (w.drewN n).heap.size := Nat.le_refl _; rw [drewN_size w n]; generalize w.drewN n = w1 at *)
  refine bodyPost_ret (by simp [results, Tryd.results13, go_sem]) rfl ⟨rfl, ?_⟩
  exact below_c3 b1 z1 _ _ _
end Go.Proofs.YtobiiogoofkmaaaDoor
namespace Go.Proofs.YtobiiogoofkmaaaDoor
open Go.RowKit Classical
set_option maxHeartbeats 2000000 in
theorem rwrite_19 (c : Ck) (w : World) (v cycle : Int) (o : c.Ok) (hv : c.valid = true) (v0 : 0 ≤ v) (v1 : v ≤ 255) :
    Calls Tryd.prog 13 #[.agg c.cells, .int .u16 16409, .int .u8 v, .int .i64 cycle] w fun e w' => e = .returned (.agg ({ c with latch := c.latch % 256 + v * 256 }).cells) ∧ Below w.heap.size w w' := by
  have V : ∀ W, Calls Tryd.prog 28 #[.agg c.cells] W fun e w' => e = .returned (.bool true) ∧ ∃ n, w' = (W.alloc (.cells c.cells 24)).drewN n := fun W => by
    have := rvalid_ex c W o
    rwa [hv] at this
  have hl := o.latch
  clear hv
  obtain ⟨latch, count, pre, hold, ctl, flag, over, five, inh, frame, at_, wait, beats⟩ := c
  have VH : Hid _ := V
  clear V
  unfold Ck.cells
  simp only [Ck.ack, Ck.seq]
  simp only at hl
  go_enter Tryd.func13, Tryd.ntmps13
  go_wp2_with (go_at_call 28; refine (VH.out _).mono ?_; rintro e w2 ⟨rfl, n, rfl⟩; rw [drewN_alloc, drewN_alloc, drewN_alloc]; have b1 : Below w.heap.size w (w.drewN n) := below_draws (Below.refl _ _) n; have z1 : w.heap.size ≤ (w.drewN n).heap.size := Nat.le_refl _; rw [drewN_size w n]; generalize w.drewN n = w1 at *)
  refine bodyPost_ret (by simp [results, Tryd.results13, go_sem]; omega) rfl ⟨rfl, ?_⟩
  exact below_c3 b1 z1 _ _ _
end Go.Proofs.YtobiiogoofkmaaaDoor
namespace Go.Proofs.YtobiiogoofkmaaaDoor
open Go.RowKit Classical
set_option maxHeartbeats 2000000 in
theorem rwrite_1a1 (c : Ck) (w : World) (v cycle : Int) (o : c.Ok) (hv : c.valid = true) (v0 : 0 ≤ v) (v1 : v ≤ 255) (h : 128 ≤ v) :
    Calls Tryd.prog 13 #[.agg c.cells, .int .u16 16410, .int .u8 v, .int .i64 cycle] w fun e w' => e = .returned (.agg ({ c with ctl := v % 32, pre := 0, count := c.latch }).cells) ∧ Below w.heap.size w w' := by
  have V : ∀ W, Calls Tryd.prog 28 #[.agg c.cells] W fun e w' => e = .returned (.bool true) ∧ ∃ n, w' = (W.alloc (.cells c.cells 24)).drewN n := fun W => by
    have := rvalid_ex c W o
    rwa [hv] at this
  clear hv
  obtain ⟨latch, count, pre, hold, ctl, flag, over, five, inh, frame, at_, wait, beats⟩ := c
  have VH : Hid _ := V
  clear V
  unfold Ck.cells
  simp only [Ck.ack, Ck.seq]
  go_enter Tryd.func13, Tryd.ntmps13
  go_wp2_with (go_at_call 28; refine (VH.out _).mono ?_; rintro e w2 ⟨rfl, n, rfl⟩; rw [drewN_alloc, drewN_alloc, drewN_alloc]; have b1 : Below w.heap.size w (w.drewN n) := below_draws (Below.refl _ _) n; have z1 : w.heap.size ≤ (w.drewN n).heap.size := Nat.le_refl _; rw [drewN_size w n]; generalize w.drewN n = w1 at *)
  refine bodyPost_ret (by simp [results, Tryd.results13, go_sem]) rfl ⟨rfl, ?_⟩
  exact below_c3 b1 z1 _ _ _
set_option maxHeartbeats 2000000 in
theorem rwrite_1a0 (c : Ck) (w : World) (v cycle : Int) (o : c.Ok) (hv : c.valid = true) (v0 : 0 ≤ v) (v1 : v ≤ 255) (h : ¬ 128 ≤ v) :
    Calls Tryd.prog 13 #[.agg c.cells, .int .u16 16410, .int .u8 v, .int .i64 cycle] w fun e w' => e = .returned (.agg ({ c with ctl := v % 32, pre := 0 }).cells) ∧ Below w.heap.size w w' := by
  have V : ∀ W, Calls Tryd.prog 28 #[.agg c.cells] W fun e w' => e = .returned (.bool true) ∧ ∃ n, w' = (W.alloc (.cells c.cells 24)).drewN n := fun W => by
    have := rvalid_ex c W o
    rwa [hv] at this
  clear hv
  obtain ⟨latch, count, pre, hold, ctl, flag, over, five, inh, frame, at_, wait, beats⟩ := c
  have VH : Hid _ := V
  clear V
  unfold Ck.cells
  simp only [Ck.ack, Ck.seq]
  go_enter Tryd.func13, Tryd.ntmps13
  go_wp2_with (go_at_call 28; refine (VH.out _).mono ?_; rintro e w2 ⟨rfl, n, rfl⟩; rw [drewN_alloc, drewN_alloc, drewN_alloc]; have b1 : Below w.heap.size w (w.drewN n) := below_draws (Below.refl _ _) n; have z1 : w.heap.size ≤ (w.drewN n).heap.size := Nat.le_refl _; rw [drewN_size w n]; generalize w.drewN n = w1 at *)
  refine bodyPost_ret (by simp [results, Tryd.results13, go_sem]) rfl ⟨rfl, ?_⟩
  exact below_c3 b1 z1 _ _ _
end Go.Proofs.YtobiiogoofkmaaaDoor
namespace Go.Proofs.YtobiiogoofkmaaaDoor
open Go.RowKit Classical
set_option maxHeartbeats 2000000 in
theorem rwrite_1b (c : Ck) (w : World) (v cycle : Int) (o : c.Ok) (hv : c.valid = true) (v0 : 0 ≤ v) (v1 : v ≤ 255) :
    Calls Tryd.prog 13 #[.agg c.cells, .int .u16 16411, .int .u8 v, .int .i64 cycle] w fun e w' => e = .returned (.agg (c.ack).cells) ∧ Below w.heap.size w w' := by
  have V : ∀ W, Calls Tryd.prog 28 #[.agg c.cells] W fun e w' => e = .returned (.bool true) ∧ ∃ n, w' = (W.alloc (.cells c.cells 24)).drewN n := fun W => by
    have := rvalid_ex c W o
    rwa [hv] at this
  clear hv
  obtain ⟨latch, count, pre, hold, ctl, flag, over, five, inh, frame, at_, wait, beats⟩ := c
  have VH : Hid _ := V
  clear V
  unfold Ck.cells
  simp only [Ck.ack, Ck.seq]
  go_enter Tryd.func13, Tryd.ntmps13
  go_wp2_with (go_at_call 28; refine (VH.out _).mono ?_; rintro e w2 ⟨rfl, n, rfl⟩; rw [drewN_alloc, drewN_alloc, drewN_alloc]; have b1 : Below w.heap.size w (w.drewN n) := below_draws (Below.refl _ _) n; have z1 : w.heap.size ≤ (w.drewN n).heap.size := Nat.le_refl _; rw [drewN_size w n]; generalize w.drewN n = w1 at *)
  refine bodyPost_ret (by simp [results, Tryd.results13, go_sem]) rfl ⟨rfl, ?_⟩
  exact below_c3 b1 z1 _ _ _
end Go.Proofs.YtobiiogoofkmaaaDoor
namespace Go.Proofs.YtobiiogoofkmaaaDoor
open Go.RowKit Classical
set_option maxHeartbeats 2000000 in
theorem rwrite_17 (c : Ck) (w : World) (v cycle : Int) (o : c.Ok) (hv : c.valid = true) (v0 : 0 ≤ v) (v1 : v ≤ 255) :
    Calls Tryd.prog 13 #[.agg c.cells, .int .u16 16407, .int .u8 v, .int .i64 cycle] w fun e w' => e = .returned (.agg (c.seq v cycle).cells) ∧ Below w.heap.size w w' := by
  have V : ∀ W, Calls Tryd.prog 28 #[.agg c.cells] W fun e w' => e = .returned (.bool true) ∧ ∃ n, w' = (W.alloc (.cells c.cells 24)).drewN n := fun W => by
    have := rvalid_ex c W o
    rwa [hv] at this
  clear hv
  obtain ⟨latch, count, pre, hold, ctl, flag, over, five, inh, frame, at_, wait, beats⟩ := c
  have VH : Hid _ := V
  clear V
  unfold Ck.cells
  simp only [Ck.ack, Ck.seq]
  have a3 := i64_and1 cycle
  by_cases h1 : 128 ≤ v
  all_goals by_cases h2 : v / 64 % 2 = 1
  all_goals by_cases h3 : cycle % 2 = 0
  all_goals
    first | rw [if_pos h3] | rw [if_neg h3]
    first | rw [h3] at a3 | rw [show cycle % 2 = 1 by omega] at a3
    first | rw [decide_eq_true h1] | rw [decide_eq_false h1]
    first | rw [decide_eq_true h2] | rw [decide_eq_false h2]
    simp only [Bool.not_true, Bool.not_false, Bool.and_true, Bool.and_false]
    go_enter Tryd.func13, Tryd.ntmps13
    go_wp2_with (go_at_call 28; refine (VH.out _).mono ?_; rintro e w2 ⟨rfl, n, rfl⟩; rw [drewN_alloc, drewN_alloc, drewN_alloc]; have b1 : Below w.heap.size w (w.drewN n) := below_draws (Below.refl _ _) n; have z1 : w.heap.size ≤ (w.drewN n).heap.size := Nat.le_refl _; rw [drewN_size w n]; generalize w.drewN n = w1 at *)
    refine bodyPost_ret (by simp [results, Tryd.results13, go_sem] <;> omega) rfl ⟨rfl, ?_⟩
    exact below_c3 b1 z1 _ _ _
end Go.Proofs.YtobiiogoofkmaaaDoor
namespace Go.Proofs.YtobiiogoofkmaaaDoor
open Go.RowKit Classical
theorem rwrite_any (c : Ck) (w : World) (a v cycle : Int) (o : c.Ok) (v0 : 0 ≤ v) (v1 : v ≤ 255) :
    Calls Tryd.prog 13 #[.agg c.cells, .int .u16 a, .int .u8 v, .int .i64 cycle] w fun e w' => e = .returned (.agg (c.wr a v cycle).cells) ∧ Below w.heap.size w w' := by
  unfold Ck.wr
  cases hv : c.valid
  · rw [if_pos rfl]; exact rwrite_no c w v cycle o hv v0 v1 a
  rw [if_neg (by decide)]
  by_cases h1 : a = 16407
  · subst h1; rw [if_pos rfl]; exact rwrite_17 c w v cycle o hv v0 v1
  rw [if_neg h1]
  by_cases h2 : a = 16408
  · subst h2; rw [if_pos rfl]; exact rwrite_18 c w v cycle o hv v0 v1
  rw [if_neg h2]
  by_cases h3 : a = 16409
  · subst h3; rw [if_pos rfl]; exact rwrite_19 c w v cycle o hv v0 v1
  rw [if_neg h3]
  by_cases h4 : a = 16410
  · subst h4; rw [if_pos rfl]
    by_cases h : 128 ≤ v
    · rw [if_pos h]; exact rwrite_1a1 c w v cycle o hv v0 v1 h
    · rw [if_neg h]; exact rwrite_1a0 c w v cycle o hv v0 v1 h
  rw [if_neg h4]
  by_cases h5 : a = 16411
  · subst h5; rw [if_pos rfl]; exact rwrite_1b c w v cycle o hv v0 v1
  rw [if_neg h5]
  exact rwrite_other c w v cycle o hv v0 v1 a (by simpa using h1) (by simpa using h2) (by simpa using h3) (by simpa using h4) (by simpa using h5)
end Go.Proofs.YtobiiogoofkmaaaDoor
