/-
  The contract of Write; conditions: the table of the dividers lies in its variable, the numbers fit their kinds.
  The contract of Write; conditions: the table of the dividers lies in its variable, the numbers fit their kinds.
  The contract of Write; conditions: the table of the dividers lies in its variable, the numbers fit their kinds.
  The contract of Write; conditions: the table of the dividers lies in its variable, the numbers fit their kinds.
  The contract of Write; conditions: the table of the dividers lies in its variable, the numbers fit their kinds.
  The contract of Write; conditions: the table of the dividers lies in its variable, the numbers fit their kinds.
  The contract of Write; conditions: the table of the dividers lies in its variable, the numbers fit their kinds.
-/
import Derived.Test.YtobiiogoofkmaaaDoorTWrite0
set_option linter.unusedSimpArgs false
set_option linter.unusedVariables false
namespace Go.Proofs.YtobiiogoofkmaaaDoor
open Go.RowKit Classical
set_option maxHeartbeats 2000000 in
theorem write_no (c : Ck) (w : World) (v cycle : Int) (o : c.Ok) (T : DTab w) (hv : c.valid = false) (v0 : 0 ≤ v) (v1 : v ≤ 255) (a : Int) :
    Calls Tryd.prog 7 #[.agg c.cells, .int .u16 a, .int .u8 v, .int .i64 cycle] w fun e w' => e = .returned (.agg (c).cells) ∧ Below w.heap.size w w' := by
  have V : ∀ W, DTab W → Calls Tryd.prog 5 #[.agg c.cells] W fun e w' => e = .returned (.bool false) ∧ ∃ n, w' = (W.alloc (.cells c.cells 24)).drewN n := fun W hW => by
    have := valid_ex c W o hW
    rwa [hv] at this
  clear hv
  obtain ⟨latch, count, pre, hold, ctl, flag, over, five, inh, frame, at_, wait, beats⟩ := c
  have VH : Hid _ := V
  clear V
  unfold Ck.cells
  simp only [Ck.ack, Ck.seq]
  go_enter Tryd.func7, Tryd.ntmps7
  go_wp2_with (go_at_call 5; refine (VH.out _ (T.on (below_a2 _ _ _))).mono ?_; rintro e w2 ⟨rfl, n, rfl⟩; rw [drewN_alloc, drewN_alloc, drewN_alloc]; have b1 : Below w.heap.size w (w.drewN n) := below_draws (Below.refl _ _) n; have z1 : w.heap.size ≤ (w.drewN n).heap.size := Nat.le_refl _; rw [drewN_size w n]; generalize w.drewN n = w1 at *)
  refine bodyPost_ret (by simp [results, Tryd.results7, go_sem]) rfl ⟨rfl, ?_⟩
  exact below_c3 b1 z1 _ _ _
set_option maxHeartbeats 2000000 in
theorem write_other (c : Ck) (w : World) (v cycle : Int) (o : c.Ok) (T : DTab w) (hv : c.valid = true) (v0 : 0 ≤ v) (v1 : v ≤ 255) (a : Int) (n17 : (a == 16407) = false) (n18 : (a == 16408) = false) (n19 : (a == 16409) = false) (n1a : (a == 16410) = false) (n1b : (a == 16411) = false) :
    Calls Tryd.prog 7 #[.agg c.cells, .int .u16 a, .int .u8 v, .int .i64 cycle] w fun e w' => e = .returned (.agg (c).cells) ∧ Below w.heap.size w w' := by
  have V : ∀ W, DTab W → Calls Tryd.prog 5 #[.agg c.cells] W fun e w' => e = .returned (.bool true) ∧ ∃ n, w' = (W.alloc (.cells c.cells 24)).drewN n := fun W hW => by
    have := valid_ex c W o hW
    rwa [hv] at this
  clear hv
  obtain ⟨latch, count, pre, hold, ctl, flag, over, five, inh, frame, at_, wait, beats⟩ := c
  have VH : Hid _ := V
  clear V
  unfold Ck.cells
  simp only [Ck.ack, Ck.seq]
  go_enter Tryd.func7, Tryd.ntmps7
  go_wp2_with (go_at_call 5; refine (VH.out _ (T.on (below_a2 _ _ _))).mono ?_; rintro e w2 ⟨rfl, n, rfl⟩; rw [drewN_alloc, drewN_alloc, drewN_alloc]; have b1 : Below w.heap.size w (w.drewN n) := below_draws (Below.refl _ _) n; have z1 : w.heap.size ≤ (w.drewN n).heap.size := Nat.le_refl _; rw [drewN_size w n]; generalize w.drewN n = w1 at *)
  refine bodyPost_ret (by simp [results, Tryd.results7, go_sem]) rfl ⟨rfl, ?_⟩
  exact below_c3 b1 z1 _ _ _
end Go.Proofs.YtobiiogoofkmaaaDoor
namespace Go.Proofs.YtobiiogoofkmaaaDoor
open Go.RowKit Classical
set_option maxHeartbeats 2000000 in
theorem write_18 (c : Ck) (w : World) (v cycle : Int) (o : c.Ok) (T : DTab w) (hv : c.valid = true) (v0 : 0 ≤ v) (v1 : v ≤ 255) :
    Calls Tryd.prog 7 #[.agg c.cells, .int .u16 16408, .int .u8 v, .int .i64 cycle] w fun e w' => e = .returned (.agg ({ c with latch := c.latch / 256 * 256 + v }).cells) ∧ Below w.heap.size w w' := by
  have V : ∀ W, DTab W → Calls Tryd.prog 5 #[.agg c.cells] W fun e w' => e = .returned (.bool true) ∧ ∃ n, w' = (W.alloc (.cells c.cells 24)).drewN n := fun W hW => by
    have := valid_ex c W o hW
    rwa [hv] at this
  have hl := o.latch
  have e1 := andHi c.latch o.latch.1 o.latch.2
  have e2 := orHi (c.latch / 256) v (by have := o.latch; omega) (by have := o.latch; omega) v0 v1
  clear hv
  obtain ⟨latch, count, pre, hold, ctl, flag, over, five, inh, frame, at_, wait, beats⟩ := c
  have VH : Hid _ := V
  clear V
  unfold Ck.cells
  simp only [Ck.ack, Ck.seq]
  simp only at hl e1 e2
  go_enter Tryd.func7, Tryd.ntmps7
  go_wp2_with (go_at_call 5; refine (VH.out _ (T.on (below_a2 _ _ _))).mono ?_; rintro e w2 ⟨rfl, n, rfl⟩; rw [drewN_alloc, drewN_alloc, drewN_alloc]; have b1 : Below w.heap.size w (w.drewN n) := below_draws (Below.refl _ _) n; have z1 : w.heap.size ≤ (w.drewN n).heap.size := Nat.le_refl _; rw [drewN_size w n]; generalize w.drewN n = w1 at *)
  refine bodyPost_ret (by simp [results, Tryd.results7, go_sem]) rfl ⟨rfl, ?_⟩
  exact below_c3 b1 z1 _ _ _
end Go.Proofs.YtobiiogoofkmaaaDoor
namespace Go.Proofs.YtobiiogoofkmaaaDoor
open Go.RowKit Classical
set_option maxHeartbeats 2000000 in
theorem write_19 (c : Ck) (w : World) (v cycle : Int) (o : c.Ok) (T : DTab w) (hv : c.valid = true) (v0 : 0 ≤ v) (v1 : v ≤ 255) :
    Calls Tryd.prog 7 #[.agg c.cells, .int .u16 16409, .int .u8 v, .int .i64 cycle] w fun e w' => e = .returned (.agg ({ c with latch := c.latch % 256 + v * 256 }).cells) ∧ Below w.heap.size w w' := by
  have V : ∀ W, DTab W → Calls Tryd.prog 5 #[.agg c.cells] W fun e w' => e = .returned (.bool true) ∧ ∃ n, w' = (W.alloc (.cells c.cells 24)).drewN n := fun W hW => by
    have := valid_ex c W o hW
    rwa [hv] at this
  have hl := o.latch
  have e1 := andLo c.latch o.latch.1 o.latch.2
  have e2 := orLo v (c.latch % 256) v0 v1 (by omega) (by omega)
  clear hv
  obtain ⟨latch, count, pre, hold, ctl, flag, over, five, inh, frame, at_, wait, beats⟩ := c
  have VH : Hid _ := V
  clear V
  unfold Ck.cells
  simp only [Ck.ack, Ck.seq]
  simp only at hl e1 e2
  go_enter Tryd.func7, Tryd.ntmps7
  go_wp2_with (go_at_call 5; refine (VH.out _ (T.on (below_a2 _ _ _))).mono ?_; rintro e w2 ⟨rfl, n, rfl⟩; rw [drewN_alloc, drewN_alloc, drewN_alloc]; have b1 : Below w.heap.size w (w.drewN n) := below_draws (Below.refl _ _) n; have z1 : w.heap.size ≤ (w.drewN n).heap.size := Nat.le_refl _; rw [drewN_size w n]; generalize w.drewN n = w1 at *)
  refine bodyPost_ret (by simp [results, Tryd.results7, go_sem]) rfl ⟨rfl, ?_⟩
  exact below_c3 b1 z1 _ _ _
end Go.Proofs.YtobiiogoofkmaaaDoor
namespace Go.Proofs.YtobiiogoofkmaaaDoor
open Go.RowKit Classical
set_option maxHeartbeats 2000000 in
theorem write_1a1 (c : Ck) (w : World) (v cycle : Int) (o : c.Ok) (T : DTab w) (hv : c.valid = true) (v0 : 0 ≤ v) (v1 : v ≤ 255) (h : 128 ≤ v) :
    Calls Tryd.prog 7 #[.agg c.cells, .int .u16 16410, .int .u8 v, .int .i64 cycle] w fun e w' => e = .returned (.agg ({ c with ctl := v % 32, pre := 0, count := c.latch }).cells) ∧ Below w.heap.size w w' := by
  have V : ∀ W, DTab W → Calls Tryd.prog 5 #[.agg c.cells] W fun e w' => e = .returned (.bool true) ∧ ∃ n, w' = (W.alloc (.cells c.cells 24)).drewN n := fun W hW => by
    have := valid_ex c W o hW
    rwa [hv] at this
  have e1 := and31 v v0 v1
  have e2 := and128 v v0 v1
  rw [if_pos h] at e2
  clear hv
  obtain ⟨latch, count, pre, hold, ctl, flag, over, five, inh, frame, at_, wait, beats⟩ := c
  have VH : Hid _ := V
  clear V
  unfold Ck.cells
  simp only [Ck.ack, Ck.seq]
  go_enter Tryd.func7, Tryd.ntmps7
  go_wp2_with (go_at_call 5; refine (VH.out _ (T.on (below_a2 _ _ _))).mono ?_; rintro e w2 ⟨rfl, n, rfl⟩; rw [drewN_alloc, drewN_alloc, drewN_alloc]; have b1 : Below w.heap.size w (w.drewN n) := below_draws (Below.refl _ _) n; have z1 : w.heap.size ≤ (w.drewN n).heap.size := Nat.le_refl _; rw [drewN_size w n]; generalize w.drewN n = w1 at *)
  refine bodyPost_ret (by simp [results, Tryd.results7, go_sem]) rfl ⟨rfl, ?_⟩
  exact below_c3 b1 z1 _ _ _
set_option maxHeartbeats 2000000 in
theorem write_1a0 (c : Ck) (w : World) (v cycle : Int) (o : c.Ok) (T : DTab w) (hv : c.valid = true) (v0 : 0 ≤ v) (v1 : v ≤ 255) (h : ¬ 128 ≤ v) :
    Calls Tryd.prog 7 #[.agg c.cells, .int .u16 16410, .int .u8 v, .int .i64 cycle] w fun e w' => e = .returned (.agg ({ c with ctl := v % 32, pre := 0 }).cells) ∧ Below w.heap.size w w' := by
  have V : ∀ W, DTab W → Calls Tryd.prog 5 #[.agg c.cells] W fun e w' => e = .returned (.bool true) ∧ ∃ n, w' = (W.alloc (.cells c.cells 24)).drewN n := fun W hW => by
    have := valid_ex c W o hW
    rwa [hv] at this
  have e1 := and31 v v0 v1
  have e2 := and128 v v0 v1
  rw [if_neg h] at e2
  clear hv
  obtain ⟨latch, count, pre, hold, ctl, flag, over, five, inh, frame, at_, wait, beats⟩ := c
  have VH : Hid _ := V
  clear V
  unfold Ck.cells
  simp only [Ck.ack, Ck.seq]
  go_enter Tryd.func7, Tryd.ntmps7
  go_wp2_with (go_at_call 5; refine (VH.out _ (T.on (below_a2 _ _ _))).mono ?_; rintro e w2 ⟨rfl, n, rfl⟩; rw [drewN_alloc, drewN_alloc, drewN_alloc]; have b1 : Below w.heap.size w (w.drewN n) := below_draws (Below.refl _ _) n; have z1 : w.heap.size ≤ (w.drewN n).heap.size := Nat.le_refl _; rw [drewN_size w n]; generalize w.drewN n = w1 at *)
  refine bodyPost_ret (by simp [results, Tryd.results7, go_sem]) rfl ⟨rfl, ?_⟩
  exact below_c3 b1 z1 _ _ _
end Go.Proofs.YtobiiogoofkmaaaDoor
namespace Go.Proofs.YtobiiogoofkmaaaDoor
open Go.RowKit Classical
set_option maxHeartbeats 2000000 in
theorem write_1b (c : Ck) (w : World) (v cycle : Int) (o : c.Ok) (T : DTab w) (hv : c.valid = true) (v0 : 0 ≤ v) (v1 : v ≤ 255) :
    Calls Tryd.prog 7 #[.agg c.cells, .int .u16 16411, .int .u8 v, .int .i64 cycle] w fun e w' => e = .returned (.agg (c.ack).cells) ∧ Below w.heap.size w w' := by
  have V : ∀ W, DTab W → Calls Tryd.prog 5 #[.agg c.cells] W fun e w' => e = .returned (.bool true) ∧ ∃ n, w' = (W.alloc (.cells c.cells 24)).drewN n := fun W hW => by
    have := valid_ex c W o hW
    rwa [hv] at this
  clear hv
  obtain ⟨latch, count, pre, hold, ctl, flag, over, five, inh, frame, at_, wait, beats⟩ := c
  have VH : Hid _ := V
  clear V
  unfold Ck.cells
  simp only [Ck.ack, Ck.seq]
  go_enter Tryd.func7, Tryd.ntmps7
  go_wp2_with (first
    | (go_at_call 5; refine (VH.out _ (T.on (below_a2 _ _ _))).mono ?_; rintro e w2 ⟨rfl, n, rfl⟩; rw [drewN_alloc, drewN_alloc, drewN_alloc]; have b1 : Below w.heap.size w (w.drewN n) := below_draws (Below.refl _ _) n; have z1 : w.heap.size ≤ (w.drewN n).heap.size := Nat.le_refl _; rw [drewN_size w n]; generalize w.drewN n = w1 at *)
    | (go_at_call 19; refine (ack_any ⟨latch, count, pre, hold, ctl, _, _, five, inh, frame, at_, wait, beats⟩ _).mono ?_; rintro e w2 ⟨rfl, rfl⟩; simp only [Ck.ack, Ck.cells]))
  refine bodyPost_ret (by simp [results, Tryd.results7, go_sem]) rfl ⟨rfl, ?_⟩
  exact below_c5 b1 z1 _ _ _ _ _
end Go.Proofs.YtobiiogoofkmaaaDoor
namespace Go.Proofs.YtobiiogoofkmaaaDoor
open Go.RowKit Classical
set_option maxHeartbeats 2000000 in
theorem write_17 (c : Ck) (w : World) (v cycle : Int) (o : c.Ok) (T : DTab w) (hv : c.valid = true) (v0 : 0 ≤ v) (v1 : v ≤ 255) :
    Calls Tryd.prog 7 #[.agg c.cells, .int .u16 16407, .int .u8 v, .int .i64 cycle] w fun e w' => e = .returned (.agg (c.seq v cycle).cells) ∧ Below w.heap.size w w' := by
  have V : ∀ W, DTab W → Calls Tryd.prog 5 #[.agg c.cells] W fun e w' => e = .returned (.bool true) ∧ ∃ n, w' = (W.alloc (.cells c.cells 24)).drewN n := fun W hW => by
    have := valid_ex c W o hW
    rwa [hv] at this
  have SQ : Hid _ := fun W => seq_any c v cycle W v0 v1
  generalize c.seq v cycle = d at SQ ⊢
  obtain ⟨d0, d1, d2, d3, d4, d5, d6, d7, d8, d9, d10, d11, d12⟩ := d
  clear hv
  obtain ⟨latch, count, pre, hold, ctl, flag, over, five, inh, frame, at_, wait, beats⟩ := c
  have VH : Hid _ := V
  clear V
  unfold Ck.cells
  simp only
  go_enter Tryd.func7, Tryd.ntmps7
  go_wp2_with (first
    | (go_at_call 5; refine (VH.out _ (T.on (below_a2 _ _ _))).mono ?_; rintro e w2 ⟨rfl, n, rfl⟩; rw [drewN_alloc, drewN_alloc, drewN_alloc]; have b1 : Below w.heap.size w (w.drewN n) := below_draws (Below.refl _ _) n; have z1 : w.heap.size ≤ (w.drewN n).heap.size := Nat.le_refl _; rw [drewN_size w n]; generalize w.drewN n = w1 at *)
    | (go_at_call 20; refine (SQ.out _).mono ?_; rintro e w2 ⟨rfl, rfl⟩; simp only [Ck.cells]))
  refine bodyPost_ret (by simp [results, Tryd.results7, go_sem]) rfl ⟨rfl, ?_⟩
  exact below_c5 b1 z1 _ _ _ _ _
end Go.Proofs.YtobiiogoofkmaaaDoor
namespace Go.Proofs.YtobiiogoofkmaaaDoor
open Go.RowKit Classical
theorem write_any (c : Ck) (w : World) (a v cycle : Int) (o : c.Ok) (T : DTab w) (v0 : 0 ≤ v) (v1 : v ≤ 255) :
    Calls Tryd.prog 7 #[.agg c.cells, .int .u16 a, .int .u8 v, .int .i64 cycle] w fun e w' => e = .returned (.agg (c.wr a v cycle).cells) ∧ Below w.heap.size w w' := by
  unfold Ck.wr
  cases hv : c.valid
  · rw [if_pos rfl]; exact write_no c w v cycle o T hv v0 v1 a
  rw [if_neg (by decide)]
  by_cases h1 : a = 16407
  · subst h1; rw [if_pos rfl]; exact write_17 c w v cycle o T hv v0 v1
  rw [if_neg h1]
  by_cases h2 : a = 16408
  · subst h2; rw [if_pos rfl]; exact write_18 c w v cycle o T hv v0 v1
  rw [if_neg h2]
  by_cases h3 : a = 16409
  · subst h3; rw [if_pos rfl]; exact write_19 c w v cycle o T hv v0 v1
  rw [if_neg h3]
  by_cases h4 : a = 16410
  · subst h4; rw [if_pos rfl]
    by_cases h : 128 ≤ v
    · rw [if_pos h]; exact write_1a1 c w v cycle o T hv v0 v1 h
    · rw [if_neg h]; exact write_1a0 c w v cycle o T hv v0 v1 h
  rw [if_neg h4]
  by_cases h5 : a = 16411
  · subst h5; rw [if_pos rfl]; exact write_1b c w v cycle o T hv v0 v1
  rw [if_neg h5]
  exact write_other c w v cycle o T hv v0 v1 a (by simpa using h1) (by simpa using h2) (by simpa using h3) (by simpa using h4) (by simpa using h5)
end Go.Proofs.YtobiiogoofkmaaaDoor
