/-
  The contract of Write; conditions: the table of the dividers lies in its variable, the numbers fit their kinds.
-/
import Derived.Test.YtjacadiaafcckabDoorTWrite0
set_option linter.unusedSimpArgs false
set_option linter.unusedVariables false
namespace Go.Proofs.YtjacadiaafcckabDoor
open Go.RowKit Classical
set_option maxHeartbeats 2000000 in
theorem write_17 (c : Ck) (w : World) (v cycle : Int) (o : c.Ok) (T : DTab w) (hv : c.valid = true) (v0 : 0 ≤ v) (v1 : v ≤ 255) :
    Calls Tryd.prog 14 #[.agg c.cells, .int .u16 16407, .int .u8 v, .int .i64 cycle] w fun e w' => e = .returned (.agg (c.seq v cycle).cells) ∧ Below w.heap.size w w' := by
  have V : ∀ W, DTab W → Calls Tryd.prog 15 #[.agg c.cells] W fun e w' => e = .returned (.bool true) ∧ ∃ n, w' = (W.alloc (.cells c.cells 25)).drewN n := fun W hW => by
    have := valid_ex c W o hW
    rwa [hv] at this
  have SQ : Hid _ := fun W => seq_any c v cycle W v0 v1
  generalize c.seq v cycle = d at SQ ⊢
  obtain ⟨d0, d1, d2, d3, d4, d5, d6, d7, d8, d9, d10, d11, d12⟩ := d
  clear hv
  obtain ⟨latch, count, pre, hold, ctl, flag, over, five, inh, frame, at_, wait, beats⟩ := c
  have VH : Hid _ := V
  clear V
  unfold Ck.cells
  simp only
  go_enter Tryd.func14, Tryd.ntmps14
  go_wp2_with (first
    | (go_at_call 15; refine (VH.out _ (T.on (below_a2 _ _ _))).mono ?_; rintro e w2 ⟨rfl, n, rfl⟩; rw [drewN_alloc, drewN_alloc, drewN_alloc]; have b1 : Below w.heap.size w (w.drewN n) := below_draws (Below.refl _ _) n; have z1 : w.heap.size ≤ (w.drewN n).heap.size := Nat.le_refl _; rw [drewN_size w n]; generalize w.drewN n = w1 at *)
    | (go_at_call 25; refine (SQ.out _).mono ?_; rintro e w2 ⟨rfl, rfl⟩; simp only [Ck.cells]))
  refine bodyPost_ret (by simp [results, Tryd.results14, go_sem]) rfl ⟨rfl, ?_⟩
  exact below_c5 b1 z1 _ _ _ _ _
end Go.Proofs.YtjacadiaafcckabDoor
