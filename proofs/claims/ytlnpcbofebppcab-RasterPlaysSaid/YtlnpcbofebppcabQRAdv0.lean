/-
  The contract of the document's Advance where nothing is done; conditions: the numbers fit their kinds.
-/
import Derived.Test.YtlnpcbofebppcabQSt
import Derived.Test.YtlnpcbofebppcabQRTick
import Derived.Test.YtlnpcbofebppcabQMath4
set_option linter.unusedSimpArgs false
set_option linter.unusedVariables false
namespace Go.Proofs.Ytlnpcbofebppcab
open Go.RowKit Classical
set_option maxHeartbeats 2000000 in
theorem radv_none_false (r : Rs) (n : Int) (w : World) (o : r.Ok) (n0 : -9223372036854775808 ≤ n) (n1 : n ≤ 9223372036854775807) (hn : n < 1) (hv : r.valid = false) :
    Calls Try.prog 19 #[.agg r.cells, .int .i64 n] w fun e w' => e = .returned (.tuple #[.agg (r.adv n).cells, .int .i64 (r.advK n)]) ∧ Below w.heap.size w w' := by
  have hz : 3 * n.toNat = 0 := by omega
  have p1 : r.adv n = r := by unfold Rs.adv; rw [hz]; split <;> rfl
  have p2 : r.advK n = 0 := by unfold Rs.advK; rw [hz]; split <;> rfl
  rw [p1, p2]
  clear p1 p2 hz
  have V : Hid (∀ W : World, Calls Try.prog 34 #[.agg r.cells] W fun e w' => e = .returned (.bool false) ∧ Below W.heap.size W w') := fun W => by
    have := rvalid_any r W o
    rwa [hv] at this
  clear hv
  go_enter Try.func19, Try.ntmps19
  go_upto_region 1 with fail
  have A := At.start w r
  change Code.wp _ _ _ _ ((w.alloc (.cells r.cells 23)).alloc (.cells zeroR.cells 23))
  generalize (w.alloc (.cells r.cells 23)).alloc (.cells zeroR.cells 23) = W0 at *
  go_wp2_with (first
    | (refine wpList_load_blk rfl 23 _ rfl (w.heap.size) rfl (Rs.cells r) _ A.blk Try.underlying23 rfl (infoR' _) ?_)
    | (go_at_call 34; refine (V.out _).mono ?_; rintro e Wx ⟨rfl, hbx⟩; replace A := A.on hbx; clear hbx)
    | (obtain ⟨rc, hr⟩ := A.res; refine wpList_store_blk rfl 23 _ _ rfl (w.heap.size + 1) rc.cells (Rs.cells r) 23 rfl rfl hr rfl (infoR' _) (Rs.cells_one _) w.heap.size w (by omega) A.bel ?_; intro W5 hr5 hb5 ho5))
  refine bodyPost_ret (v := .tuple #[.agg (Rs.cells r), .int .i64 0]) (res_pair (b := w.heap.size + 1) (r := r) Try.results19 rfl rfl hr5) rfl ⟨rfl, hb5⟩
set_option maxHeartbeats 2000000 in
theorem radv_none_true (r : Rs) (n : Int) (w : World) (o : r.Ok) (n0 : -9223372036854775808 ≤ n) (n1 : n ≤ 9223372036854775807) (hn : n < 1) (hv : r.valid = true) :
    Calls Try.prog 19 #[.agg r.cells, .int .i64 n] w fun e w' => e = .returned (.tuple #[.agg (r.adv n).cells, .int .i64 (r.advK n)]) ∧ Below w.heap.size w w' := by
  have hz : 3 * n.toNat = 0 := by omega
  have p1 : r.adv n = r := by unfold Rs.adv; rw [hz]; split <;> rfl
  have p2 : r.advK n = 0 := by unfold Rs.advK; rw [hz]; split <;> rfl
  rw [p1, p2]
  clear p1 p2 hz
  have V : Hid (∀ W : World, Calls Try.prog 34 #[.agg r.cells] W fun e w' => e = .returned (.bool true) ∧ Below W.heap.size W w') := fun W => by
    have := rvalid_any r W o
    rwa [hv] at this
  clear hv
  go_enter Try.func19, Try.ntmps19
  go_upto_region 1 with fail
  have A := At.start w r
  change Code.wp _ _ _ _ ((w.alloc (.cells r.cells 23)).alloc (.cells zeroR.cells 23))
  generalize (w.alloc (.cells r.cells 23)).alloc (.cells zeroR.cells 23) = W0 at *
  go_wp2_with (first
    | (refine wpList_load_blk rfl 23 _ rfl (w.heap.size) rfl (Rs.cells r) _ A.blk Try.underlying23 rfl (infoR' _) ?_)
    | (go_at_call 34; refine (V.out _).mono ?_; rintro e Wx ⟨rfl, hbx⟩; replace A := A.on hbx; clear hbx)
    | (obtain ⟨rc, hr⟩ := A.res; refine wpList_store_blk rfl 23 _ _ rfl (w.heap.size + 1) rc.cells (Rs.cells r) 23 rfl rfl hr rfl (infoR' _) (Rs.cells_one _) w.heap.size w (by omega) A.bel ?_; intro W5 hr5 hb5 ho5))
  refine bodyPost_ret (v := .tuple #[.agg (Rs.cells r), .int .i64 0]) (res_pair (b := w.heap.size + 1) (r := r) Try.results19 rfl rfl hr5) rfl ⟨rfl, hb5⟩
set_option maxHeartbeats 2000000 in
theorem radv_false (r : Rs) (n : Int) (w : World) (o : r.Ok) (n0 : -9223372036854775808 ≤ n) (n1 : n ≤ 9223372036854775807) (hv : r.valid = false) :
    Calls Try.prog 19 #[.agg r.cells, .int .i64 n] w fun e w' => e = .returned (.tuple #[.agg (r.adv n).cells, .int .i64 (r.advK n)]) ∧ Below w.heap.size w w' := by
  have p1 : r.adv n = r := by unfold Rs.adv; rw [hv]; rfl
  have p2 : r.advK n = 0 := by unfold Rs.advK; rw [hv]; rfl
  rw [p1, p2]
  clear p1 p2
  have V : Hid (∀ W : World, Calls Try.prog 34 #[.agg r.cells] W fun e w' => e = .returned (.bool false) ∧ Below W.heap.size W w') := fun W => by
    have := rvalid_any r W o
    rwa [hv] at this
  clear hv
  go_enter Try.func19, Try.ntmps19
  go_upto_region 1 with fail
  have A := At.start w r
  change Code.wp _ _ _ _ ((w.alloc (.cells r.cells 23)).alloc (.cells zeroR.cells 23))
  generalize (w.alloc (.cells r.cells 23)).alloc (.cells zeroR.cells 23) = W0 at *
  go_wp2_with (first
    | (refine wpList_load_blk rfl 23 _ rfl (w.heap.size) rfl (Rs.cells r) _ A.blk Try.underlying23 rfl (infoR' _) ?_)
    | (go_at_call 34; refine (V.out _).mono ?_; rintro e Wx ⟨rfl, hbx⟩; replace A := A.on hbx; clear hbx)
    | (obtain ⟨rc, hr⟩ := A.res; refine wpList_store_blk rfl 23 _ _ rfl (w.heap.size + 1) rc.cells (Rs.cells r) 23 rfl rfl hr rfl (infoR' _) (Rs.cells_one _) w.heap.size w (by omega) A.bel ?_; intro W5 hr5 hb5 ho5))
  refine bodyPost_ret (v := .tuple #[.agg (Rs.cells r), .int .i64 0]) (res_pair (b := w.heap.size + 1) (r := r) Try.results19 rfl rfl hr5) rfl ⟨rfl, hb5⟩
end Go.Proofs.Ytlnpcbofebppcab
