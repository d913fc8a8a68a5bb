/-
  The contract of Dot; conditions: the numbers fit their kinds.
-/
import Derived.Test.YtlnpcbofebppcaaQSt
import Derived.Test.YtlnpcbofebppcaaQDot
import Derived.Test.YtlnpcbofebppcaaQVal
import Derived.Test.YtlnpcbofebppcaaQMath2
set_option linter.unusedSimpArgs false
set_option linter.unusedVariables false
namespace Go.Proofs.Ytlnpcbofebppcaa
open Go.RowKit Classical
set_option maxHeartbeats 2000000 in
theorem dotV_false (r : Rs) (w : World) (o : r.Ok) (hv : r.valid = false) :
    Calls Try.prog 13 #[.agg r.cells] w fun e w' => e = .returned (.tuple #[.agg r.dotV.cells, .bool r.dotC]) ∧ Below w.heap.size w w' := by
  have V : Hid (∀ W : World, Calls Try.prog 17 #[.agg r.cells] W fun e w' => e = .returned (.bool false) ∧ Below W.heap.size W w') := fun W => by
    have := valid_any r W o
    rwa [hv] at this
  have p1 : r.dotV = r := by unfold Rs.dotV; rw [hv]; rfl
  have p2 : r.dotC = false := by unfold Rs.dotC; rw [hv]; rfl
  rw [p1, p2]
  clear p1 p2 hv
  go_enter Try.func13, Try.ntmps13
  go_upto_region 1 with fail
  have A := At.start w r
  change Code.wp _ _ _ _ ((w.alloc (.cells r.cells 23)).alloc (.cells zeroR.cells 23))
  generalize (w.alloc (.cells r.cells 23)).alloc (.cells zeroR.cells 23) = W0 at *
  go_wp2_with (first
    | (refine wpList_load_blk rfl 23 _ rfl (w.heap.size) rfl (Rs.cells r) _ A.blk Try.underlying23 rfl (infoR' _) ?_)
    | (go_at_call 17; refine (V.out _).mono ?_; rintro e Wx ⟨rfl, hbx⟩; replace A := A.on hbx; clear hbx)
    | (obtain ⟨rc, hr⟩ := A.res; refine wpList_store_blk rfl 23 _ _ rfl (w.heap.size + 1) rc.cells (Rs.cells r) 23 rfl rfl hr rfl (infoR' _) (Rs.cells_one _) w.heap.size w (by omega) A.bel ?_; intro W5 hr5 hb5 ho5))
  refine bodyPost_ret (v := .tuple #[.agg (Rs.cells r), .bool false]) (res_pair (b := w.heap.size + 1) (r := r) Try.results13 rfl rfl hr5) rfl ⟨rfl, hb5⟩
set_option maxHeartbeats 2000000 in
theorem dotV_true (r : Rs) (w : World) (o : r.Ok) (hv : r.valid = true) :
    Calls Try.prog 13 #[.agg r.cells] w fun e w' => e = .returned (.tuple #[.agg r.dotV.cells, .bool r.dotC]) ∧ Below w.heap.size w w' := by
  have rv := (Rs.valid_iff r).1 hv
  have V : Hid (∀ W : World, Calls Try.prog 17 #[.agg r.cells] W fun e w' => e = .returned (.bool true) ∧ Below W.heap.size W w') := fun W => by
    have := valid_any r W o
    rwa [hv] at this
  have p1 : r.dotV = r.d1 := by unfold Rs.dotV; rw [hv]; rfl
  have p2 : r.dotC = r.d1.clk := by unfold Rs.dotC; rw [hv]; rfl
  rw [p1, p2]
  clear p1 p2 hv
  have D : Hid _ := fun (W : World) => dot_any r W rv.l0 rv.l1 rv.d0 rv.d1
  clear rv
  go_enter Try.func13, Try.ntmps13
  go_upto_region 1 with fail
  have A := At.start w r
  change Code.wp _ _ _ _ ((w.alloc (.cells r.cells 23)).alloc (.cells zeroR.cells 23))
  generalize (w.alloc (.cells r.cells 23)).alloc (.cells zeroR.cells 23) = W0 at *
  go_wp2_with (first
    | (refine wpList_load_blk rfl 23 _ rfl (w.heap.size) rfl (Rs.cells r) _ A.blk Try.underlying23 rfl (infoR' _) ?_)
    | (go_at_call 17; refine (V.out _).mono ?_; rintro e Wx ⟨rfl, hbx⟩; replace A := A.on hbx; clear hbx)
    | (go_at_call 26; refine (D.out _).mono ?_; rintro e Wx ⟨rfl, hbx⟩; replace A := A.on hbx; clear hbx)
    | (obtain ⟨rc, hr⟩ := A.res; refine wpList_store_blk rfl 23 _ _ rfl (w.heap.size + 1) rc.cells (Rs.cells r.d1) 23 rfl rfl hr rfl (infoR' _) (Rs.cells_one _) w.heap.size w (by omega) A.bel ?_; intro W5 hr5 hb5 ho5))
  refine bodyPost_ret (v := .tuple #[.agg (Rs.cells r.d1), .bool r.d1.clk]) (res_pair (b := w.heap.size + 1) (r := r.d1) Try.results13 rfl rfl hr5) rfl ⟨rfl, hb5⟩
theorem dotV_any (r : Rs) (w : World) (o : r.Ok) :
    Calls Try.prog 13 #[.agg r.cells] w fun e w' => e = .returned (.tuple #[.agg r.dotV.cells, .bool r.dotC]) ∧ Below w.heap.size w w' := by
  cases hv : r.valid
  · exact dotV_false r w o hv
  · exact dotV_true r w o hv
end Go.Proofs.Ytlnpcbofebppcaa
