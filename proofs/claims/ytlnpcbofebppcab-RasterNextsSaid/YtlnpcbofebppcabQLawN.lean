/-
  The law RasterNexts returns true; conditions: the numbers fit their kinds.
-/
import Derived.Test.YtlnpcbofebppcabQSt2
import Derived.Test.YtlnpcbofebppcabQLine
import Derived.Test.YtlnpcbofebppcabQRLine
import Derived.Test.YtlnpcbofebppcabQNext
import Derived.Test.YtlnpcbofebppcabQRNext
import Derived.Test.YtlnpcbofebppcabQAfter
import Derived.Test.YtlnpcbofebppcabQRAfter
set_option linter.unusedSimpArgs false
set_option linter.unusedVariables false
namespace Go.Proofs.Ytlnpcbofebppcab
open Go.RowKit Classical
set_option maxHeartbeats 2000000 in
theorem law_rasterNexts (r : Rs) (k : Int) (w : World) (o : r.Ok) (k0 : -9223372036854775808 ≤ k) (k1 : k ≤ 9223372036854775807) :
    Calls Try.prog 5 #[.agg r.cells, .int .i64 k] w fun e w' => e = .returned (.bool true) ∧ Below w.heap.size w w' := by
  have h1 : Hid _ := fun (W : World) => line_any r W o
  have h2 : Hid _ := fun (W : World) => rline_any r W o
  have h3 : Hid _ := fun (W : World) => next_any r W o
  have h4 : Hid _ := fun (W : World) => rnext_any r W o
  have h5 : Hid _ := fun (W : World) => aft_any r k W o k0 k1
  have h6 : Hid _ := fun (W : World) => raft_any r k W o k0 k1
  clear o
  generalize r.nmiL = d at *
  generalize r.nextV = n at *
  generalize r.aftV k = a at *
  go_enter Try.func5, Try.ntmps5
  go_upto_region 1 with fail
  have s0 : St w [(w.heap.size, r)] (w.alloc (.cells r.cells 23)) := St.start w r
  generalize w.alloc (.cells r.cells 23) = W0 at *
  go_wp2_with (first
    | (refine wpList_load_blk rfl 23 _ rfl w.heap.size rfl (Rs.cells r) _ (s0.blk w.heap.size r (by simp)) Try.underlying23 rfl (infoR' _) ?_)
    | (go_at_call 9; refine (h1.out _).mono ?_; rintro e Wx ⟨rfl, hbx⟩; replace s0 := s0.on hbx; clear hbx)
    | (go_at_call 14; refine (h2.out _).mono ?_; rintro e Wx ⟨rfl, hbx⟩; replace s0 := s0.on hbx; clear hbx)
    | (go_at_call 10; refine (h3.out _).mono ?_; rintro e Wx ⟨rfl, hbx⟩; replace s0 := s0.on hbx; clear hbx)
    | (go_at_call 15; refine (h4.out _).mono ?_; rintro e Wx ⟨rfl, hbx⟩; replace s0 := s0.on hbx; clear hbx)
    | (go_at_call 16; refine (h5.out _).mono ?_; rintro e Wx ⟨rfl, hbx⟩; replace s0 := s0.on hbx; clear hbx)
    | (go_at_call 17; refine (h6.out _).mono ?_; rintro e Wx ⟨rfl, hbx⟩; replace s0 := s0.on hbx; clear hbx))
  go_ret
  exact ⟨rfl, s0.2⟩
end Go.Proofs.Ytlnpcbofebppcab
